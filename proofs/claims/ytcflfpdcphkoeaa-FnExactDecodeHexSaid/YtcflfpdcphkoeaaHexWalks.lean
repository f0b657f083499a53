/- Contracts of EncodeHex in the model and in the program: both give the hexadecimal text. -/
import Derived.Test.YtcflfpdcphkoeaaBase
import Derived.Test.YtcflfpdcphkoeaaHexMath
import Derived.RegionTactic
import Derived.Laws.IdiomStrings
namespace Go.Proofs.Ytcflfpdcphkoeaa
open Go.RowKit

theorem Try.info5 : (Try.prog.info? 5).map (fun i => (i.zero, i.size, i.bytes)) = some (some (.int .u8 0), 1, 1) := by kernel_rfl

theorem elem8 : Elem Try.prog 22 5 (.int .u8 0) 1 1 := ⟨Try.underlying22, info_parts Try.info5, by decide, by decide⟩

theorem u8s_hexB (b : UInt8) : u8s (hexB b) = [.int .u8 (fig ((b.toNat : Int) / 16)), .int .u8 (fig ((b.toNat : Int) % 16))] := by
  have hb : b.toNat < 256 := UInt8.toNat_lt _
  simp only [u8s, hexB, List.map_cons, List.map_nil, figB_toNat _ (show b.toNat / 16 < 16 by omega), figB_toNat _ (show b.toNat % 16 < 16 by omega), Int.natCast_ediv, Int.natCast_emod]
  rfl

theorem figure_any (n : Int) (w : World) (h0 : 0 ≤ n) (h : n < 16) :
    Calls Try.prog 25 #[.int .i64 n] w fun e w' => e = .returned (.int .u8 (fig n)) ∧ w = w' := by
  by_cases h1 : n < 10
  · go_enter Try.func25, Try.ntmps25
    go_wp2
    go_ret
    exact ⟨ret_int (by unfold fig; rw [if_pos h1]), rfl⟩
  · go_enter Try.func25, Try.ntmps25
    go_wp2
    go_ret
    exact ⟨ret_int (by unfold fig; rw [if_neg (by omega)]; omega), rfl⟩

theorem spec_encode_over (s : ByteArray) (w : World) (hs : s.size ≤ maxLen) (h : 20000 < s.size) :
    Calls Try.prog 11 #[.string s] w fun e w' => e = .returned (.tuple #[.string ⟨#[]⟩, .bool false]) ∧ w = w' := by
  unfold maxLen at hs
  go_enter Try.func11, Try.ntmps11
  go_wp2
  go_ret2
  exact ⟨rfl, rfl⟩

set_option maxHeartbeats 1000000 in
theorem spec_encode_fits (s : ByteArray) (w : World) (h : s.size ≤ 20000) :
    Calls Try.prog 11 #[.string s] w fun e w' => e = .returned (.tuple #[.string ⟨(hexL s.data.toList).toArray⟩, .bool true]) ∧ Below w.heap.size w w' := by
  obtain ⟨i0, hi, hz0, hz1, hz2⟩ := info_parts Try.info5
  have h' : ¬ 20000 < s.size := by omega
  go_enter Try.func11, Try.ntmps11
  go_wp2
  go_loopw [4, 5] (fun v i wr => ∃ k : Nat, k ≤ s.size ∧ i = .int .i64 k ∧ wr.ownsRow w.heap.size 5 1 v (2 * k) (u8s (hexL (s.data.toList.take k))) ∧ Below w.heap.size w wr)
    (fun _ i _ => s.size - (intOf i).toNat)
  case atStart => exact ⟨0, Nat.zero_le _, rfl, World.ownsRow_lit w #[] 0 (Nat.le_refl _) (by unfold maxLen; omega) rfl, (Below.refl _ _).alloc (Nat.le_refl _) _⟩
  case round =>
    obtain ⟨k, hk, rfl, hown, hb⟩ := hrel
    by_cases hlt : k < s.size
    · have hc : s[k].toNat < 256 := UInt8.toNat_lt _
      have d1 : (0 : Int) ≤ (s[k].toNat : Int) / 16 ∧ (s[k].toNat : Int) / 16 < 16 := by omega
      have d2 : (0 : Int) ≤ (s[k].toNat : Int) % 16 ∧ (s[k].toNat : Int) % 16 < 16 := by omega
      have HX : Hid (u8s (hexL (s.data.toList.take k)) ++ [.int .u8 (fig ((s[k].toNat : Int) / 16)), .int .u8 (fig ((s[k].toNat : Int) % 16))] = u8s (hexL (s.data.toList.take (k + 1)))) := Lib.hid (by rw [hexL_take s k hlt, u8s_append, u8s_hexB])
      have hz : w.heap.size ≤ wr.heap.size + 1 := by have := hb.size; omega
      have m1 : 2 * k + 2 ≤ maxLen := by unfold maxLen; omega
      have m2 : (2 * k + 2) * 1 ≤ 140737488355328 := by omega
      have e1 : IntKind.i64.wrap (s[k].toNat : Int) = s[k].toNat := wrap_in _ (by omega) (by omega)
      have e2 : (s[k].toNat : Int).tdiv 16 = (s[k].toNat : Int) / 16 := Int.tdiv_eq_ediv_of_nonneg (by omega)
      have e3 : IntKind.i64.wrap ((s[k].toNat : Int) / 16) = (s[k].toNat : Int) / 16 := wrap_in _ (by omega) (by omega)
      have e4 : (s[k].toNat : Int).tmod 16 = (s[k].toNat : Int) % 16 := Int.tmod_eq_emod_of_nonneg (by omega)
      go_wp2_with fail
      go_region_law (first
        | (refine step_push rfl (.tmp 16) (.tmp 29) 22 rfl w.heap.size elem8 (by simp [go_sem, Act.eval]) (hown.alloc _) _ 2 2 [.int .u8 (fig ((s[k].toNat : Int) / 16)), .int .u8 (fig ((s[k].toNat : Int) % 16))] (by simp [go_sem, Act.eval]) (heap_alloc_new _ _) rfl (by simp [Value.oneCell']) (by decide) m1 m2 (by simpa using hz) ?_; intro g cap w1 hown1 hgrow1)
        | (go_simp; go_at_call 25; with_reducible refine (figure_any _ _ (by first | exact d1.1 | exact d2.1) (by first | exact d1.2 | exact d2.2)).mono ?_; rintro e w' ⟨rfl, rfl⟩))
      all_goals
        clear e1 e2 e3 e4
        go_wp2
        rw [HX.out] at hown1
        go_roundw
        case rel => exact ⟨k + 1, by omega, by go_num, hown1, below_push_drew hb hb.size hown _ hgrow1⟩
        case measure => simp [intOf]; omega
    · obtain rfl : k = s.size := by omega
      rw [List.take_of_length_le (by simp)] at hown
      have hs := run_string_own (P := Try.prog) (dst := 9) Try.underlying22 Try.underlying5 Try.underlying9 hown
      go_wp2
      go_ret2
      exact ⟨rfl, hb⟩

end Go.Proofs.Ytcflfpdcphkoeaa
