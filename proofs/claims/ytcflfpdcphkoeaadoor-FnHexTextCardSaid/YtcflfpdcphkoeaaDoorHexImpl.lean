/- The contract of EncodeHex in the program: it gives the hexadecimal text. -/
import Derived.Test.YtcflfpdcphkoeaaDoorHexCommon
import Derived.Laws.BitsAllLaws
namespace Go.Proofs.YtcflfpdcphkoeaaDoor
open Go.RowKit

theorem u8_and15 (b : UInt8) : bits .and .u8 (b.toNat : Int) 15 = (b.toNat : Int) % 16 := by
  rw [show (15 : Int) = ((15 : Nat) : Int) from rfl, u8_and_nat _ _ (UInt8.toNat_lt _) (by decide), nat_mask4]; rfl

theorem digit_fin : ∀ m : Fin 16, (((⟨#[48, 49, 50, 51, 52, 53, 54, 55, 56, 57, 97, 98, 99, 100, 101, 102]⟩ : ByteArray)[m.val]'(m.isLt)).toNat : Int) = fig (m.val : Int) := by decide
theorem digit_at (n : Int) (h0 : 0 ≤ n) (h1 : n < 16) (h : n.toNat < (⟨#[48, 49, 50, 51, 52, 53, 54, 55, 56, 57, 97, 98, 99, 100, 101, 102]⟩ : ByteArray).size) :
    (((⟨#[48, 49, 50, 51, 52, 53, 54, 55, 56, 57, 97, 98, 99, 100, 101, 102]⟩ : ByteArray)[n.toNat]'h).toNat : Int) = fig n := by
  have := digit_fin ⟨n.toNat, by omega⟩
  rw [this]
  show fig ((n.toNat : Nat) : Int) = fig n
  rw [Int.toNat_of_nonneg h0]

theorem impl_encode_over (s : ByteArray) (w : World) (hs : s.size ≤ maxLen) (h : 20000 < s.size) :
    Calls Tryd.prog 10 #[.string s] w fun e w' => e = .returned (.tuple #[.string ⟨#[]⟩, .bool false]) ∧ w = w' := by
  unfold maxLen at hs
  go_enter Tryd.func10, Tryd.ntmps10
  go_wp2
  go_ret2
  exact ⟨rfl, rfl⟩

set_option maxHeartbeats 1000000 in
theorem impl_encode_fits (s : ByteArray) (w : World) (h : s.size ≤ 20000) :
    Calls Tryd.prog 10 #[.string s] w fun e w' => e = .returned (.tuple #[.string ⟨(hexL s.data.toList).toArray⟩, .bool true]) ∧ Below w.heap.size w w' := by
  obtain ⟨i0, hi, hz0, hz1, hz2⟩ := info_parts Tryd.info8
  have h' : ¬ 20000 < s.size := by omega
  have h2 : 2 * (s.size : Int) ≤ 40000 := by omega
  go_enter Tryd.func10, Tryd.ntmps10
  go_wp2_with (at_make; refine wpList_make_own _ rfl _ _ 22 rfl w.heap.size 5 i0 (.int .u8 0) 1 Tryd.underlying22 hi hz0 hz1 .i64 .i64 _ (2 * s.size) rfl rfl (by first | rfl | (simp; omega) | simp) (by rw [hz2]; omega) (by unfold maxLen; omega) (Nat.le_refl _) ?_; intro w0 hown0 hgrow0)
  have hb0 : Below w.heap.size w w0 := (Below.refl _ _).grown hgrow0 (Nat.le_refl _) (by intro k hk; cases hk)
  go_loopw [4, 15] (fun v i wr => ∃ k : Nat, k ≤ s.size ∧ i = .int .i64 k ∧ wr.ownsRow w.heap.size 5 1 v (2 * k) (u8s (hexL (s.data.toList.take k))) ∧ Below w.heap.size w wr)
    (fun _ i _ => s.size - (intOf i).toNat)
  case atStart => exact ⟨0, Nat.zero_le _, rfl, by simpa [hexL, u8s] using hown0, hb0⟩
  case round =>
    clear hown0 hgrow0 hb0
    obtain ⟨k, hk, rfl, hown, hb⟩ := hrel
    by_cases hlt : k < s.size
    · have HX : Hid (u8s (hexL (s.data.toList.take k)) ++ [.int .u8 (fig ((s[k].toNat : Int) / 16)), .int .u8 (fig ((s[k].toNat : Int) % 16))] = u8s (hexL (s.data.toList.take (k + 1)))) := Lib.hid (by rw [hexL_take s k hlt, u8s_append, u8s_hexB])
      have hc : s[k].toNat < 256 := UInt8.toNat_lt _
      have d1 : (0 : Int) ≤ (s[k].toNat : Int) / 16 := by omega
      have d2 : (s[k].toNat : Int) / 16 < 16 := by omega
      have d3 : (0 : Int) ≤ (s[k].toNat : Int) % 16 := by omega
      have d4 : (s[k].toNat : Int) % 16 < 16 := by omega
      have hz : w.heap.size ≤ wr.heap.size + 1 := by have := hb.size; omega
      have m1 : 2 * k + 2 ≤ maxLen := by unfold maxLen; omega
      have m2 : (2 * k + 2) * 1 ≤ 140737488355328 := by omega
      have e5 := u8_and15 s[k]
      go_wp2_with fail
      go_region_law (first
        | (refine step_push rfl (.tmp 18) (.tmp 29) 22 rfl w.heap.size elem8 (by simp [go_sem, Act.eval]) (hown.alloc _) _ 2 2 _ (by simp [go_sem, Act.eval]) (heap_alloc_new _ _) rfl (by simp [Value.oneCell']) (by decide) m1 m2 (by simpa using hz) ?_; intro g cap w1 hown1 hgrow1))
      all_goals
        clear e5
        go_wp2
        rw [digit_at _ d1 d2, digit_at _ d3 d4, HX.out] at hown1
        go_roundw
        case rel => exact ⟨k + 1, by omega, by go_num, hown1, below_push_drew hb hb.size hown _ hgrow1⟩
        case measure => simp [intOf]; omega
    · obtain rfl : k = s.size := by omega
      rw [List.take_of_length_le (by simp)] at hown
      have hs := run_string_own (P := Tryd.prog) (dst := 9) Tryd.underlying22 Tryd.underlying5 Tryd.underlying9 hown
      go_wp2
      go_ret2
      exact ⟨rfl, hb⟩

end Go.Proofs.YtcflfpdcphkoeaaDoor
