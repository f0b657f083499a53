/- RepeatedKey of both sides. -/
import Derived.Test.YtncpnoloamebnaaInYN
import Derived.Test.YtncpnoloamebnaaKit
import Derived.Deep.QuietTactic
import Derived.BigQuiet
namespace Go.Proofs.Ytncpnoloamebnaa
open Go.RowKit
set_option linter.unusedSimpArgs false
set_option linter.unusedVariables false
def repL (u v : UInt8) : Nat → List UInt8
  | 0 => []
  | k + 1 => repL u v k ++ [u, v]
theorem repL_length (u v : UInt8) : ∀ k, (repL u v k).length = 2 * k
  | 0 => rfl
  | k + 1 => by simp [repL, repL_length u v k]; omega
def repS (a b : Int) (k : Nat) : ByteArray := ⟨(repL (UInt8.ofNat a.toNat) (UInt8.ofNat b.toNat) k).toArray⟩
theorem repS_size (a b : Int) (k : Nat) : (repS a b k).size = 2 * k := by
  show (repL _ _ k).toArray.size = 2 * k
  simp [repL_length]
theorem repS_next (a b : Int) (k : Nat) : repS a b k ++ ⟨#[UInt8.ofNat a.toNat, UInt8.ofNat b.toNat]⟩ = repS a b (k + 1) := by
  apply WideShapes.bytes_inj
  unfold repS
  simp [repL]
theorem u8s_rep (a b : Int) (ha : 0 ≤ a ∧ a ≤ 255) (hb : 0 ≤ b ∧ b ≤ 255) (k : Nat) :
    u8s (repL (UInt8.ofNat a.toNat) (UInt8.ofNat b.toNat) k) ++ [.int .u8 a, .int .u8 b] = u8s (repL (UInt8.ofNat a.toNat) (UInt8.ofNat b.toNat) (k + 1)) := by
  show _ = u8s (repL _ _ k ++ [_, _])
  rw [u8s_append]
  congr 1
  simp only [u8s, List.map_cons, List.map_nil, UInt8.toNat_ofNat']
  have e1 : ((a.toNat % 2 ^ 8 : Nat) : Int) = a := by omega
  have e2 : ((b.toNat % 2 ^ 8 : Nat) : Int) = b := by omega
  rw [e1, e2]
def repKey (a b : Int) : ByteArray := if (0 ≤ a ∧ a ≤ 255) ∧ 0 ≤ b ∧ b ≤ 255 then repS a b 8 else ⟨#[]⟩
set_option maxHeartbeats 2000000 in
set_option maxRecDepth 100000 in
theorem impl_repkey (a b : Int) (w : World) :
    Calls Try.prog 28 #[.int .i64 a, .int .i64 b] w fun r w' => r = .returned (.string (repKey a b)) ∧ Below w.heap.size w w' := by
  by_cases ha : 0 ≤ a ∧ a ≤ 255
  case neg =>
    rw [show repKey a b = ⟨#[]⟩ from if_neg (fun hh => ha hh.1)]
    have YA := Lib.hid fun W => impl_in_no a 0 255 W ha
    go_enter Try.func28, Try.ntmps28
    go_wp2_with (go_at_call 49; refine (YA.out _).mono ?_; rintro e w' ⟨rfl, rfl⟩)
    go_ret
    exact ⟨rfl, Below.refl _ _⟩
  by_cases hb : 0 ≤ b ∧ b ≤ 255
  case neg =>
    rw [show repKey a b = ⟨#[]⟩ from if_neg (fun hh => hb hh.2)]
    go_enter Try.func28, Try.ntmps28
    go_wp2_with fail
    refine (impl_in_yes a 0 255 _ ha).mono ?_
    rintro e w' ⟨rfl, rfl⟩
    go_wp2_with fail
    refine (impl_in_no b 0 255 _ hb).mono ?_
    rintro e w' ⟨rfl, rfl⟩
    go_wp2
    go_ret
    exact ⟨rfl, Below.refl _ _⟩
  rw [show repKey a b = repS a b 8 from if_pos ⟨ha, hb⟩]
  have hconv := conv_two a b (by omega) (by omega)
  go_enter Try.func28, Try.ntmps28
  go_wp2_with fail
  refine (impl_in_yes a 0 255 _ ha).mono ?_
  rintro e w' ⟨rfl, rfl⟩
  go_wp2_with fail
  refine (impl_in_yes b 0 255 _ hb).mono ?_
  rintro e w' ⟨rfl, rfl⟩
  go_wp2
  go_loopw [5] (fun t wr => ∃ k : Nat, k ≤ 8 ∧ ∃ S : ByteArray, t = .string S ∧ Hid (S = repS a b k) ∧ S.size = 2 * k ∧ Hid (Below w.heap.size w wr))
    (fun t _ => match t with | .string S => 16 - S.size | _ => 0)
  case atStart => exact ⟨0, by omega, ⟨#[]⟩, rfl, Lib.hid rfl, rfl, Lib.hid (Below.refl _ _)⟩
  case round =>
    obtain ⟨k, hk, S, rfl, HS, hz, HB⟩ := hrel
    by_cases hlt : k < 8
    · have c1 : (S.size : Int) < 16 := by omega
      have HN : Hid (S ++ ⟨#[UInt8.ofNat a.toNat, UInt8.ofNat b.toNat]⟩ = repS a b (k + 1)) := Lib.hid (by rw [HS.out]; exact repS_next a b k)
      have z2 : (⟨#[UInt8.ofNat a.toNat, UInt8.ofNat b.toNat]⟩ : ByteArray).size = 2 := rfl
      have hz3 : (S ++ ⟨#[UInt8.ofNat a.toNat, UInt8.ofNat b.toNat]⟩).size = 2 * (k + 1) := by rw [ByteArray.size_append, z2]; omega
      have Hz3 := Lib.hid hz3
      clear hz3
      go_wp2
      go_roundw
      case rel => exact ⟨k + 1, by omega, _, rfl, HN, Hz3.out, Lib.hid (below_comp HB.out (below_new _))⟩
      case measure =>
        have := Hz3.out
        dsimp only
        omega
    · obtain rfl : k = 8 := by omega
      have c1 : ¬ (S.size : Int) < 16 := by omega
      have HE : Hid (S = repS a b 8) := HS
      go_wp2
      go_ret
      exact ⟨by rw [HE.out]; rfl, HB.out⟩
set_option maxHeartbeats 2000000 in
set_option maxRecDepth 100000 in
theorem spec_repkey (a b : Int) (w : World) :
    Calls Try.prog 27 #[.int .i64 a, .int .i64 b] w fun r w' => r = .returned (.string (repKey a b)) ∧ Below w.heap.size w w' := by
  by_cases ha : 0 ≤ a ∧ a ≤ 255
  case neg =>
    rw [show repKey a b = ⟨#[]⟩ from if_neg (fun hh => ha hh.1)]
    have YA := Lib.hid fun W => spec_in_no a 0 255 W ha
    go_enter Try.func27, Try.ntmps27
    go_wp2_with (go_at_call 47; refine (YA.out _).mono ?_; rintro e w' ⟨rfl, rfl⟩)
    go_ret
    exact ⟨rfl, Below.refl _ _⟩
  by_cases hb : 0 ≤ b ∧ b ≤ 255
  case neg =>
    rw [show repKey a b = ⟨#[]⟩ from if_neg (fun hh => hb hh.2)]
    go_enter Try.func27, Try.ntmps27
    go_wp2_with fail
    refine (spec_in_yes a 0 255 _ ha).mono ?_
    rintro e w' ⟨rfl, rfl⟩
    go_wp2_with fail
    refine (spec_in_no b 0 255 _ hb).mono ?_
    rintro e w' ⟨rfl, rfl⟩
    go_wp2
    go_ret
    exact ⟨rfl, Below.refl _ _⟩
  rw [show repKey a b = repS a b 8 from if_pos ⟨ha, hb⟩]
  obtain ⟨i0, hi, hz0, hz1, hz2⟩ := info_parts Try.info8
  go_enter Try.func27, Try.ntmps27
  go_wp2_with fail
  refine (spec_in_yes a 0 255 _ ha).mono ?_
  rintro e w' ⟨rfl, rfl⟩
  go_wp2_with fail
  refine (spec_in_yes b 0 255 _ hb).mono ?_
  rintro e w' ⟨rfl, rfl⟩
  go_wp2
  go_loopw [5, 6] (fun v i wr => ∃ k : Nat, k ≤ 8 ∧ i = .int .i64 k ∧ wr.ownsRow w.heap.size 5 1 v (2 * k) (u8s (repL (UInt8.ofNat a.toNat) (UInt8.ofNat b.toNat) k)) ∧ Below w.heap.size w wr)
    (fun _ i _ => 9 - (intOf i).toNat)
  case atStart => exact ⟨0, Nat.zero_le _, rfl, World.ownsRow_lit w #[] 0 (Nat.le_refl _) (by unfold maxLen; omega) rfl, (Below.refl _ _).alloc (Nat.le_refl _) _⟩
  case round =>
    obtain ⟨k, hk, rfl, hown, hbl⟩ := hrel
    by_cases hlt : k < 8
    · have HX : Hid (u8s (repL (UInt8.ofNat a.toNat) (UInt8.ofNat b.toNat) k) ++ [.int .u8 a, .int .u8 b] = u8s (repL (UInt8.ofNat a.toNat) (UInt8.ofNat b.toNat) (k + 1))) := Lib.hid (u8s_rep a b ha hb k)
      have hz : w.heap.size ≤ wr.heap.size + 1 := by have := hbl.size; omega
      have m1 : 2 * k + 2 ≤ maxLen := by unfold maxLen; omega
      have m2 : (2 * k + 2) * 1 ≤ 140737488355328 := by omega
      go_wp2_with (refine wpList_push rfl (.tmp 20) (.tmp 25) 64 rfl w.heap.size elem8 (by simp [go_sem, Act.eval]) (hown.alloc _) _ 2 2 [.int .u8 a, .int .u8 b] (by simp [go_sem, Act.eval]) (heap_alloc_new _ _) (by simp) (by simp [Value.oneCell']) (by omega) m1 m2 (by simpa using hz) ?_; intro g1 cap1 w1 hown1 hgrow1)
      rw [HX.out] at hown1
      go_roundw
      case rel => exact ⟨k + 1, by omega, by go_num, hown1, below_push hbl hbl.size hown _ hgrow1⟩
      case measure => simp [intOf]; omega
    · obtain rfl : k = 8 := by omega
      have hs := run_string_own (P := Try.prog) (dst := 9) Try.underlying64 Try.underlying5 Try.underlying9 hown
      go_wp2
      go_ret
      exact ⟨rfl, hbl⟩
end Go.Proofs.Ytncpnoloamebnaa
