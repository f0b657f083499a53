/- Contracts of the program's changes of byte strings, and of its sums. -/
import Derived.Test.YtkknfcnajgolfaaWordsImpl
import Derived.Test.YtkknfcnajgolfaaGet16Impl
import Derived.Test.YtkknfcnajgolfaaBytesMath
import Derived.Deep.QuietTactic
import Derived.BigQuiet
namespace Go.Proofs.Ytkknfcnajgolfaa
open Go.RowKit

theorem impl_add (a b : Int) (w : World) (ha : -9223372036854775808 ≤ a ∧ a ≤ 9223372036854775807) (hb : -9223372036854775808 ≤ b ∧ b ≤ 9223372036854775807) :
    Calls Try.prog 101 #[.int .i64 a, .int .i64 b] w fun e w' => e = .returned (.int .i64 (addS a b)) ∧ w = w' := by
  by_cases h1 : 0 ≤ a
  · by_cases h2 : a ≤ 65535
    · by_cases h3 : 0 ≤ b
      · by_cases h4 : b ≤ 65535
        · by_cases h5 : 65535 < a + b
          all_goals
            go_enter Try.func101, Try.ntmps101
            go_wp2
            go_ret
            exact ⟨ret_int (by unfold addS; rw [if_pos ⟨h1, h2, h3, h4⟩]; first | rw [if_pos (by omega)] | rw [if_neg (by omega)]), rfl⟩
        · go_enter Try.func101, Try.ntmps101
          go_wp2
          go_ret
          exact ⟨ret_int (by unfold addS; rw [if_neg (by omega)]), rfl⟩
      · go_enter Try.func101, Try.ntmps101
        go_wp2
        go_ret
        exact ⟨ret_int (by unfold addS; rw [if_neg (by omega)]), rfl⟩
    · go_enter Try.func101, Try.ntmps101
      go_wp2
      go_ret
      exact ⟨ret_int (by unfold addS; rw [if_neg (by omega)]), rfl⟩
  · go_enter Try.func101, Try.ntmps101
    go_wp2
    go_ret
    exact ⟨ret_int (by unfold addS; rw [if_neg (by omega)]), rfl⟩

theorem impl_put (s t : ByteArray) (p : Int) (w : World) (hs : s.size ≤ 4194304) (ht : t.size ≤ 4194304) (hp : -9223372036854775808 ≤ p ∧ p ≤ 9223372036854775807) :
    Calls Try.prog 92 #[.string s, .int .i64 p, .string t] w fun e w' => e = .returned (.string (put s p t)) ∧ ∃ m, w' = w.drewN m := by
  by_cases h : 0 ≤ p ∧ p + t.size ≤ s.size
  · obtain ⟨n, rfl⟩ : ∃ n : Nat, p = n := ⟨p.toNat, by omega⟩
    have h1 : n + t.size ≤ s.size := by omega
    have HG : Hid (put s n t = s.extract 0 n ++ t ++ s.extract (n + t.size) s.size) := Lib.hid (by unfold put; rw [if_pos h]; rfl)
    have z1 : (s.extract 0 n).size = n := by rw [ByteArray.size_extract]; omega
    have z2 : (s.extract 0 n ++ t).size ≤ 8388608 := by rw [ByteArray.size_append]; omega
    have z3 : (s.extract (n + t.size) s.size).size ≤ 4194304 := by rw [ByteArray.size_extract]; omega
    have Z1 : (s.extract 0 n).size ≤ 4194304 := by omega
    have c0 : (0 : Int) ≤ (n : Int) := by omega
    have c1 : (n : Int) ≤ (s.size : Int) - (t.size : Int) := by omega
    have c2 : (n : Int) ≤ (s.size : Int) := by omega
    clear z1
    go_enter Try.func92, Try.ntmps92
    go_wp2_with go_in
    go_quiet (fail)
    go_wp2
    go_ret
    exact ⟨by rw [HG.out]; rfl, _, rfl⟩
  · have HG : Hid (put s p t = s) := Lib.hid (by unfold put; rw [if_neg h])
    by_cases h0 : 0 ≤ p
    · have h2 : ¬ p ≤ (s.size : Int) - (t.size : Int) := by omega
      clear h
      go_enter Try.func92, Try.ntmps92
      go_wp2
      go_ret
      exact ⟨by rw [HG.out]; rfl, 0, rfl⟩
    · clear h
      go_enter Try.func92, Try.ntmps92
      go_wp2
      go_ret
      exact ⟨by rw [HG.out]; rfl, 0, rfl⟩

/-- The string with a zero byte behind an odd length. -/
def evenS (s : ByteArray) : ByteArray := if s.size % 2 = 0 then s else s ++ ⟨#[0]⟩
theorem evenS_even (s : ByteArray) : (evenS s).size % 2 = 0 := by
  unfold evenS
  split
  · assumption
  · rw [ByteArray.size_append]; show (s.size + 1) % 2 = 0; omega
theorem evenS_size (s : ByteArray) : (evenS s).size ≤ s.size + 1 := by
  unfold evenS
  split
  · omega
  · rw [ByteArray.size_append]; exact Nat.le_refl _
theorem sumL_zero : ∀ (l : List UInt8) (acc : Int), l.length % 2 = 1 → sumL acc (l ++ [0]) = sumL acc l
  | [], _, h => by simp at h
  | [a], acc, _ => by
    show addS acc ((a.toNat : Int) * 256 + ((0 : UInt8).toNat : Int)) = addS acc ((a.toNat : Int) * 256)
    rw [show ((0 : UInt8).toNat : Int) = 0 from rfl, Int.add_zero]
  | a :: b :: l, acc, h => by
    simp only [List.cons_append, sumL]
    exact sumL_zero l _ (by simp at h; omega)
theorem sumW_even (s : ByteArray) : sumW (evenS s) = sumW s := by
  unfold evenS
  split
  · rfl
  · unfold sumW
    rw [show (s ++ (⟨#[0]⟩ : ByteArray)).data.toList = s.data.toList ++ [0] from by simp]
    exact sumL_zero _ _ (by simp; omega)

theorem sum_pair (u : ByteArray) (k : Nat) (h : 2 * k + 1 < u.size) : addS (sumL 0 (u.data.toList.take (2 * k))) (get16 u (2 * (k : Int))) = sumL 0 (u.data.toList.take (2 * (k + 1))) := by
  have h1 := sum_two u (2 * k) h (by omega)
  have h2 := get16_in u (2 * k) (by omega)
  rw [show ((2 * k : Nat) : Int) = 2 * (k : Int) from by omega] at h2
  rw [h2, show 2 * (k + 1) = 2 * k + 2 from by omega]
  exact h1.symm
theorem get16_pair (u : ByteArray) (k : Nat) (h : 2 * k + 1 < u.size) : 0 ≤ get16 u (2 * (k : Int)) ∧ get16 u (2 * (k : Int)) ≤ 65535 := by
  have h2 := get16_bd u (2 * k) (by omega)
  rwa [show ((2 * k : Nat) : Int) = 2 * (k : Int) from by omega] at h2
theorem drewN_two (w : World) (a b : Nat) : ∃ n, (w.drewN a).drewN b = w.drewN n := ⟨a + b, by rw [World.drewN_drewN]⟩

set_option maxHeartbeats 1000000 in
theorem impl_sum (s : ByteArray) (w : World) (hs : s.size ≤ 4194304) :
    Calls Try.prog 90 #[.string s] w fun e w' => e = .returned (.int .i64 (sumW s)) ∧ ∃ m, w' = w.drewN m := by
  by_cases hp : s.size % 2 = 0
  case' pos =>
    have e1 : ((s.size : Int) % 2 != 0) = false := by rw [show (s.size : Int) % 2 = 0 from by omega]; rfl
    obtain ⟨u, HU⟩ : ∃ u, Hid (s = u ∧ sumW u = sumW s) := ⟨s, Lib.hid ⟨rfl, rfl⟩⟩
    have hu : u.size ≤ 4194305 := by rw [← HU.out.1]; omega
    have he : u.size % 2 = 0 := by rw [← HU.out.1]; omega
    rw [HU.out.1] at e1 ⊢
  case' neg =>
    have e1 : ((s.size : Int) % 2 != 0) = true := by rw [show (s.size : Int) % 2 = 1 from by omega]; rfl
    obtain ⟨u, HU⟩ : ∃ u, Hid (s ++ (⟨#[0]⟩ : ByteArray) = u ∧ sumW u = sumW s) := ⟨s ++ ⟨#[0]⟩, Lib.hid ⟨rfl, by have := sumW_even s; unfold evenS at this; rwa [if_neg hp] at this⟩⟩
    have hu : u.size ≤ 4194305 := by rw [← HU.out.1, ByteArray.size_append]; show s.size + 1 ≤ _; omega
    have he : u.size % 2 = 0 := by rw [← HU.out.1, ByteArray.size_append]; show (s.size + 1) % 2 = 0; omega
    have z1 : s.size + (⟨#[0]⟩ : ByteArray).size ≤ 4194305 := by show s.size + 1 ≤ _; omega
    have ZZ : Hid (((s.size : Int) + 1) / 2 = (u.size : Int) / 2) := Lib.hid (by rw [← HU.out.1, ByteArray.size_append]; show _ = ((s.size + 1 : Nat) : Int) / 2; omega)
  all_goals
    have HE := Lib.hid he
    clear he hp
    go_enter Try.func90, Try.ntmps90
    go_wp2
    try rw [HU.out.1]
    try rw [ZZ.out]
    go_loopw [3, 14] (fun t i W => ∃ k : Nat, i = .int .i64 k ∧ 2 * k ≤ u.size ∧ (∃ d, W = w.drewN d) ∧ ∃ a : Int, t = .int .i64 a ∧ 0 ≤ a ∧ a ≤ 65535 ∧ Hid (a = sumL 0 (u.data.toList.take (2 * k)))) (fun _ i _ => u.size + 2 - (intOf i).toNat)
    case atStart => exact ⟨0, rfl, by omega, ⟨0, rfl⟩, 0, rfl, by omega, by omega, Lib.hid rfl⟩
    case round =>
      obtain ⟨k, rfl, hk, ⟨d, rfl⟩, a, rfl, a0, a1, HA⟩ := hrel
      by_cases hlt : 2 * k < u.size
      · have h2 : 2 * k + 1 < u.size := by have := HE.out; omega
        have c1 : (k : Int) < (u.size : Int) / 2 := by omega
        obtain ⟨b0, b1⟩ := get16_pair u k h2
        have HS : Hid (addS a (get16 u (2 * (k : Int))) = sumL 0 (u.data.toList.take (2 * (k + 1)))) := Lib.hid (by rw [HA.out]; exact sum_pair u k h2)
        have hb := addS_in a (get16 u (2 * (k : Int))) ⟨a0, a1, b0, b1⟩
        go_wp2_with (first
          | (go_at_call 101; refine (impl_add _ _ _ (by omega) (by omega)).mono ?_; rintro e w' ⟨rfl, rfl⟩)
          | (go_at_call 102; refine (impl_get16 _ _ _ (by unfold maxLen; omega) (by omega)).mono ?_; rintro e w' ⟨rfl, d1, rfl⟩))
        go_roundw
        case rel => exact ⟨k + 1, by go_num, by omega, ⟨_, rfl⟩, _, rfl, hb.1, hb.2, HS⟩
        case measure => simp [intOf] <;> omega
      · have HS : Hid (a = sumW s) := Lib.hid (by have := HA.out; rw [List.take_of_length_le (by simp; omega)] at this; rw [← HU.out.2]; exact this)
        have c1 : ¬ (k : Int) < (u.size : Int) / 2 := by omega
        go_wp2
        go_ret
        first | exact ⟨ret_int HS.out, _, rfl⟩ | exact ⟨ret_int (HS.out.trans HU.out.2.symm), _, rfl⟩
theorem impl_checksum (s : ByteArray) (w : World) (hs : s.size ≤ 4194304) :
    Calls Try.prog 75 #[.string s] w fun e w' => e = .returned (.int .i64 (65535 - sumW s)) ∧ ∃ m, w' = w.drewN m := by
  have hb := sumW_bd s
  obtain ⟨b0, b1⟩ := hb
  go_enter Try.func75, Try.ntmps75
  go_wp2_with (go_at_call 90; refine (impl_sum s _ hs).mono ?_; rintro e w' ⟨rfl, m, rfl⟩)
  go_ret
  exact ⟨rfl, _, rfl⟩

theorem impl_put_any (s : ByteArray) (p : Int) (t : ByteArray) (w : World) (hs : s.size ≤ 4194304) (ht : t.size ≤ 4194304) (hp : -9223372036854775808 ≤ p ∧ p ≤ 9223372036854775807) :
    Calls Try.prog 92 #[.string s, .int .i64 p, .string t] w fun e w' => e = .returned (.string (put s p t)) ∧ Below w.heap.size w w' :=
  (impl_put s t p w hs ht hp).mono fun _ _ ⟨h1, m, h2⟩ => ⟨h1, h2 ▸ below_of_drewN w m⟩
theorem impl_add_any (a b : Int) (w : World) (ha : -9223372036854775808 ≤ a ∧ a ≤ 9223372036854775807) (hb : -9223372036854775808 ≤ b ∧ b ≤ 9223372036854775807) :
    Calls Try.prog 101 #[.int .i64 a, .int .i64 b] w fun e w' => e = .returned (.int .i64 (addS a b)) ∧ Below w.heap.size w w' :=
  (impl_add a b w ha hb).mono fun _ _ hh => ⟨hh.1, hh.2 ▸ Below.refl _ _⟩
theorem impl_sum_any (s : ByteArray) (w : World) (hs : s.size ≤ 4194304) :
    Calls Try.prog 90 #[.string s] w fun e w' => e = .returned (.int .i64 (sumW s)) ∧ Below w.heap.size w w' :=
  (impl_sum s w hs).mono fun _ _ ⟨h1, m, h2⟩ => ⟨h1, h2 ▸ below_of_drewN w m⟩
theorem impl_checksum_any (s : ByteArray) (w : World) (hs : s.size ≤ 4194304) :
    Calls Try.prog 75 #[.string s] w fun e w' => e = .returned (.int .i64 (65535 - sumW s)) ∧ Below w.heap.size w w' :=
  (impl_checksum s w hs).mono fun _ _ ⟨h1, m, h2⟩ => ⟨h1, h2 ▸ below_of_drewN w m⟩
end Go.Proofs.Ytkknfcnajgolfaa
