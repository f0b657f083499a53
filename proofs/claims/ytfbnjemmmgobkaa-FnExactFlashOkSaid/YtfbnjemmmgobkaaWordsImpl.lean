/- Contracts of the program's words in byte strings. -/
import Derived.Test.YtfbnjemmmgobkaaWordsAnySpec
import Derived.Test.YtfbnjemmmgobkaaCrcMath
import Derived.Deep.QuietTactic
import Derived.BigQuiet
namespace Go.Proofs.Ytfbnjemmmgobkaa
open Go.RowKit

theorem or64_shift (a b k : Nat) (hb : b < 2 ^ k) (ha : a * 2 ^ k + b < 9223372036854775808) : bits .or .i64 ((a * 2 ^ k : Nat) : Int) (b : Int) = ((a * 2 ^ k + b : Nat) : Int) := by
  have h0 : a * 2 ^ k ||| b = a * 2 ^ k + b := by
    rw [← Nat.shiftLeft_eq, Nat.shiftLeft_add_eq_or_of_lt hb]
  show IntKind.i64.wrap ((BitVec.ofInt 64 ((a * 2 ^ k : Nat) : Int) ||| BitVec.ofInt 64 (b : Int)).toNat : Int) = _
  rw [BitVec.toNat_or, ofInt64 _ (by omega), ofInt64 b (by omega), h0, IntKind.wrap_i64]
  omega
theorem or_8 (a b : Int) (ha : 0 ≤ a ∧ a ≤ 255) (hb : 0 ≤ b ∧ b ≤ 255) : bits .or .i64 (a * 256) b = a * 256 + b := by
  obtain ⟨m, rfl⟩ : ∃ m : Nat, a = m := ⟨a.toNat, by omega⟩
  obtain ⟨n, rfl⟩ : ∃ n : Nat, b = n := ⟨b.toNat, by omega⟩
  have h := or64_shift m n 8 (by omega) (by omega)
  simpa using h
theorem or_16 (a b : Int) (ha : 0 ≤ a ∧ a ≤ 65535) (hb : 0 ≤ b ∧ b ≤ 65535) : bits .or .i64 (a * 65536) b = a * 65536 + b := by
  obtain ⟨m, rfl⟩ : ∃ m : Nat, a = m := ⟨a.toNat, by omega⟩
  obtain ⟨n, rfl⟩ : ∃ n : Nat, b = n := ⟨b.toNat, by omega⟩
  have h := or64_shift m n 16 (by omega) (by omega)
  simpa using h
theorem and_16 (x : Int) (h0 : 0 ≤ x) (h1 : x < 9223372036854775808) : bits .and .i64 x 65535 = x % 65536 := by
  obtain ⟨n, rfl⟩ : ∃ n : Nat, x = n := ⟨x.toNat, by omega⟩
  have h := and64 n 65535 (by omega) (by decide)
  rw [show ((65535 : Nat) : Int) = 65535 from rfl] at h
  rw [h, show (65535 : Nat) = 2 ^ 16 - 1 from rfl, Nat.and_two_pow_sub_one_eq_mod]
  rfl
theorem w32_two (v : Int) : w16 (v / 65536) ++ w16 (v % 65536) = w32 v := by
  unfold w16 w32
  have e1 : low (v / 65536 / 256) = low (v / 16777216) := by unfold low; rw [show v / 65536 / 256 = v / 16777216 from by omega]
  have e2 : low (v % 65536 / 256) = low (v / 256) := by unfold low; rw [show v % 65536 / 256 % 256 = v / 256 % 256 from by omega]
  have e3 : low (v % 65536) = low v := by unfold low; rw [show v % 65536 % 256 = v % 256 from by omega]
  rw [e1, e2, e3]
  rfl

theorem impl_within_yes (x lo hi : Int) (w : World) (h : lo ≤ x ∧ x ≤ hi) :
    Calls Try.prog 110 #[.int .i64 x, .int .i64 lo, .int .i64 hi] w fun e w' => e = .returned (.bool true) ∧ w = w' := by
  obtain ⟨h1, h2⟩ := h
  go_enter Try.func110, Try.ntmps110
  go_wp2
  go_ret
  exact ⟨rfl, rfl⟩
theorem impl_within_no (x lo hi : Int) (w : World) (h : ¬ (lo ≤ x ∧ x ≤ hi)) :
    Calls Try.prog 110 #[.int .i64 x, .int .i64 lo, .int .i64 hi] w fun e w' => e = .returned (.bool false) ∧ w = w' := by
  by_cases h1 : lo ≤ x
  · have h2 : ¬ x ≤ hi := fun h2 => h ⟨h1, h2⟩
    clear h
    go_enter Try.func110, Try.ntmps110
    go_wp2
    go_ret
    exact ⟨rfl, rfl⟩
  · clear h
    go_enter Try.func110, Try.ntmps110
    go_wp2
    go_ret
    exact ⟨rfl, rfl⟩

theorem impl_word16_in (v : Int) (w : World) (h0 : 0 ≤ v) (h1 : v ≤ 65535) :
    Calls Try.prog 189 #[.int .i64 v] w fun e w' => e = .returned (.string (w16 v)) ∧ Below w.heap.size w w' := by
  have hconv := conv_two (v / 256) (v % 256) (by omega) (by omega)
  rw [w16_conv v h0 h1] at hconv
  go_enter Try.func189, Try.ntmps189
  go_wp2
  go_ret
  exact ⟨rfl, (Below.refl _ _).alloc (Nat.le_refl _) _⟩
theorem impl_word16_out (v : Int) (w : World) (h : ¬ (0 ≤ v ∧ v ≤ 65535)) :
    Calls Try.prog 189 #[.int .i64 v] w fun e w' => e = .returned (.string ⟨#[]⟩) ∧ w = w' := by
  by_cases h0 : 0 ≤ v
  · have h1 : ¬ v ≤ 65535 := fun h1 => h ⟨h0, h1⟩
    clear h
    go_enter Try.func189, Try.ntmps189
    go_wp2
    go_ret
    exact ⟨rfl, rfl⟩
  · clear h
    go_enter Try.func189, Try.ntmps189
    go_wp2
    go_ret
    exact ⟨rfl, rfl⟩
theorem impl_word16 (v : Int) (w : World) : Calls Try.prog 189 #[.int .i64 v] w fun e w' => e = .returned (.string (word16V v)) ∧ Below w.heap.size w w' := by
  by_cases h : 0 ≤ v ∧ v ≤ 65535
  · rw [show word16V v = w16 v from if_pos h]; exact impl_word16_in v w h.1 h.2
  · rw [show word16V v = ⟨#[]⟩ from if_neg h]; exact (impl_word16_out v w h).mono fun _ _ hh => ⟨hh.1, hh.2 ▸ Below.refl _ _⟩

theorem impl_word32_in (v : Int) (w : World) (h0 : 0 ≤ v) (h1 : v ≤ 4294967295) :
    Calls Try.prog 180 #[.int .i64 v] w fun e w' => e = .returned (.string (w32 v)) ∧ Below w.heap.size w w' := by
  have e1 := and_16 v h0 (by omega)
  have HW := Lib.hid (w32_two v)
  have z2 : (w16 (v / 65536)).size ≤ 2 := Nat.le_refl _
  have z3 : (w16 (v % 65536)).size ≤ 2 := Nat.le_refl _
  go_enter Try.func180, Try.ntmps180
  go_wp2_with (go_at_call 110; refine (impl_within_yes _ _ _ _ ⟨h0, h1⟩).mono ?_; rintro e w' ⟨rfl, rfl⟩)
  refine (impl_word16_in (v / 65536) _ (by omega) (by omega)).mono ?_
  rintro e w1 ⟨rfl, hb1⟩
  go_wp2_with fail
  refine (impl_word16_in (v % 65536) _ (by omega) (by omega)).mono ?_
  rintro e w2 ⟨rfl, hb2⟩
  go_wp2
  go_ret
  exact ⟨by rw [HW.out]; rfl, hb1.trans (hb2.mono hb1.size)⟩
theorem impl_word32_out (v : Int) (w : World) (h : ¬ (0 ≤ v ∧ v ≤ 4294967295)) :
    Calls Try.prog 180 #[.int .i64 v] w fun e w' => e = .returned (.string ⟨#[]⟩) ∧ w = w' := by
  by_cases h0 : 0 ≤ v
  · have h1 : ¬ v ≤ 4294967295 := fun h1 => h ⟨h0, h1⟩
    clear h
    go_enter Try.func180, Try.ntmps180
    go_wp2
    go_ret
    exact ⟨rfl, rfl⟩
  · clear h
    go_enter Try.func180, Try.ntmps180
    go_wp2
    go_ret
    exact ⟨rfl, rfl⟩
theorem impl_word32 (v : Int) (w : World) : Calls Try.prog 180 #[.int .i64 v] w fun e w' => e = .returned (.string (word32V v)) ∧ Below w.heap.size w w' := by
  by_cases h : 0 ≤ v ∧ v ≤ 4294967295
  · rw [show word32V v = w32 v from if_pos h]; exact impl_word32_in v w h.1 h.2
  · rw [show word32V v = ⟨#[]⟩ from if_neg h]; exact (impl_word32_out v w h).mono fun _ _ hh => ⟨hh.1, hh.2 ▸ Below.refl _ _⟩

end Go.Proofs.Ytfbnjemmmgobkaa
