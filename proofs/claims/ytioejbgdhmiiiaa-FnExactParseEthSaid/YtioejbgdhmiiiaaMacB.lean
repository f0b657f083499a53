/- Six bytes of an address, of both sides. -/
import Derived.Test.YtioejbgdhmiiiaaKit
import Derived.Test.YtioejbgdhmiiiaaEthMath
import Derived.Test.YtioejbgdhmiiiaaWordsAnySpec
import Derived.Test.YtioejbgdhmiiiaaWordsImpl
import Derived.Test.YtioejbgdhmiiiaaCrcMath
namespace Go.Proofs.Ytioejbgdhmiiiaa
open Go.RowKit

theorem mac_size (x : Int) : (mac x).size = 6 := rfl
theorem and32 (x : Int) (h0 : 0 ≤ x) (h1 : x < 9223372036854775808) : bits .and .i64 x 4294967295 = x % 4294967296 := by
  obtain ⟨n, rfl⟩ : ∃ n : Nat, x = n := ⟨x.toNat, by omega⟩
  have h := and64 n 4294967295 (by omega) (by decide)
  rw [show ((4294967295 : Nat) : Int) = 4294967295 from rfl] at h
  rw [h, show (4294967295 : Nat) = 2 ^ 32 - 1 from rfl, Nat.and_two_pow_sub_one_eq_mod]
  rfl
theorem word16_in (v : Int) (h : 0 ≤ v ∧ v ≤ 65535) : word16V v = w16 v := if_pos h
theorem word32_in (v : Int) (h : 0 ≤ v ∧ v ≤ 4294967295) : word32V v = w32 v := if_pos h
theorem spec_mac (x : Int) (w : World) (h : 0 ≤ x ∧ x ≤ 281474976710655) :
    Calls Try.prog 84 #[.int .i64 x] w fun r w' => r = .returned (.string (mac x)) ∧ Below w.heap.size w w' := by
  have e1 := and32 x h.1 (by omega)
  have E2 := Lib.hid (word16_in (x / 4294967296) (by omega))
  have E3 := Lib.hid (word32_in (x % 4294967296) (by omega))
  have z2 : (w16 (x / 4294967296)).size ≤ 2 := Nat.le_refl _
  have z3 : (w32 (x % 4294967296)).size ≤ 4 := Nat.le_refl _
  go_enter Try.func84, Try.ntmps84
  go_wp2_with fail
  refine (spec_word16 _ _).mono ?_
  rw [E2.out]
  rintro e w1 ⟨rfl, hb1⟩
  go_wp2_with fail
  refine (spec_word32 _ _).mono ?_
  rw [E3.out]
  rintro e w2 ⟨rfl, hb2⟩
  go_wp2
  go_ret
  exact ⟨rfl, hb1.trans (hb2.mono hb1.size)⟩
theorem impl_mac (x : Int) (w : World) (h : 0 ≤ x ∧ x ≤ 281474976710655) :
    Calls Try.prog 76 #[.int .i64 x] w fun r w' => r = .returned (.string (mac x)) ∧ Below w.heap.size w w' := by
  have e1 := and32 x h.1 (by omega)
  have E2 := Lib.hid (word16_in (x / 4294967296) (by omega))
  have E3 := Lib.hid (word32_in (x % 4294967296) (by omega))
  have z2 : (w16 (x / 4294967296)).size ≤ 2 := Nat.le_refl _
  have z3 : (w32 (x % 4294967296)).size ≤ 4 := Nat.le_refl _
  go_enter Try.func76, Try.ntmps76
  go_wp2_with fail
  refine (impl_word16 _ _).mono ?_
  rw [E2.out]
  rintro e w1 ⟨rfl, hb1⟩
  go_wp2_with fail
  refine (impl_word32 _ _).mono ?_
  rw [E3.out]
  rintro e w2 ⟨rfl, hb2⟩
  go_wp2
  go_ret
  exact ⟨rfl, hb1.trans (hb2.mono hb1.size)⟩
end Go.Proofs.Ytioejbgdhmiiiaa
