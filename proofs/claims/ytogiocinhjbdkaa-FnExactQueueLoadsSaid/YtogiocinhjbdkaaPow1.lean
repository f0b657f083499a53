/- Powers of two up to 16, of both sides. -/
import Derived.Test.YtogiocinhjbdkaaInYN
import Derived.Test.YtogiocinhjbdkaaKit
namespace Go.Proofs.Ytogiocinhjbdkaa
open Go.RowKit
set_option linter.unusedSimpArgs false
set_option linter.unusedVariables false
def Pow1to16 (n : Int) : Prop := n = 1 ∨ n = 2 ∨ n = 4 ∨ n = 8 ∨ n = 16
instance (n : Int) : Decidable (Pow1to16 n) := by unfold Pow1to16; infer_instance
theorem spec_size1 (n : Int) (w : World) :
    Calls Try.prog 156 #[.int .i64 n] w fun r w' => r = .returned (.bool (decide (Pow1to16 n))) ∧ w = w' := by
  by_cases h : Pow1to16 n
  · rw [decide_eq_true h]
    rcases h with rfl | rfl | rfl | rfl | rfl
    all_goals
      go_enter Try.func156, Try.ntmps156
      go_wp2
      go_ret
      exact ⟨rfl, rfl⟩
  · rw [decide_eq_false h]
    unfold Pow1to16 at h
    have h0 : ¬ n = 1 := by omega
    have h1 : ¬ n = 2 := by omega
    have h2 : ¬ n = 4 := by omega
    have h3 : ¬ n = 8 := by omega
    have h4 : ¬ n = 16 := by omega
    clear h
    go_enter Try.func156, Try.ntmps156
    go_wp2
    go_ret
    exact ⟨ret_bool (by simp [h0, h1, h2, h3, h4]), rfl⟩
theorem pow1_bits (n : Int) (h : 1 ≤ n ∧ n ≤ 16) : ∃ z : Int, bits .and .i64 n (n - 1) = z ∧ IntKind.i64.wrap (n - 1) = n - 1 ∧ (z = 0 ↔ Pow1to16 n) := by
  obtain ⟨m, rfl⟩ : ∃ m : Nat, n = m := ⟨n.toNat, by omega⟩
  obtain ⟨h1, h2⟩ : 1 ≤ m ∧ m ≤ 16 := by omega
  refine ⟨_, rfl, wrap_in _ (by omega) (by omega), ?_⟩
  rcases (show m = 1 ∨ m = 2 ∨ m = 3 ∨ m = 4 ∨ m = 5 ∨ m = 6 ∨ m = 7 ∨ m = 8 ∨ m = 9 ∨ m = 10 ∨ m = 11 ∨ m = 12 ∨ m = 13 ∨ m = 14 ∨ m = 15 ∨ m = 16 by omega) with rfl | rfl | rfl | rfl | rfl | rfl | rfl | rfl | rfl | rfl | rfl | rfl | rfl | rfl | rfl | rfl <;> decide
set_option maxHeartbeats 2000000 in
set_option maxRecDepth 100000 in
theorem impl_pow1 (n : Int) (w : World) :
    Calls Try.prog 158 #[.int .i64 n, .int .i64 1, .int .i64 16] w fun r w' => r = .returned (.bool (decide (Pow1to16 n))) ∧ w = w' := by
  by_cases h : 1 ≤ n ∧ n ≤ 16
  · obtain ⟨z, e1, e2, hz⟩ := pow1_bits n h
    have HZ := Lib.hid hz
    clear hz
    go_enter Try.func158, Try.ntmps158
    go_wp2_with (go_at_call 86; refine (impl_in_yes _ _ _ _ h).mono ?_; rintro e w' ⟨rfl, rfl⟩)
    go_ret
    refine ⟨ret_bool ?_, rfl⟩
    rw [Bool.eq_iff_iff, decide_eq_true_iff]
    simpa using HZ.out
  · rw [decide_eq_false (show ¬ Pow1to16 n by unfold Pow1to16; omega)]
    go_enter Try.func158, Try.ntmps158
    go_wp2_with (go_at_call 86; refine (impl_in_no _ _ _ _ h).mono ?_; rintro e w' ⟨rfl, rfl⟩)
    go_ret
    exact ⟨rfl, rfl⟩
end Go.Proofs.Ytogiocinhjbdkaa
