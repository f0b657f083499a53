/- SegmentOk of both sides. -/
import Derived.Test.YtbidaccdjnbhfaaInBoth
import Derived.Test.YtbidaccdjnbhfaaPktMath
import Derived.Test.YtbidaccdjnbhfaaKit
namespace Go.Proofs.Ytbidaccdjnbhfaa
open Go.RowKit
set_option linter.unusedSimpArgs false
set_option linter.unusedVariables false
theorem impl_layout (k : Int) (w : World) :
    Calls Try.prog 112 #[.int .i64 k] w fun r w' => r = .returned (.int .i64 (if k = 6 then 1 else if k = 17 then 2 else 0)) ∧ w = w' := by
  by_cases h6 : k = 6
  · subst h6
    go_enter Try.func112, Try.ntmps112
    go_wp2
    go_ret
    exact ⟨rfl, rfl⟩
  · by_cases h17 : k = 17
    · subst h17
      go_enter Try.func112, Try.ntmps112
      go_wp2
      go_ret
      exact ⟨rfl, rfl⟩
    · rw [if_neg h6, if_neg h17]
      go_enter Try.func112, Try.ntmps112
      go_wp2
      go_ret
      exact ⟨rfl, rfl⟩
theorem layout_6 (w : World) : Calls Try.prog 112 #[.int .i64 6] w fun r w' => r = .returned (.int .i64 1) ∧ w = w' := impl_layout 6 w
theorem layout_17 (w : World) : Calls Try.prog 112 #[.int .i64 17] w fun r w' => r = .returned (.int .i64 2) ∧ w = w' := impl_layout 17 w
theorem layout_no (k : Int) (h1 : k ≠ 6) (h2 : k ≠ 17) (w : World) : Calls Try.prog 112 #[.int .i64 k] w fun r w' => r = .returned (.int .i64 0) ∧ w = w' := by
  have := impl_layout k w
  rwa [if_neg h1, if_neg h2] at this
set_option maxHeartbeats 4000000 in
set_option maxRecDepth 100000 in
theorem spec_segmentok (e : SegM) (w : World) :
    Calls Try.prog 97 #[e.val] w fun r w' => r = .returned (.bool (decide e.Ok)) ∧ Below w.heap.size w w' := by
  obtain ⟨k, sp, dp, q, c, f, n, b⟩ := e
  unfold SegM.val
  dsimp only
  obtain ⟨B, HB⟩ : ∃ B : Bool, Hid (B = decide (SegM.Ok ⟨k, sp, dp, q, c, f, n, b⟩) ∧ (B = true ↔ SegM.Ok ⟨k, sp, dp, q, c, f, n, b⟩)) := ⟨_, Lib.hid ⟨rfl, decide_eq_true_iff⟩⟩
  rw [← HB.out.1]
  go_enter Try.func97, Try.ntmps97
  go_wp2_with (first | (go_at_call 71; refine (spec_in _ _ _ _).mono ?_; rintro e w' ⟨rfl, rfl⟩))
  all_goals
    go_ret
    refine ⟨ret_bool ?_, below_new _⟩
    rw [Bool.eq_iff_iff, HB.out.2]
    unfold SegM.Ok
    dsimp only
    simp only [Bool.and_eq_true, Bool.or_eq_true, decide_eq_true_eq, bne_iff_ne, beq_iff_eq, Bool.false_eq_true, ne_eq, false_iff, true_iff, true_and, and_true]
    first | omega | (simp only [beq_eq_false_iff_ne, beq_iff_eq, bne_iff_ne, bne_eq_false_iff_eq, ne_eq] at *; omega)
set_option maxHeartbeats 4000000 in
set_option maxRecDepth 100000 in
theorem impl_segmentok (e : SegM) (w : World) :
    Calls Try.prog 96 #[e.val] w fun r w' => r = .returned (.bool (decide e.Ok)) ∧ Below w.heap.size w w' := by
  obtain ⟨k, sp, dp, q, c, f, n, b⟩ := e
  unfold SegM.val
  dsimp only
  obtain ⟨B, HB⟩ : ∃ B : Bool, Hid (B = decide (SegM.Ok ⟨k, sp, dp, q, c, f, n, b⟩) ∧ (B = true ↔ SegM.Ok ⟨k, sp, dp, q, c, f, n, b⟩)) := ⟨_, Lib.hid ⟨rfl, decide_eq_true_iff⟩⟩
  rw [← HB.out.1]
  have HL : Hid (∀ W, _) := Lib.hid fun W => impl_layout k W
  rcases (show k = 6 ∨ k = 17 ∨ (k ≠ 6 ∧ k ≠ 17) by omega) with hk | hk | hk
  case' inl =>
    subst hk
    have HL : Hid (∀ W, _) := Lib.hid fun W => layout_6 W
  case' inr.inl =>
    subst hk
    have HL : Hid (∀ W, _) := Lib.hid fun W => layout_17 W
  case' inr.inr =>
    have HL : Hid (∀ W, _) := Lib.hid fun W => layout_no k hk.1 hk.2 W
  all_goals
    go_enter Try.func96, Try.ntmps96
    go_wp2_with (first | (go_at_call 69; refine (impl_in _ _ _ _).mono ?_; rintro e w' ⟨rfl, rfl⟩) | (go_at_call 112; refine (HL.out _).mono ?_; rintro e w' ⟨rfl, rfl⟩))
    all_goals
      go_ret
      refine ⟨ret_bool ?_, below_new _⟩
      rw [Bool.eq_iff_iff, HB.out.2]
      unfold SegM.Ok
      dsimp only
      simp only [Bool.and_eq_true, Bool.or_eq_true, decide_eq_true_eq, bne_iff_ne, beq_iff_eq, Bool.false_eq_true, ne_eq, false_iff, true_iff, true_and, and_true]
      first | omega | (simp only [beq_eq_false_iff_ne, beq_iff_eq, bne_iff_ne, bne_eq_false_iff_eq, ne_eq] at *; omega)
end Go.Proofs.Ytbidaccdjnbhfaa
