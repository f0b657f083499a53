/- FlashStepOk of both sides. -/
import Derived.Test.YthjajgpejfoghaaInYN
import Derived.Test.YthjajgpejfoghaaKit
import Derived.Test.YthjajgpejfoghaaStepMath
namespace Go.Proofs.Ythjajgpejfoghaa
open Go.RowKit
set_option linter.unusedSimpArgs false
set_option linter.unusedVariables false
set_option maxHeartbeats 4000000 in
set_option maxRecDepth 100000 in
theorem spec_flashstepok (e : StepM) (hw : e.body.size ≤ 4194304) (w : World) :
    Calls Try.prog 41 #[e.val] w fun r w' => r = .returned (.bool (decide e.Ok)) ∧ Below w.heap.size w w' := by
  obtain ⟨ki, ba, po, da⟩ := e
  unfold StepM.val
  dsimp only at hw ⊢
  obtain ⟨B, hB0, HB⟩ : ∃ B : Bool, Hid (B = decide (StepM.Ok ⟨ki, ba, po, da⟩)) ∧ Hid (B = true ↔ (0 ≤ ba ∧ ba ≤ 1) ∧ ((ki = 0 ∧ po = 0 ∧ da.size = 0) ∨ (ki = 1 ∧ (1 ≤ da.size ∧ da.size ≤ 8) ∧ (0 ≤ po ∧ po ≤ 96 - da.size)))) := ⟨_, Lib.hid rfl, Lib.hid decide_eq_true_iff⟩
  rw [← hB0.out]
  clear hB0
  by_cases hz : da.size = 0
  · have hl : da.toList = [] := by
      rw [ByteArray.size_eq_zero_iff.mp hz]
      simp
    have hl2 : (da.toList == ([] : List UInt8)) = true := by rw [hl]; rfl
    go_enter Try.func41, Try.ntmps41
    go_wp2_with (first | (go_at_call 53; refine (spec_in _ _ _ _).mono ?_; rintro e w' ⟨rfl, rfl⟩))
    all_goals
      go_ret
      refine ⟨ret_bool ?_, below_new _⟩
      rw [Bool.eq_iff_iff, HB.out]
      simp only [Bool.and_eq_true, Bool.or_eq_true, decide_eq_true_eq, bne_iff_ne, beq_iff_eq, Bool.false_eq_true, ne_eq, false_iff, true_iff, true_and, and_true]
      first | omega | (simp only [Bool.not_eq_true', Bool.not_eq_false', decide_eq_false_iff_not, decide_eq_true_eq, beq_eq_false_iff_ne, beq_iff_eq, bne_iff_ne, bne_eq_false_iff_eq, ne_eq, Bool.and_eq_true, Bool.or_eq_true] at *; omega)
  · have hl : ¬ da.toList = [] := fun h => hz (by
      rw [ByteArray.toList_eq] at h
      have h2 := congrArg List.length h
      have h3 : da.data.size = 0 := by rw [← Array.length_toList]; exact h2
      exact h3)
    have hl2 : (da.toList == ([] : List UInt8)) = false := by simpa using hl
    go_enter Try.func41, Try.ntmps41
    go_wp2_with (first | (go_at_call 53; refine (spec_in _ _ _ _).mono ?_; rintro e w' ⟨rfl, rfl⟩))
    all_goals
      go_ret
      refine ⟨ret_bool ?_, below_new _⟩
      rw [Bool.eq_iff_iff, HB.out]
      simp only [Bool.and_eq_true, Bool.or_eq_true, decide_eq_true_eq, bne_iff_ne, beq_iff_eq, Bool.false_eq_true, ne_eq, false_iff, true_iff, true_and, and_true]
      first | omega | (simp only [Bool.not_eq_true', Bool.not_eq_false', decide_eq_false_iff_not, decide_eq_true_eq, beq_eq_false_iff_ne, beq_iff_eq, bne_iff_ne, bne_eq_false_iff_eq, ne_eq, Bool.and_eq_true, Bool.or_eq_true] at *; omega)
set_option maxHeartbeats 4000000 in
set_option maxRecDepth 100000 in
theorem impl_flashstepok (e : StepM) (hw : e.body.size ≤ 4194304) (w : World) :
    Calls Try.prog 43 #[e.val] w fun r w' => r = .returned (.bool (decide e.Ok)) ∧ Below w.heap.size w w' := by
  obtain ⟨ki, ba, po, da⟩ := e
  unfold StepM.val
  dsimp only at hw ⊢
  obtain ⟨B, hB0, HB⟩ : ∃ B : Bool, Hid (B = decide (StepM.Ok ⟨ki, ba, po, da⟩)) ∧ Hid (B = true ↔ (0 ≤ ba ∧ ba ≤ 1) ∧ ((ki = 0 ∧ po = 0 ∧ da.size = 0) ∨ (ki = 1 ∧ (1 ≤ da.size ∧ da.size ≤ 8) ∧ (0 ≤ po ∧ po ≤ 96 - da.size)))) := ⟨_, Lib.hid rfl, Lib.hid decide_eq_true_iff⟩
  rw [← hB0.out]
  clear hB0
  by_cases hz : da.size = 0
  · have hl : da.toList = [] := by
      rw [ByteArray.size_eq_zero_iff.mp hz]
      simp
    have hl2 : (da.toList == ([] : List UInt8)) = true := by rw [hl]; rfl
    go_enter Try.func43, Try.ntmps43
    go_wp2_with (first | (go_at_call 56; refine (impl_in _ _ _ _).mono ?_; rintro e w' ⟨rfl, rfl⟩))
    all_goals
      go_ret
      refine ⟨ret_bool ?_, below_new _⟩
      rw [Bool.eq_iff_iff, HB.out]
      simp only [Bool.and_eq_true, Bool.or_eq_true, decide_eq_true_eq, bne_iff_ne, beq_iff_eq, Bool.false_eq_true, ne_eq, false_iff, true_iff, true_and, and_true]
      first | omega | (simp only [Bool.not_eq_true', Bool.not_eq_false', decide_eq_false_iff_not, decide_eq_true_eq, beq_eq_false_iff_ne, beq_iff_eq, bne_iff_ne, bne_eq_false_iff_eq, ne_eq, Bool.and_eq_true, Bool.or_eq_true] at *; omega)
  · have hl : ¬ da.toList = [] := fun h => hz (by
      rw [ByteArray.toList_eq] at h
      have h2 := congrArg List.length h
      have h3 : da.data.size = 0 := by rw [← Array.length_toList]; exact h2
      exact h3)
    have hl2 : (da.toList == ([] : List UInt8)) = false := by simpa using hl
    go_enter Try.func43, Try.ntmps43
    go_wp2_with (first | (go_at_call 56; refine (impl_in _ _ _ _).mono ?_; rintro e w' ⟨rfl, rfl⟩))
    all_goals
      go_ret
      refine ⟨ret_bool ?_, below_new _⟩
      rw [Bool.eq_iff_iff, HB.out]
      simp only [Bool.and_eq_true, Bool.or_eq_true, decide_eq_true_eq, bne_iff_ne, beq_iff_eq, Bool.false_eq_true, ne_eq, false_iff, true_iff, true_and, and_true]
      first | omega | (simp only [Bool.not_eq_true', Bool.not_eq_false', decide_eq_false_iff_not, decide_eq_true_eq, beq_eq_false_iff_ne, beq_iff_eq, bne_iff_ne, bne_eq_false_iff_eq, ne_eq, Bool.and_eq_true, Bool.or_eq_true] at *; omega)
end Go.Proofs.Ythjajgpejfoghaa
