/- DescOk of both sides. -/
import Derived.Test.YtncpnoloamebnaaInBoth
import Derived.Test.YtncpnoloamebnaaKit
import Derived.Test.YtncpnoloamebnaaFlatOk
namespace Go.Proofs.Ytncpnoloamebnaa
open Go.RowKit
set_option linter.unusedSimpArgs false
set_option linter.unusedVariables false
set_option maxHeartbeats 4000000 in
set_option maxRecDepth 100000 in
theorem spec_descok (e : DescM) (w : World) :
    Calls Try.prog 34 #[e.val] w fun r w' => r = .returned (.bool (decide e.Ok)) ∧ Below w.heap.size w w' := by
  obtain ⟨xOp, xFlags, xLen, xAt, xSize, xCookie⟩ := e
  unfold DescM.val
  dsimp only
  obtain ⟨B, HB⟩ : ∃ B : Bool, Hid (B = decide (DescM.Ok ⟨xOp, xFlags, xLen, xAt, xSize, xCookie⟩) ∧ (B = true ↔ DescM.Ok ⟨xOp, xFlags, xLen, xAt, xSize, xCookie⟩)) := ⟨_, Lib.hid ⟨rfl, decide_eq_true_iff⟩⟩
  rw [← HB.out.1]
  go_enter Try.func34, Try.ntmps34
  go_wp2_with (first | (go_at_call 47; refine (spec_in _ _ _ _).mono ?_; rintro e w' ⟨rfl, rfl⟩))
  all_goals
    go_ret
    refine ⟨ret_bool ?_, by first | exact below_new _ | exact Below.refl _ _ | (repeat (first | exact Below.refl _ _ | exact below_new _ | exact below_drew | (refine below_comp ?_ (by assumption)) | (refine below_comp ?_ (below_new _))))⟩
    rw [Bool.eq_iff_iff, HB.out.2]
    unfold DescM.Ok
    dsimp only
    simp only [Bool.and_eq_true, Bool.or_eq_true, decide_eq_true_eq, bne_iff_ne, beq_iff_eq, Bool.false_eq_true, ne_eq, false_iff, true_iff, true_and, and_true]
    first | omega | (simp only [beq_eq_false_iff_ne, beq_iff_eq, bne_iff_ne, bne_eq_false_iff_eq, ne_eq] at *; omega)
set_option maxHeartbeats 4000000 in
set_option maxRecDepth 100000 in
theorem impl_descok (e : DescM) (w : World) :
    Calls Try.prog 36 #[e.val] w fun r w' => r = .returned (.bool (decide e.Ok)) ∧ Below w.heap.size w w' := by
  obtain ⟨xOp, xFlags, xLen, xAt, xSize, xCookie⟩ := e
  unfold DescM.val
  dsimp only
  obtain ⟨B, HB⟩ : ∃ B : Bool, Hid (B = decide (DescM.Ok ⟨xOp, xFlags, xLen, xAt, xSize, xCookie⟩) ∧ (B = true ↔ DescM.Ok ⟨xOp, xFlags, xLen, xAt, xSize, xCookie⟩)) := ⟨_, Lib.hid ⟨rfl, decide_eq_true_iff⟩⟩
  rw [← HB.out.1]
  go_enter Try.func36, Try.ntmps36
  go_wp2_with (first | (go_at_call 49; refine (impl_in _ _ _ _).mono ?_; rintro e w' ⟨rfl, rfl⟩))
  all_goals
    go_ret
    refine ⟨ret_bool ?_, by first | exact below_new _ | exact Below.refl _ _ | (repeat (first | exact Below.refl _ _ | exact below_new _ | exact below_drew | (refine below_comp ?_ (by assumption)) | (refine below_comp ?_ (below_new _))))⟩
    rw [Bool.eq_iff_iff, HB.out.2]
    unfold DescM.Ok
    dsimp only
    simp only [Bool.and_eq_true, Bool.or_eq_true, decide_eq_true_eq, bne_iff_ne, beq_iff_eq, Bool.false_eq_true, ne_eq, false_iff, true_iff, true_and, and_true]
    first | omega | (simp only [beq_eq_false_iff_ne, beq_iff_eq, bne_iff_ne, bne_eq_false_iff_eq, ne_eq] at *; omega)
end Go.Proofs.Ytncpnoloamebnaa
