/- At every argument DataOf answers as the model does: the law FnExactDataOf returns true for every input, and its arguments read as before. No condition. -/
import Derived.Test.YtbidaccdjnbhfaaLiftExactDataOf
import Derived.Test.YtbidaccdjnbhfaaFactExactDataOf
import Derived.Test.YtbidaccdjnbhfaaAMLDataOf
import Derived.Test.YtbidaccdjnbhfaaAvStream
import Derived.Test.YtbidaccdjnbhfaaOpenFlow
import Derived.OpenShut
import Derived.ShutString
import Derived.ChangeOld
namespace Go.Proofs.Ytbidaccdjnbhfaa.fnExactDataOf
open Go.ChangeShapes Go.WideShapes Go.ChangeAt Go.RowKit
open Go.ChangeMaps (open_string shut_string)
set_option linter.unusedVariables false

theorem over : Rows.fnExactDataOfRow.holds Try.pinned (OpenSpec.ofChange Rows.fnExactDataOfSpec) :=
  OpenClaim.holds_of_wide 10 Try.f10 rfl rfl rfl rfl rfl rfl rfl ⟨rfl, rfl, rfl, rfl, rfl⟩ rfl rfl rfl rfl rfl (by kernel_rfl) Try.func10 facts
    (of_decide_eq_true (by kernel_rfl)) (by unfold Func.isWrapper; first | (rw [if_pos (by decide +kernel)]; kernel_rfl) | (rw [if_neg (by decide +kernel)]; exact ⟨rfl, rfl⟩))
    (fun os started H enc _ => lifted os started H enc)

/-- The statement. -/
theorem proved : Rows.FnExactDataOfSaid := over

end Go.Proofs.Ytbidaccdjnbhfaa.fnExactDataOf
