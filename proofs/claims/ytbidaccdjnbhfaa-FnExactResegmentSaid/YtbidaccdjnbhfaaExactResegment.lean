/- At every argument Resegment answers as the model does, and its answer owns its memory: the law FnExactResegment returns true for every input, and its arguments read as before. No condition. -/
import Derived.Test.YtbidaccdjnbhfaaLiftExactResegment
import Derived.Test.YtbidaccdjnbhfaaFactExactResegment
import Derived.Test.YtbidaccdjnbhfaaAMLReseg
import Derived.Test.YtbidaccdjnbhfaaAvSuper
import Derived.OpenShut
import Derived.ShutString
import Derived.ChangeOld
namespace Go.Proofs.Ytbidaccdjnbhfaa.fnExactResegment
open Go.ChangeShapes Go.WideShapes Go.ChangeAt Go.RowKit
open Go.ChangeMaps (open_string shut_string)
set_option linter.unusedVariables false

theorem over : Rows.fnExactResegmentRow.holds Try.pinned (OpenSpec.ofChange Rows.fnExactResegmentSpec) :=
  OpenClaim.holds_of_wide 8 Try.f8 rfl rfl rfl rfl rfl rfl rfl ⟨rfl, rfl, rfl, rfl, rfl⟩ rfl rfl rfl rfl rfl (by kernel_rfl) Try.func8 facts
    (of_decide_eq_true (by kernel_rfl)) (by unfold Func.isWrapper; first | (rw [if_pos (by decide +kernel)]; kernel_rfl) | (rw [if_neg (by decide +kernel)]; exact ⟨rfl, rfl⟩))
    (fun os started H enc _ => lifted os started H enc)

/-- The statement. -/
theorem proved : Rows.FnExactResegmentSaid := over

end Go.Proofs.Ytbidaccdjnbhfaa.fnExactResegment
