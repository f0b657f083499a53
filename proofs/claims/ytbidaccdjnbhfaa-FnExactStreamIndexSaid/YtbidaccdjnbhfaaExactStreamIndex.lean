/- At every argument StreamIndex answers as the model does: the law FnExactStreamIndex returns true for every input, and its arguments read as before. No condition. -/
import Derived.Test.YtbidaccdjnbhfaaLiftExactStreamIndex
import Derived.Test.YtbidaccdjnbhfaaFactExactStreamIndex
import Derived.Test.YtbidaccdjnbhfaaAMLStreamIndex
import Derived.Test.YtbidaccdjnbhfaaAvStream
import Derived.Test.YtbidaccdjnbhfaaOpenFlow
import Derived.OpenShut
import Derived.ShutString
import Derived.ChangeOld
namespace Go.Proofs.Ytbidaccdjnbhfaa.fnExactStreamIndex
open Go.ChangeShapes Go.WideShapes Go.ChangeAt Go.RowKit
open Go.ChangeMaps (open_string shut_string)
set_option linter.unusedVariables false

theorem over : Rows.fnExactStreamIndexRow.holds Try.pinned (OpenSpec.ofChange Rows.fnExactStreamIndexSpec) :=
  OpenClaim.holds_of_wide 9 Try.f9 rfl rfl rfl rfl rfl rfl rfl ⟨rfl, rfl, rfl, rfl, rfl⟩ rfl rfl rfl rfl rfl (by kernel_rfl) Try.func9 facts
    (of_decide_eq_true (by kernel_rfl)) (by unfold Func.isWrapper; first | (rw [if_pos (by decide +kernel)]; kernel_rfl) | (rw [if_neg (by decide +kernel)]; exact ⟨rfl, rfl⟩))
    (fun os started H enc _ => lifted os started H enc)

/-- The statement. -/
theorem proved : Rows.FnExactStreamIndexSaid := over

end Go.Proofs.Ytbidaccdjnbhfaa.fnExactStreamIndex
