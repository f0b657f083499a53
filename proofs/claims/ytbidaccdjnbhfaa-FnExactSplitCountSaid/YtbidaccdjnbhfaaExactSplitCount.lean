/- At every argument SplitCount answers as the model does: the law FnExactSplitCount returns true for every input, and its arguments read as before. No condition. -/
import Derived.Test.YtbidaccdjnbhfaaLiftExactSplitCount
import Derived.Test.YtbidaccdjnbhfaaFactExactSplitCount
import Derived.Test.YtbidaccdjnbhfaaAMLSplitCount
import Derived.Test.YtbidaccdjnbhfaaAMOpen
import Derived.Test.YtbidaccdjnbhfaaOpenPacket
import Derived.OpenShut
import Derived.ShutString
import Derived.ChangeOld
namespace Go.Proofs.Ytbidaccdjnbhfaa.fnExactSplitCount
open Go.ChangeShapes Go.WideShapes Go.ChangeAt Go.RowKit
open Go.ChangeMaps (open_string shut_string)
set_option linter.unusedVariables false

theorem over : Rows.fnExactSplitCountRow.holds Try.pinned (OpenSpec.ofChange Rows.fnExactSplitCountSpec) :=
  OpenClaim.holds_of_wide 4 Try.f4 rfl rfl rfl rfl rfl rfl rfl ⟨rfl, rfl, rfl, rfl, rfl⟩ rfl rfl rfl rfl rfl (by kernel_rfl) Try.func4 facts
    (of_decide_eq_true (by kernel_rfl)) (by unfold Func.isWrapper; first | (rw [if_pos (by decide +kernel)]; kernel_rfl) | (rw [if_neg (by decide +kernel)]; exact ⟨rfl, rfl⟩))
    (fun os started H enc _ => lifted os started H enc)

/-- The statement. -/
theorem proved : Rows.FnExactSplitCountSaid := over

end Go.Proofs.Ytbidaccdjnbhfaa.fnExactSplitCount
