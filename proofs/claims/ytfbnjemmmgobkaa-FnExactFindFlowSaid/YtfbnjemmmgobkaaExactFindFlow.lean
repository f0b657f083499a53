/- At every argument FindFlow answers as the model does: the law FnExactFindFlow returns true for every input, and its arguments read as before. No condition. -/
import Derived.Test.YtfbnjemmmgobkaaLiftExactFindFlow
import Derived.Test.YtfbnjemmmgobkaaFactExactFindFlow
import Derived.Test.YtfbnjemmmgobkaaAMLFindFlow
import Derived.Test.YtfbnjemmmgobkaaAvFlowTableR
import Derived.Test.YtfbnjemmmgobkaaOpenFlow
import Derived.OpenShut
import Derived.ShutString
import Derived.ChangeOld
namespace Go.Proofs.Ytfbnjemmmgobkaa.fnExactFindFlow
open Go.ChangeShapes Go.WideShapes Go.ChangeAt Go.RowKit
open Go.ChangeMaps (open_string shut_string)
set_option linter.unusedVariables false

theorem over : Rows.fnExactFindFlowRow.holds Try.pinned (OpenSpec.ofChange Rows.fnExactFindFlowSpec) :=
  OpenClaim.holds_of_wide 14 Try.f14 rfl rfl rfl rfl rfl rfl rfl ⟨rfl, rfl, rfl, rfl, rfl⟩ rfl rfl rfl rfl rfl (by kernel_rfl) Try.func14 facts
    (of_decide_eq_true (by kernel_rfl)) (by unfold Func.isWrapper; first | (rw [if_pos (by decide +kernel)]; kernel_rfl) | (rw [if_neg (by decide +kernel)]; exact ⟨rfl, rfl⟩))
    (fun os started H enc _ => lifted os started H enc)

/-- The statement. -/
theorem proved : Rows.FnExactFindFlowSaid := over

end Go.Proofs.Ytfbnjemmmgobkaa.fnExactFindFlow
