/- At every argument TickFunctions answers as the model does, and its answer owns its memory: the law FnExactTickFunctions returns true for every input, and its arguments read as before. No condition. -/
import Derived.Test.YtfbnjemmmgobkaaLiftExactTickFunctions
import Derived.Test.YtfbnjemmmgobkaaFactExactTickFunctions
import Derived.Test.YtfbnjemmmgobkaaAMLTick
import Derived.Test.YtfbnjemmmgobkaaAvVirtualFunction
import Derived.OpenShut
import Derived.ShutString
import Derived.ChangeOld
namespace Go.Proofs.Ytfbnjemmmgobkaa.fnExactTickFunctions
open Go.ChangeShapes Go.WideShapes Go.ChangeAt Go.RowKit
open Go.ChangeMaps (open_string shut_string)
set_option linter.unusedVariables false

theorem over : Rows.fnExactTickFunctionsRow.holds Try.pinned (OpenSpec.ofChange Rows.fnExactTickFunctionsSpec) :=
  OpenClaim.holds_of_wide 4 Try.f4 rfl rfl rfl rfl rfl rfl rfl ⟨rfl, rfl, rfl, rfl, rfl⟩ rfl rfl rfl rfl rfl (by kernel_rfl) Try.func4 facts
    (of_decide_eq_true (by kernel_rfl)) (by unfold Func.isWrapper; first | (rw [if_pos (by decide +kernel)]; kernel_rfl) | (rw [if_neg (by decide +kernel)]; exact ⟨rfl, rfl⟩))
    (fun os started H enc _ => lifted os started H enc)

/-- The statement. -/
theorem proved : Rows.FnExactTickFunctionsSaid := over

end Go.Proofs.Ytfbnjemmmgobkaa.fnExactTickFunctions
