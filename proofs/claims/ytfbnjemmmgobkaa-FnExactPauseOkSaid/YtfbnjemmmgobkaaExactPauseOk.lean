/- At every argument PauseOk answers as the model does: the law FnExactPauseOk returns true for every input, and its arguments read as before. No condition. -/
import Derived.Test.YtfbnjemmmgobkaaLiftExactPauseOk
import Derived.Test.YtfbnjemmmgobkaaFactExactPauseOk
import Derived.Test.YtfbnjemmmgobkaaAMLPauseOk
import Derived.Test.YtfbnjemmmgobkaaAvPauseLinkR
import Derived.OpenShut
import Derived.ShutString
import Derived.ChangeOld
namespace Go.Proofs.Ytfbnjemmmgobkaa.fnExactPauseOk
open Go.ChangeShapes Go.WideShapes Go.ChangeAt Go.RowKit
open Go.ChangeMaps (open_string shut_string)
set_option linter.unusedVariables false

theorem over : Rows.fnExactPauseOkRow.holds Try.pinned (OpenSpec.ofChange Rows.fnExactPauseOkSpec) :=
  OpenClaim.holds_of_wide 15 Try.f15 rfl rfl rfl rfl rfl rfl rfl ⟨rfl, rfl, rfl, rfl, rfl⟩ rfl rfl rfl rfl rfl (by kernel_rfl) Try.func15 facts
    (of_decide_eq_true (by kernel_rfl)) (by unfold Func.isWrapper; first | (rw [if_pos (by decide +kernel)]; kernel_rfl) | (rw [if_neg (by decide +kernel)]; exact ⟨rfl, rfl⟩))
    (fun os started H enc _ => lifted os started H enc)

/-- The statement. -/
theorem proved : Rows.FnExactPauseOkSaid := over

end Go.Proofs.Ytfbnjemmmgobkaa.fnExactPauseOk
