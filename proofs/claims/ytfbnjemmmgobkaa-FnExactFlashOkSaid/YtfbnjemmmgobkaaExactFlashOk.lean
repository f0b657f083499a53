/- At every argument FlashOk answers as the model does: the law FnExactFlashOk returns true for every input, and its arguments read as before. No condition. -/
import Derived.Test.YtfbnjemmmgobkaaLiftExactFlashOk
import Derived.Test.YtfbnjemmmgobkaaFactExactFlashOk
import Derived.Test.YtfbnjemmmgobkaaAMLFlashOk
import Derived.Test.YtfbnjemmmgobkaaAvFlashR
import Derived.OpenShut
import Derived.ShutString
import Derived.ChangeOld
namespace Go.Proofs.Ytfbnjemmmgobkaa.fnExactFlashOk
open Go.ChangeShapes Go.WideShapes Go.ChangeAt Go.RowKit
open Go.ChangeMaps (open_string shut_string)
set_option linter.unusedVariables false

theorem over : Rows.fnExactFlashOkRow.holds Try.pinned (OpenSpec.ofChange Rows.fnExactFlashOkSpec) :=
  OpenClaim.holds_of_wide 6 Try.f6 rfl rfl rfl rfl rfl rfl rfl ⟨rfl, rfl, rfl, rfl, rfl⟩ rfl rfl rfl rfl rfl (by kernel_rfl) Try.func6 facts
    (of_decide_eq_true (by kernel_rfl)) (by unfold Func.isWrapper; first | (rw [if_pos (by decide +kernel)]; kernel_rfl) | (rw [if_neg (by decide +kernel)]; exact ⟨rfl, rfl⟩))
    (fun os started H enc _ => lifted os started H enc)

/-- The statement. -/
theorem proved : Rows.FnExactFlashOkSaid := over

end Go.Proofs.Ytfbnjemmmgobkaa.fnExactFlashOk
