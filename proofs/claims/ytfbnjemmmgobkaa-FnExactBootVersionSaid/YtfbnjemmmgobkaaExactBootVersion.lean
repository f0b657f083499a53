/- At every argument BootVersion answers as the model does: the law FnExactBootVersion returns true for every input, and its arguments read as before. No condition. -/
import Derived.Test.YtfbnjemmmgobkaaLiftExactBootVersion
import Derived.Test.YtfbnjemmmgobkaaFactExactBootVersion
import Derived.Test.YtfbnjemmmgobkaaAMLBootVersion
import Derived.Test.YtfbnjemmmgobkaaAvFlashR
import Derived.OpenShut
import Derived.ShutString
import Derived.ChangeOld
namespace Go.Proofs.Ytfbnjemmmgobkaa.fnExactBootVersion
open Go.ChangeShapes Go.WideShapes Go.ChangeAt Go.RowKit
open Go.ChangeMaps (open_string shut_string)
set_option linter.unusedVariables false

theorem over : Rows.fnExactBootVersionRow.holds Try.pinned (OpenSpec.ofChange Rows.fnExactBootVersionSpec) :=
  OpenClaim.holds_of_wide 8 Try.f8 rfl rfl rfl rfl rfl rfl rfl ⟨rfl, rfl, rfl, rfl, rfl⟩ rfl rfl rfl rfl rfl (by kernel_rfl) Try.func8 facts
    (of_decide_eq_true (by kernel_rfl)) (by unfold Func.isWrapper; first | (rw [if_pos (by decide +kernel)]; kernel_rfl) | (rw [if_neg (by decide +kernel)]; exact ⟨rfl, rfl⟩))
    (fun os started H enc _ => lifted os started H enc)

/-- The statement. -/
theorem proved : Rows.FnExactBootVersionSaid := over

end Go.Proofs.Ytfbnjemmmgobkaa.fnExactBootVersion
