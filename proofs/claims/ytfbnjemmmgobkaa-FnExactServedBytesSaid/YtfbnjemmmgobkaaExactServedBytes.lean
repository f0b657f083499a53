/- At every argument ServedBytes answers as the model does: the law FnExactServedBytes returns true for every input, and its arguments read as before. No condition. -/
import Derived.Test.YtfbnjemmmgobkaaLiftExactServedBytes
import Derived.Test.YtfbnjemmmgobkaaFactExactServedBytes
import Derived.Test.YtfbnjemmmgobkaaAMLServed
import Derived.Test.YtfbnjemmmgobkaaAvInt
import Derived.OpenShut
import Derived.ShutString
import Derived.ChangeOld
namespace Go.Proofs.Ytfbnjemmmgobkaa.fnExactServedBytes
open Go.ChangeShapes Go.WideShapes Go.ChangeAt Go.RowKit
open Go.ChangeMaps (open_string shut_string)
set_option linter.unusedVariables false

theorem over : Rows.fnExactServedBytesRow.holds Try.pinned (OpenSpec.ofChange Rows.fnExactServedBytesSpec) :=
  OpenClaim.holds_of_wide 3 Try.f3 rfl rfl rfl rfl rfl rfl rfl ⟨rfl, rfl, rfl, rfl, rfl⟩ rfl rfl rfl rfl rfl (by kernel_rfl) Try.func3 facts
    (of_decide_eq_true (by kernel_rfl)) (by unfold Func.isWrapper; first | (rw [if_pos (by decide +kernel)]; kernel_rfl) | (rw [if_neg (by decide +kernel)]; exact ⟨rfl, rfl⟩))
    (fun os started H enc _ => lifted os started H enc)

/-- The statement. -/
theorem proved : Rows.FnExactServedBytesSaid := over

end Go.Proofs.Ytfbnjemmmgobkaa.fnExactServedBytes
