/- At every argument Effective answers as the model does, and its answer owns its memory: the law FnExactEffective returns true for every input, and its arguments read as before. No condition. -/
import Derived.Test.YtfbnjemmmgobkaaLiftExactEffective
import Derived.Test.YtfbnjemmmgobkaaFactExactEffective
import Derived.Test.YtfbnjemmmgobkaaAMLEff
import Derived.Test.YtfbnjemmmgobkaaAvRule
import Derived.OpenShut
import Derived.ShutString
import Derived.ChangeOld
namespace Go.Proofs.Ytfbnjemmmgobkaa.fnExactEffective
open Go.ChangeShapes Go.WideShapes Go.ChangeAt Go.RowKit
open Go.ChangeMaps (open_string shut_string)
set_option linter.unusedVariables false

theorem over : Rows.fnExactEffectiveRow.holds Try.pinned (OpenSpec.ofChange Rows.fnExactEffectiveSpec) :=
  OpenClaim.holds_of_wide 5 Try.f5 rfl rfl rfl rfl rfl rfl rfl ⟨rfl, rfl, rfl, rfl, rfl⟩ rfl rfl rfl rfl rfl (by kernel_rfl) Try.func5 facts
    (of_decide_eq_true (by kernel_rfl)) (by unfold Func.isWrapper; first | (rw [if_pos (by decide +kernel)]; kernel_rfl) | (rw [if_neg (by decide +kernel)]; exact ⟨rfl, rfl⟩))
    (fun os started H enc _ => lifted os started H enc)

/-- The statement. -/
theorem proved : Rows.FnExactEffectiveSaid := over

end Go.Proofs.Ytfbnjemmmgobkaa.fnExactEffective
