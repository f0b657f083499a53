/- At every argument NewPauseLink answers as the model does, and its answer owns its memory: the law FnExactNewPauseLink returns true for every input. No condition. -/
import Derived.Test.YtkmebahjnnnckaaLiftExactNewPauseLink
import Derived.Test.YtkmebahjnnnckaaFactExactNewPauseLink
import Derived.Test.YtkmebahjnnnckaaAMLNpl
import Derived.Test.YtkmebahjnnnckaaAMOpen
import Derived.OpenShut
import Derived.ShutString
import Derived.ChangeOld
namespace Go.Proofs.Ytkmebahjnnnckaa.fnExactNewPauseLink
open Go.ChangeShapes Go.WideShapes Go.ChangeAt Go.RowKit
open Go.ChangeMaps (open_string shut_string)
set_option linter.unusedVariables false

theorem over : Rows.fnExactNewPauseLinkRow.holds Try.pinned (OpenSpec.ofChange Rows.fnExactNewPauseLinkSpec) :=
  OpenClaim.holds_of_wide 8 Try.f8 rfl rfl rfl rfl rfl rfl rfl ⟨rfl, rfl, rfl, rfl, rfl⟩ rfl rfl rfl rfl rfl (by kernel_rfl) Try.func8 facts
    (of_decide_eq_true (by kernel_rfl)) (by unfold Func.isWrapper; first | (rw [if_pos (by decide +kernel)]; kernel_rfl) | (rw [if_neg (by decide +kernel)]; exact ⟨rfl, rfl⟩))
    (fun os started H enc _ => lifted os started H enc)

/-- The statement. -/
theorem proved : Rows.FnExactNewPauseLinkSaid := over

end Go.Proofs.Ytkmebahjnnnckaa.fnExactNewPauseLink
