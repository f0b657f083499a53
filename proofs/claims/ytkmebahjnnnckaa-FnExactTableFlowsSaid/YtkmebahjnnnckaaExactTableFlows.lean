/- At every argument TableFlows answers as the model does, and its answer owns its memory: the law FnExactTableFlows returns true for every input, and its arguments read as before. No condition. -/
import Derived.Test.YtkmebahjnnnckaaLiftExactTableFlows
import Derived.Test.YtkmebahjnnnckaaFactExactTableFlows
import Derived.Test.YtkmebahjnnnckaaAMLTableFlows
import Derived.Test.YtkmebahjnnnckaaAvFlowTableR
import Derived.OpenShut
import Derived.ShutString
import Derived.ChangeOld
namespace Go.Proofs.Ytkmebahjnnnckaa.fnExactTableFlows
open Go.ChangeShapes Go.WideShapes Go.ChangeAt Go.RowKit
open Go.ChangeMaps (open_string shut_string)
set_option linter.unusedVariables false

theorem over : Rows.fnExactTableFlowsRow.holds Try.pinned (OpenSpec.ofChange Rows.fnExactTableFlowsSpec) :=
  OpenClaim.holds_of_wide 12 Try.f12 rfl rfl rfl rfl rfl rfl rfl ⟨rfl, rfl, rfl, rfl, rfl⟩ rfl rfl rfl rfl rfl (by kernel_rfl) Try.func12 facts
    (of_decide_eq_true (by kernel_rfl)) (by unfold Func.isWrapper; first | (rw [if_pos (by decide +kernel)]; kernel_rfl) | (rw [if_neg (by decide +kernel)]; exact ⟨rfl, rfl⟩))
    (fun os started H enc _ => lifted os started H enc)

/-- The statement. -/
theorem proved : Rows.FnExactTableFlowsSaid := over

end Go.Proofs.Ytkmebahjnnnckaa.fnExactTableFlows
