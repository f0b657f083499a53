/- At every argument FrameAll answers as the model does, and its answer owns its memory: the law FnExactFrameAll returns true for every input, and its arguments read as before. No condition. -/
import Derived.Test.YtbidaccdjnbhfaaLiftExactFrameAll
import Derived.Test.YtbidaccdjnbhfaaFactExactFrameAll
import Derived.Test.YtbidaccdjnbhfaaAMLFrameAll
import Derived.Test.YtbidaccdjnbhfaaAvPacket
import Derived.OpenShut
import Derived.ShutString
import Derived.ChangeOld
namespace Go.Proofs.Ytbidaccdjnbhfaa.fnExactFrameAll
open Go.ChangeShapes Go.WideShapes Go.ChangeAt Go.RowKit
open Go.ChangeMaps (open_string shut_string)
set_option linter.unusedVariables false

theorem over : Rows.fnExactFrameAllRow.holds Try.pinned (OpenSpec.ofChange Rows.fnExactFrameAllSpec) :=
  OpenClaim.holds_of_wide 6 Try.f6 rfl rfl rfl rfl rfl rfl rfl ⟨rfl, rfl, rfl, rfl, rfl⟩ rfl rfl rfl rfl rfl (by kernel_rfl) Try.func6 facts
    (of_decide_eq_true (by kernel_rfl)) (by unfold Func.isWrapper; first | (rw [if_pos (by decide +kernel)]; kernel_rfl) | (rw [if_neg (by decide +kernel)]; exact ⟨rfl, rfl⟩))
    (fun os started H enc _ => lifted os started H enc)

/-- The statement. -/
theorem proved : Rows.FnExactFrameAllSaid := over

end Go.Proofs.Ytbidaccdjnbhfaa.fnExactFrameAll
