/- At every argument PiecesOfDescs answers as the model does, and its answer owns its memory: the law FnExactPiecesOfDescs returns true for every input, and its arguments read as before. No condition. -/
import Derived.Test.YtfbnjemmmgobkaaLiftExactPiecesOfDescs
import Derived.Test.YtfbnjemmmgobkaaFactExactPiecesOfDescs
import Derived.Test.YtfbnjemmmgobkaaAMLPod
import Derived.Test.YtfbnjemmmgobkaaAvDesc
import Derived.OpenShut
import Derived.ShutString
import Derived.ChangeOld
namespace Go.Proofs.Ytfbnjemmmgobkaa.fnExactPiecesOfDescs
open Go.ChangeShapes Go.WideShapes Go.ChangeAt Go.RowKit
open Go.ChangeMaps (open_string shut_string)
set_option linter.unusedVariables false

theorem over : Rows.fnExactPiecesOfDescsRow.holds Try.pinned (OpenSpec.ofChange Rows.fnExactPiecesOfDescsSpec) :=
  OpenClaim.holds_of_wide 11 Try.f11 rfl rfl rfl rfl rfl rfl rfl ⟨rfl, rfl, rfl, rfl, rfl⟩ rfl rfl rfl rfl rfl (by kernel_rfl) Try.func11 facts
    (of_decide_eq_true (by kernel_rfl)) (by unfold Func.isWrapper; first | (rw [if_pos (by decide +kernel)]; kernel_rfl) | (rw [if_neg (by decide +kernel)]; exact ⟨rfl, rfl⟩))
    (fun os started H enc _ => lifted os started H enc)

/-- The statement. -/
theorem proved : Rows.FnExactPiecesOfDescsSaid := over

end Go.Proofs.Ytfbnjemmmgobkaa.fnExactPiecesOfDescs
