/- At every argument DescribePacket answers as the model does, and its answer owns its memory: the law FnExactDescribePacket returns true for every input, and its arguments read as before. No condition. -/
import Derived.Test.YtfbnjemmmgobkaaLiftExactDescribePacket
import Derived.Test.YtfbnjemmmgobkaaFactExactDescribePacket
import Derived.Test.YtfbnjemmmgobkaaAMLDp
import Derived.Test.YtfbnjemmmgobkaaAvPiece
import Derived.OpenShut
import Derived.ShutString
import Derived.ChangeOld
namespace Go.Proofs.Ytfbnjemmmgobkaa.fnExactDescribePacket
open Go.ChangeShapes Go.WideShapes Go.ChangeAt Go.RowKit
open Go.ChangeMaps (open_string shut_string)
set_option linter.unusedVariables false

theorem over : Rows.fnExactDescribePacketRow.holds Try.pinned (OpenSpec.ofChange Rows.fnExactDescribePacketSpec) :=
  OpenClaim.holds_of_wide 12 Try.f12 rfl rfl rfl rfl rfl rfl rfl ⟨rfl, rfl, rfl, rfl, rfl⟩ rfl rfl rfl rfl rfl (by kernel_rfl) Try.func12 facts
    (of_decide_eq_true (by kernel_rfl)) (by unfold Func.isWrapper; first | (rw [if_pos (by decide +kernel)]; kernel_rfl) | (rw [if_neg (by decide +kernel)]; exact ⟨rfl, rfl⟩))
    (fun os started H enc _ => lifted os started H enc)

/-- The statement. -/
theorem proved : Rows.FnExactDescribePacketSaid := over

end Go.Proofs.Ytfbnjemmmgobkaa.fnExactDescribePacket
