/- At every argument AcceptedPackets answers as the model does, and its answer owns its memory: the law FnExactAcceptedPackets returns true for every input, and its arguments read as before. No condition. -/
import Derived.Test.YtkmebahjnnnckaaLiftExactAcceptedPackets
import Derived.Test.YtkmebahjnnnckaaFactExactAcceptedPackets
import Derived.Test.YtkmebahjnnnckaaAMLAcc
import Derived.Test.YtkmebahjnnnckaaAvFilterR
import Derived.Test.YtkmebahjnnnckaaAvPacket
import Derived.OpenShut
import Derived.ShutString
import Derived.ChangeOld
namespace Go.Proofs.Ytkmebahjnnnckaa.fnExactAcceptedPackets
open Go.ChangeShapes Go.WideShapes Go.ChangeAt Go.RowKit
open Go.ChangeMaps (open_string shut_string)
set_option linter.unusedVariables false

theorem over : Rows.fnExactAcceptedPacketsRow.holds Try.pinned (OpenSpec.ofChange Rows.fnExactAcceptedPacketsSpec) :=
  OpenClaim.holds_of_wide 5 Try.f5 rfl rfl rfl rfl rfl rfl rfl ⟨rfl, rfl, rfl, rfl, rfl⟩ rfl rfl rfl rfl rfl (by kernel_rfl) Try.func5 facts
    (of_decide_eq_true (by kernel_rfl)) (by unfold Func.isWrapper; first | (rw [if_pos (by decide +kernel)]; kernel_rfl) | (rw [if_neg (by decide +kernel)]; exact ⟨rfl, rfl⟩))
    (fun os started H enc _ => lifted os started H enc)

/-- The statement. -/
theorem proved : Rows.FnExactAcceptedPacketsSaid := over

end Go.Proofs.Ytkmebahjnnnckaa.fnExactAcceptedPackets
