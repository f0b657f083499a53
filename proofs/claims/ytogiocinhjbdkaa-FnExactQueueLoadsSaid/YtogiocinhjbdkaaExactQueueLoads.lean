/- At every argument QueueLoads answers as the model does, in memory of its own, and writes into no argument: the law FnExactQueueLoads returns true for every input, and its arguments read as before. No condition. -/
import Derived.Test.YtogiocinhjbdkaaMergeQL
import Derived.Test.YtogiocinhjbdkaaRowInt
import Derived.Deep.DeepCutAuto
import Derived.StillTailTactics
import Derived.Laws.CopyOwn
import Derived.Test.YtogiocinhjbdkaaLiftExactQueueLoads
import Derived.Test.YtogiocinhjbdkaaFactExactQueueLoads
import Derived.OpenShut
import Derived.ShutString
import Derived.ChangeOld
namespace Go.Proofs.Ytogiocinhjbdkaa.fnExactQueueLoads
open Go.ChangeShapes Go.WideShapes Go.ChangeAt Go.RowKit
open Go.ChangeMaps (open_string shut_string)
set_option linter.unusedVariables false

theorem over : Rows.fnExactQueueLoadsRow.holds Try.pinned (OpenSpec.ofChange Rows.fnExactQueueLoadsSpec) :=
  OpenClaim.holds_of_wide 12 Try.f12 rfl rfl rfl rfl rfl rfl rfl ⟨rfl, rfl, rfl, rfl, rfl⟩ rfl rfl rfl rfl rfl (by kernel_rfl) Try.func12 facts
    (of_decide_eq_true (by kernel_rfl)) (by unfold Func.isWrapper; first | (rw [if_pos (by decide +kernel)]; kernel_rfl) | (rw [if_neg (by decide +kernel)]; exact ⟨rfl, rfl⟩))
    (fun os started H enc _ => lifted os started H enc)

/-- The statement. -/
theorem proved : Rows.FnExactQueueLoadsSaid := over

end Go.Proofs.Ytogiocinhjbdkaa.fnExactQueueLoads
