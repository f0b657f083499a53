/- At every argument FindRule answers as the model does, and writes into no argument: the law FnExactFindRule returns true for every input, and its arguments read as before. No condition. -/
import Derived.Test.YtogiocinhjbdkaaFindRuleI
import Derived.Test.YtogiocinhjbdkaaRowToRule
import Derived.Test.YtogiocinhjbdkaaRowRuleEq
import Derived.Test.YtogiocinhjbdkaaRowRuleMark
import Derived.Test.YtogiocinhjbdkaaOpenPacket
import Derived.Test.YtogiocinhjbdkaaLawPacket
import Derived.Deep.DeepCutAuto
import Derived.StillTailTactics
import Derived.Laws.CopyOwn
import Derived.Test.YtogiocinhjbdkaaLiftExactFindRule
import Derived.OpenShut
import Derived.ShutString
import Derived.ChangeOld
namespace Go.Proofs.Ytogiocinhjbdkaa.fnExactFindRule
open Go.ChangeShapes Go.WideShapes Go.ChangeAt Go.RowKit
open Go.ChangeMaps (open_string shut_string)
set_option linter.unusedVariables false

theorem over : Rows.fnExactFindRuleRow.holds Try.pinned (OpenSpec.ofChange Rows.fnExactFindRuleSpec) :=
  OpenClaim.holds_of_wide 6 Try.f6 rfl rfl rfl rfl rfl rfl rfl ⟨rfl, rfl, rfl, rfl, rfl⟩ rfl rfl rfl rfl rfl (by kernel_rfl) Try.func6 (by kernel_rfl)
    (of_decide_eq_true (by kernel_rfl)) (by unfold Func.isWrapper; first | (rw [if_pos (by decide +kernel)]; kernel_rfl) | (rw [if_neg (by decide +kernel)]; exact ⟨rfl, rfl⟩))
    (fun os started H enc _ => lifted os started H enc)

/-- The statement. -/
theorem proved : Rows.FnExactFindRuleSaid := over

end Go.Proofs.Ytogiocinhjbdkaa.fnExactFindRule
