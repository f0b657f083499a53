/- At every argument MailboxOk answers as the model does: the law FnExactMailboxOk returns true for every input, and its arguments read as before. No condition. -/
import Derived.Test.YtfbnjemmmgobkaaLiftExactMailboxOk
import Derived.Test.YtfbnjemmmgobkaaFactExactMailboxOk
import Derived.Test.YtfbnjemmmgobkaaAMLMailboxOk
import Derived.Test.YtfbnjemmmgobkaaAvMailboxR
import Derived.OpenShut
import Derived.ShutString
import Derived.ChangeOld
namespace Go.Proofs.Ytfbnjemmmgobkaa.fnExactMailboxOk
open Go.ChangeShapes Go.WideShapes Go.ChangeAt Go.RowKit
open Go.ChangeMaps (open_string shut_string)
set_option linter.unusedVariables false

theorem over : Rows.fnExactMailboxOkRow.holds Try.pinned (OpenSpec.ofChange Rows.fnExactMailboxOkSpec) :=
  OpenClaim.holds_of_wide 16 Try.f16 rfl rfl rfl rfl rfl rfl rfl ⟨rfl, rfl, rfl, rfl, rfl⟩ rfl rfl rfl rfl rfl (by kernel_rfl) Try.func16 facts
    (of_decide_eq_true (by kernel_rfl)) (by unfold Func.isWrapper; first | (rw [if_pos (by decide +kernel)]; kernel_rfl) | (rw [if_neg (by decide +kernel)]; exact ⟨rfl, rfl⟩))
    (fun os started H enc _ => lifted os started H enc)

/-- The statement. -/
theorem proved : Rows.FnExactMailboxOkSaid := over

end Go.Proofs.Ytfbnjemmmgobkaa.fnExactMailboxOk
