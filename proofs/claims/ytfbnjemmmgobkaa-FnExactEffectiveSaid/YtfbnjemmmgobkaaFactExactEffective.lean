/- Closed facts of the program. -/
import Derived.Test.YtfbnjemmmgobkaaRows
import Derived.ChangeAt
import Derived.JoinedOf
import Derived.KernelRfl
import Derived.OpenShut
import Derived.ShutString
import Derived.ChangeOld
namespace Go.Proofs.Ytfbnjemmmgobkaa.fnExactEffective
open Go.ChangeShapes Go.WideShapes Go.ChangeAt Go.RowKit
open Go.ChangeMaps (open_string shut_string)
set_option linter.unusedVariables false

theorem bool_and {a b : Bool} (ha : a = true) (hb : b = true) : (a && b) = true := by rw [ha, hb]; rfl
set_option maxHeartbeats 8000000 in
theorem facts : joinedFacts Try.pinned.checked.prog 5 Try.f5 Rows.fnExactEffectiveSpec Rows.fnExactEffectiveRow = true := by
  unfold joinedFacts
  repeat' (with_reducible apply bool_and)
  all_goals decide +kernel
end Go.Proofs.Ytfbnjemmmgobkaa.fnExactEffective
