/- Closed facts of the program. -/
import Derived.Test.YtkmebahjnnnckaaRows
import Derived.ChangeAt
import Derived.JoinedOf
import Derived.KernelRfl
import Derived.OpenShut
import Derived.ShutString
import Derived.ChangeOld
namespace Go.Proofs.Ytkmebahjnnnckaa.fnExactNewPauseLink
open Go.ChangeShapes Go.WideShapes Go.ChangeAt Go.RowKit
open Go.ChangeMaps (open_string shut_string)
set_option linter.unusedVariables false

theorem bool_and {a b : Bool} (ha : a = true) (hb : b = true) : (a && b) = true := by rw [ha, hb]; rfl
set_option maxHeartbeats 8000000 in
theorem facts : joinedFacts Try.pinned.checked.prog 8 Try.f8 Rows.fnExactNewPauseLinkSpec Rows.fnExactNewPauseLinkRow = true := by
  unfold joinedFacts
  repeat' (with_reducible apply bool_and)
  all_goals decide +kernel
end Go.Proofs.Ytkmebahjnnnckaa.fnExactNewPauseLink
