/- The law's walk. -/
import Derived.Test.YtfbnjemmmgobkaaAMLTick
import Derived.Test.YtfbnjemmmgobkaaAvVirtualFunction
import Derived.OpenShut
import Derived.ShutString
import Derived.ChangeOld
namespace Go.Proofs.Ytfbnjemmmgobkaa.fnExactTickFunctions
open Go.ChangeShapes Go.WideShapes Go.ChangeAt Go.RowKit
open Go.ChangeMaps (open_string shut_string)
set_option linter.unusedVariables false

open AM in
set_option maxRecDepth 100000 in
theorem walk (w : World) (c_l : Value) (l : List VirtualFunctionM) (pr_l : AM.PR (AM.Lt w) w (.view 8 (l.map VirtualFunctionM.pv)) c_l) (oc_l : c_l.oneCell' = true) (hl_l : l.length ≤ maxLen) (wf_l : ∀ e ∈ l, e.Wf) (n : Int) (wf_n : (Lit.int .i64 n).wf = true) :
    Calls Try.prog 4 #[c_l, .int .i64 n] w fun e w' => e = .returned (.bool true) ∧ Below w.heap.size w w' :=
  walk_of_args (am_laws_FnExactTickFunctions l n (by unfold maxLen at hl_l; omega) (i64_bd wf_n)) (.cons (argP_view pr_l oc_l) (.cons (argP_lit rfl) (.nil)))

end Go.Proofs.Ytfbnjemmmgobkaa.fnExactTickFunctions
