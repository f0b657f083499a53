/- The law's walk. -/
import Derived.Test.YtfbnjemmmgobkaaAMLEff
import Derived.Test.YtfbnjemmmgobkaaAvRule
import Derived.OpenShut
import Derived.ShutString
import Derived.ChangeOld
namespace Go.Proofs.Ytfbnjemmmgobkaa.fnExactEffective
open Go.ChangeShapes Go.WideShapes Go.ChangeAt Go.RowKit
open Go.ChangeMaps (open_string shut_string)
set_option linter.unusedVariables false

open AM in
set_option maxRecDepth 100000 in
theorem walk (w : World) (c_l : Value) (l : List RuleM) (pr_l : AM.PR (AM.Lt w) w (.view 9 (l.map RuleM.pv)) c_l) (oc_l : c_l.oneCell' = true) (hl_l : l.length ≤ maxLen) (wf_l : ∀ e ∈ l, e.Wf) :
    Calls Try.prog 5 #[c_l] w fun e w' => e = .returned (.bool true) ∧ Below w.heap.size w w' :=
  walk_of_args (am_laws_FnExactEffective l (by unfold maxLen at hl_l; omega)) (.cons (argP_view pr_l oc_l) (.nil))

end Go.Proofs.Ytfbnjemmmgobkaa.fnExactEffective
