/- The law's walk. -/
import Derived.Test.YtbidaccdjnbhfaaAMLStreamIndex
import Derived.Test.YtbidaccdjnbhfaaAvStream
import Derived.Test.YtbidaccdjnbhfaaOpenFlow
import Derived.OpenShut
import Derived.ShutString
import Derived.ChangeOld
namespace Go.Proofs.Ytbidaccdjnbhfaa.fnExactStreamIndex
open Go.ChangeShapes Go.WideShapes Go.ChangeAt Go.RowKit
open Go.ChangeMaps (open_string shut_string)
set_option linter.unusedVariables false

open AM in
set_option maxRecDepth 100000 in
theorem walk (w : World) (c_l : Value) (l : List StreamM) (pr_l : AM.PR (AM.Lt w) w (.view 8 (l.map StreamM.pv)) c_l) (oc_l : c_l.oneCell' = true) (hl_l : l.length ≤ maxLen) (wf_l : ∀ e ∈ l, e.Wf) (f : FlowM) (wf_f : f.Wf) :
    Calls Try.prog 9 #[c_l, f.val] w fun e w' => e = .returned (.bool true) ∧ Below w.heap.size w w' :=
  walk_of_args (am_laws_FnExactStreamIndex l f (by unfold maxLen at hl_l; omega) (fun e he => by have h := wf_l e he; unfold StreamM.Wf maxLen at h; omega)) (.cons (argP_view pr_l oc_l) (.cons (argP_lit (flow_of _)) (.nil)))

end Go.Proofs.Ytbidaccdjnbhfaa.fnExactStreamIndex
