/- The law's walk. -/
import Derived.Test.YtkmebahjnnnckaaAMLTableFlows
import Derived.Test.YtkmebahjnnnckaaAvFlowTableR
import Derived.OpenShut
import Derived.ShutString
import Derived.ChangeOld
namespace Go.Proofs.Ytkmebahjnnnckaa.fnExactTableFlows
open Go.ChangeShapes Go.WideShapes Go.ChangeAt Go.RowKit
open Go.ChangeMaps (open_string shut_string)
set_option linter.unusedVariables false

open AM in
set_option maxRecDepth 100000 in
theorem walk (w : World) (t : FlowTableR) (cs_t : List Value) (el_t : ElPV w cs_t t.pv) (wf_t : t.Wf) :
    Calls Try.prog 12 #[.agg cs_t.toArray] w fun e w' => e = .returned (.bool true) ∧ Below w.heap.size w w' :=
  walk_of_args (am_laws_FnExactTableFlows t (by have h0 := wf_t; have h := h0.1; unfold maxLen at h; omega)) (.cons (argP_agg el_t) (.nil))

end Go.Proofs.Ytkmebahjnnnckaa.fnExactTableFlows
