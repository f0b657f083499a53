/- The law's walk. -/
import Derived.Test.YtfbnjemmmgobkaaAMLFindFlow
import Derived.Test.YtfbnjemmmgobkaaAvFlowTableR
import Derived.Test.YtfbnjemmmgobkaaOpenFlow
import Derived.OpenShut
import Derived.ShutString
import Derived.ChangeOld
namespace Go.Proofs.Ytfbnjemmmgobkaa.fnExactFindFlow
open Go.ChangeShapes Go.WideShapes Go.ChangeAt Go.RowKit
open Go.ChangeMaps (open_string shut_string)
set_option linter.unusedVariables false

open AM in
set_option maxRecDepth 100000 in
theorem walk (w : World) (t : FlowTableR) (cs_t : List Value) (el_t : ElPV w cs_t t.pv) (wf_t : t.Wf) (f : FlowM) (wf_f : f.Wf) :
    Calls Try.prog 14 #[.agg cs_t.toArray, f.val] w fun e w' => e = .returned (.bool true) ∧ Below w.heap.size w w' :=
  walk_of_args (am_laws_FnExactFindFlow t f (by have h0 := wf_t; have h := h0.1; unfold maxLen at h; omega)) (.cons (argP_agg el_t) (.cons (argP_lit (flow_of _)) (.nil)))

end Go.Proofs.Ytfbnjemmmgobkaa.fnExactFindFlow
