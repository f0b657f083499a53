/- The law's walk. -/
import Derived.Test.YtkmebahjnnnckaaAMLAcc
import Derived.Test.YtkmebahjnnnckaaAvFilterR
import Derived.Test.YtkmebahjnnnckaaAvPacket
import Derived.OpenShut
import Derived.ShutString
import Derived.ChangeOld
namespace Go.Proofs.Ytkmebahjnnnckaa.fnExactAcceptedPackets
open Go.ChangeShapes Go.WideShapes Go.ChangeAt Go.RowKit
open Go.ChangeMaps (open_string shut_string)
set_option linter.unusedVariables false

open AM in
set_option maxRecDepth 100000 in
theorem walk (w : World) (f : FilterR) (cs_f : List Value) (el_f : ElPV w cs_f f.pv) (wf_f : f.Wf) (c_l : Value) (l : List PktM) (pr_l : AM.PR (AM.Lt w) w (.view 16 (l.map PktM.pv)) c_l) (oc_l : c_l.oneCell' = true) (hl_l : l.length ≤ maxLen) (wf_l : ∀ e ∈ l, e.Wf) :
    Calls Try.prog 5 #[.agg cs_f.toArray, c_l] w fun e w' => e = .returned (.bool true) ∧ Below w.heap.size w w' :=
  walk_of_args (am_laws_FnExactAcceptedPackets f l (by obtain ⟨h0, h1⟩ := wf_f; have h := h1.1; unfold maxLen at h; omega) (by unfold maxLen at hl_l; omega) (fun e he => (by have h := (wf_l e he).2.2.2.2.2.2.2.2.2.2.2.2.2.2.2; unfold maxLen at h; omega))) (.cons (argP_agg el_f) (.cons (argP_view pr_l oc_l) (.nil)))

end Go.Proofs.Ytkmebahjnnnckaa.fnExactAcceptedPackets
