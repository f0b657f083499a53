/- The law's walk. -/
import Derived.Test.YtfbnjemmmgobkaaAMLPauseOk
import Derived.Test.YtfbnjemmmgobkaaAvPauseLinkR
import Derived.OpenShut
import Derived.ShutString
import Derived.ChangeOld
namespace Go.Proofs.Ytfbnjemmmgobkaa.fnExactPauseOk
open Go.ChangeShapes Go.WideShapes Go.ChangeAt Go.RowKit
open Go.ChangeMaps (open_string shut_string)
set_option linter.unusedVariables false

open AM in
set_option maxRecDepth 100000 in
theorem walk (w : World) (p : PauseLinkR) (cs_p : List Value) (el_p : ElPV w cs_p p.pv) (wf_p : p.Wf) :
    Calls Try.prog 15 #[.agg cs_p.toArray] w fun e w' => e = .returned (.bool true) ∧ Below w.heap.size w w' :=
  walk_of_args (am_laws_FnExactPauseOk p (by obtain ⟨h0, h1, h2, h3, h4, h5, h6, h7⟩ := wf_p; have h := h5.1; unfold maxLen at h; omega) (by obtain ⟨h0, h1, h2, h3, h4, h5, h6, h7⟩ := wf_p; have h := h6.1; unfold maxLen at h; omega)) (.cons (argP_agg el_p) (.nil))

end Go.Proofs.Ytfbnjemmmgobkaa.fnExactPauseOk
