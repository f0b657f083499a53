/- The law's walk. -/
import Derived.Test.YtfbnjemmmgobkaaAMLBootVersion
import Derived.Test.YtfbnjemmmgobkaaAvFlashR
import Derived.OpenShut
import Derived.ShutString
import Derived.ChangeOld
namespace Go.Proofs.Ytfbnjemmmgobkaa.fnExactBootVersion
open Go.ChangeShapes Go.WideShapes Go.ChangeAt Go.RowKit
open Go.ChangeMaps (open_string shut_string)
set_option linter.unusedVariables false

open AM in
set_option maxRecDepth 100000 in
theorem walk (w : World) (f : FlashR) (cs_f : List Value) (el_f : ElPV w cs_f f.pv) (wf_f : f.Wf) :
    Calls Try.prog 8 #[.agg cs_f.toArray] w fun e w' => e = .returned (.bool true) ∧ Below w.heap.size w w' :=
  walk_of_args (am_laws_FnExactBootVersion f (by have h0 := wf_f; have h := h0.1; unfold maxLen at h; omega) (by have h0 := wf_f; exact fun e he => (by have h := h0.2 e he; unfold maxLen at h; omega))) (.cons (argP_agg el_f) (.nil))

end Go.Proofs.Ytfbnjemmmgobkaa.fnExactBootVersion
