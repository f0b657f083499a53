/- The law's walk. -/
import Derived.Test.YtfbnjemmmgobkaaAMLMailboxOk
import Derived.Test.YtfbnjemmmgobkaaAvMailboxR
import Derived.OpenShut
import Derived.ShutString
import Derived.ChangeOld
namespace Go.Proofs.Ytfbnjemmmgobkaa.fnExactMailboxOk
open Go.ChangeShapes Go.WideShapes Go.ChangeAt Go.RowKit
open Go.ChangeMaps (open_string shut_string)
set_option linter.unusedVariables false

open AM in
set_option maxRecDepth 100000 in
theorem walk (w : World) (b : MailboxR) (cs_b : List Value) (el_b : ElPV w cs_b b.pv) (wf_b : b.Wf) :
    Calls Try.prog 16 #[.agg cs_b.toArray] w fun e w' => e = .returned (.bool true) ∧ Below w.heap.size w w' :=
  walk_of_args (am_laws_FnExactMailboxOk b (by obtain ⟨h0, h1, h2, h3, h4⟩ := wf_b; have h := h1.1; unfold maxLen at h; omega)) (.cons (argP_agg el_b) (.nil))

end Go.Proofs.Ytfbnjemmmgobkaa.fnExactMailboxOk
