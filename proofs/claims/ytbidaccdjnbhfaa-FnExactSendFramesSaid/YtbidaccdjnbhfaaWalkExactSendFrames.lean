/- The law's walk. -/
import Derived.Test.YtbidaccdjnbhfaaMgSend
import Derived.OpenShut
import Derived.ShutString
import Derived.ChangeOld
namespace Go.Proofs.Ytbidaccdjnbhfaa.fnExactSendFrames
open Go.ChangeShapes Go.WideShapes Go.ChangeAt Go.RowKit
open Go.ChangeMaps (open_string shut_string)
set_option linter.unusedVariables false

open AM in
set_option maxRecDepth 100000 in
theorem walk (w : World) (p : PktM) (wf_p : p.Wf) (size : Int) (wf_size : (Lit.int .i64 size).wf = true) :
    Calls Try.prog 7 #[p.val, .int .i64 size] w fun e w' => e = .returned (.bool true) ∧ Below w.heap.size w w' :=
  walk_of_args (am_laws_FnExactSendFrames p size (by have h := wf_p.2.2.2.2.2.2.2.2.2.2.2.2.2.2.2; unfold maxLen at h; omega)) (.cons (argP_lit (pkt_of _)) (.cons (argP_lit rfl) (.nil)))

end Go.Proofs.Ytbidaccdjnbhfaa.fnExactSendFrames
