/- The law's walk. -/
import Derived.Test.YtkmebahjnnnckaaAMLNpl
import Derived.Test.YtkmebahjnnnckaaAMOpen
import Derived.OpenShut
import Derived.ShutString
import Derived.ChangeOld
namespace Go.Proofs.Ytkmebahjnnnckaa.fnExactNewPauseLink
open Go.ChangeShapes Go.WideShapes Go.ChangeAt Go.RowKit
open Go.ChangeMaps (open_string shut_string)
set_option linter.unusedVariables false

open AM in
set_option maxRecDepth 100000 in
theorem walk (w : World) (cap : Int) (wf_cap : (Lit.int .i64 cap).wf = true) (high : Int) (wf_high : (Lit.int .i64 high).wf = true) (low : Int) (wf_low : (Lit.int .i64 low).wf = true) (delay : Int) (wf_delay : (Lit.int .i64 delay).wf = true) :
    Calls Try.prog 8 #[.int .i64 cap, .int .i64 high, .int .i64 low, .int .i64 delay] w fun e w' => e = .returned (.bool true) ∧ Below w.heap.size w w' :=
  walk_of_args (am_laws_FnExactNewPauseLink cap high low delay ) (.cons (argP_lit rfl) (.cons (argP_lit rfl) (.cons (argP_lit rfl) (.cons (argP_lit rfl) (.nil)))))

end Go.Proofs.Ytkmebahjnnnckaa.fnExactNewPauseLink
