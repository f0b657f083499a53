/- The law's walk. -/
import Derived.Test.YtfbnjemmmgobkaaAMLServed
import Derived.Test.YtfbnjemmmgobkaaAvInt
import Derived.OpenShut
import Derived.ShutString
import Derived.ChangeOld
namespace Go.Proofs.Ytfbnjemmmgobkaa.fnExactServedBytes
open Go.ChangeShapes Go.WideShapes Go.ChangeAt Go.RowKit
open Go.ChangeMaps (open_string shut_string)
set_option linter.unusedVariables false

open AM in
set_option maxRecDepth 100000 in
theorem walk (w : World) (c_a : Value) (a : List IntE) (pr_a : AM.PR (AM.Lt w) w (.view 1 (a.map IntE.pv)) c_a) (oc_a : c_a.oneCell' = true) (hl_a : a.length ≤ maxLen) (wf_a : ∀ e ∈ a, I64 e) (c_b : Value) (b : List IntE) (pr_b : AM.PR (AM.Lt w) w (.view 1 (b.map IntE.pv)) c_b) (oc_b : c_b.oneCell' = true) (hl_b : b.length ≤ maxLen) (wf_b : ∀ e ∈ b, I64 e) (q : Int) (wf_q : (Lit.int .i64 q).wf = true) :
    Calls Try.prog 3 #[c_a, c_b, .int .i64 q] w fun e w' => e = .returned (.bool true) ∧ Below w.heap.size w w' :=
  walk_of_args (am_laws_FnExactServedBytes a b q (by unfold maxLen at hl_a; omega) (by unfold maxLen at hl_b; omega)) (.cons (argP_view pr_a oc_a) (.cons (argP_view pr_b oc_b) (.cons (argP_lit rfl) (.nil))))

end Go.Proofs.Ytfbnjemmmgobkaa.fnExactServedBytes
