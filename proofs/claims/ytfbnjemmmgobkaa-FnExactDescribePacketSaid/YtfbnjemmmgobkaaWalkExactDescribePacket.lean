/- The law's walk. -/
import Derived.Test.YtfbnjemmmgobkaaAMLDp
import Derived.Test.YtfbnjemmmgobkaaAvPiece
import Derived.OpenShut
import Derived.ShutString
import Derived.ChangeOld
namespace Go.Proofs.Ytfbnjemmmgobkaa.fnExactDescribePacket
open Go.ChangeShapes Go.WideShapes Go.ChangeAt Go.RowKit
open Go.ChangeMaps (open_string shut_string)
set_option linter.unusedVariables false

open AM in
set_option maxRecDepth 100000 in
theorem walk (w : World) (c_l : Value) (l : List PieceM) (pr_l : AM.PR (AM.Lt w) w (.view 2 (l.map PieceM.pv)) c_l) (oc_l : c_l.oneCell' = true) (hl_l : l.length ≤ maxLen) (wf_l : ∀ e ∈ l, e.Wf) (size : Int) (wf_size : (Lit.int .i64 size).wf = true) (cookie : Int) (wf_cookie : (Lit.int .i64 cookie).wf = true) :
    Calls Try.prog 12 #[c_l, .int .i64 size, .int .i64 cookie] w fun e w' => e = .returned (.bool true) ∧ Below w.heap.size w w' :=
  walk_of_args (am_laws_FnExactDescribePacket l size cookie (by unfold maxLen at hl_l; omega)) (.cons (argP_view pr_l oc_l) (.cons (argP_lit rfl) (.cons (argP_lit rfl) (.nil))))

end Go.Proofs.Ytfbnjemmmgobkaa.fnExactDescribePacket
