/- The laws' eqDesc of equal values. -/
import Derived.Test.YtncpnoloamebnaaKit
import Derived.Test.YtncpnoloamebnaaFlatMath
namespace Go.Proofs.Ytncpnoloamebnaa
open Go.RowKit
set_option linter.unusedSimpArgs false
set_option linter.unusedVariables false
set_option maxHeartbeats 2000000 in
set_option maxRecDepth 100000 in
theorem eq_desc (e : DescM) (w : World) :
    Calls Try.prog 41 #[e.val, e.val] w fun r w' => r = .returned (.bool true) ∧ Below w.heap.size w w' := by
  obtain ⟨xOp, xFlags, xLen, xAt, xSize, xCookie⟩ := e
  unfold DescM.val
  dsimp only
  go_enter Try.func41, Try.ntmps41
  go_wp2
  go_ret
  exact ⟨rfl, below_comp (below_new _) (below_new _)⟩
end Go.Proofs.Ytncpnoloamebnaa
