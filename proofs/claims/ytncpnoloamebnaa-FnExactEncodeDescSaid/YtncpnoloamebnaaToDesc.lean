/- The laws' own help for Desc. -/
import Derived.Test.YtncpnoloamebnaaKit
import Derived.Test.YtncpnoloamebnaaFlatMath
namespace Go.Proofs.Ytncpnoloamebnaa
open Go.RowKit
set_option linter.unusedSimpArgs false
set_option linter.unusedVariables false
set_option maxHeartbeats 2000000 in
set_option maxRecDepth 100000 in
theorem to_desc (e : DescM) (w : World) :
    Calls Try.prog 35 #[e.val] w fun r w' => r = .returned e.val ∧ Below w.heap.size w w' := by
  obtain ⟨xOp, xFlags, xLen, xAt, xSize, xCookie⟩ := e
  unfold DescM.val
  dsimp only
  go_enter Try.func35, Try.ntmps35
  go_wp2
  refine bodyPost_ret (v := .agg #[.int .i64 xOp, .int .i64 xFlags, .int .i64 xLen, .int .i64 xAt, .int .i64 xSize, .int .i64 xCookie]) (by simp [results, Try.results35, go_sem]) rfl ⟨rfl, ?_⟩
  exact below_comp (below_comp (below_new _) (below_new _)) (below_new _)
end Go.Proofs.Ytncpnoloamebnaa
