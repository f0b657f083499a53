/- The laws' own help for Completion. -/
import Derived.Test.YtncpnoloamebnaaKit
import Derived.Test.YtncpnoloamebnaaFlatMath
namespace Go.Proofs.Ytncpnoloamebnaa
open Go.RowKit
set_option linter.unusedSimpArgs false
set_option linter.unusedVariables false
set_option maxHeartbeats 2000000 in
set_option maxRecDepth 100000 in
theorem to_completion (e : CompletionM) (w : World) :
    Calls Try.prog 43 #[e.val] w fun r w' => r = .returned e.val ∧ Below w.heap.size w w' := by
  obtain ⟨xCookie, xLen, xSize, xCount, xHash⟩ := e
  unfold CompletionM.val
  dsimp only
  go_enter Try.func43, Try.ntmps43
  go_wp2
  refine bodyPost_ret (v := .agg #[.int .i64 xCookie, .int .i64 xLen, .int .i64 xSize, .int .i64 xCount, .int .i64 xHash]) (by simp [results, Try.results43, go_sem]) rfl ⟨rfl, ?_⟩
  exact below_comp (below_comp (below_new _) (below_new _)) (below_new _)
end Go.Proofs.Ytncpnoloamebnaa
