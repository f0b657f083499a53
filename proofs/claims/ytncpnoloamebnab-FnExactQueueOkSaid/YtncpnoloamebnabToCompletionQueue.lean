/- The laws' own help for CompletionQueue. -/
import Derived.Test.YtncpnoloamebnabKit
import Derived.Test.YtncpnoloamebnabFlatMath
namespace Go.Proofs.Ytncpnoloamebnab
open Go.RowKit
set_option linter.unusedSimpArgs false
set_option linter.unusedVariables false
set_option maxHeartbeats 2000000 in
set_option maxRecDepth 100000 in
theorem to_completionqueue (e : CompletionQueueM) (w : World) :
    Calls Try.prog 26 #[e.val] w fun r w' => r = .returned e.val ∧ Below w.heap.size w w' := by
  obtain ⟨xBase, xSize, xCount⟩ := e
  unfold CompletionQueueM.val
  dsimp only
  go_enter Try.func26, Try.ntmps26
  go_wp2
  refine bodyPost_ret (v := .agg #[.int .i64 xBase, .int .i64 xSize, .int .i64 xCount]) (by simp [results, Try.results26, go_sem]) rfl ⟨rfl, ?_⟩
  exact below_comp (below_comp (below_new _) (below_new _)) (below_new _)
end Go.Proofs.Ytncpnoloamebnab
