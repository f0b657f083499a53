/- The laws' own help for Bucket. -/
import Derived.Test.YtdcjbojigmgcgaaKit
import Derived.Test.YtdcjbojigmgcgaaFlatMath
namespace Go.Proofs.Ytdcjbojigmgcgaa
open Go.RowKit
set_option linter.unusedSimpArgs false
set_option linter.unusedVariables false
set_option maxHeartbeats 2000000 in
set_option maxRecDepth 100000 in
theorem to_bucket (e : BucketM) (w : World) :
    Calls Try.prog 35 #[e.val] w fun r w' => r = .returned e.val ∧ Below w.heap.size w w' := by
  obtain ⟨xRate, xBurst, xTokens⟩ := e
  unfold BucketM.val
  dsimp only
  go_enter Try.func35, Try.ntmps35
  go_wp2
  refine bodyPost_ret (v := .agg #[.int .i64 xRate, .int .i64 xBurst, .int .i64 xTokens]) (by simp [results, Try.results35, go_sem]) rfl ⟨rfl, ?_⟩
  exact below_comp (below_comp (below_new _) (below_new _)) (below_new _)
end Go.Proofs.Ytdcjbojigmgcgaa
