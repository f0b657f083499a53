/- The laws' own help for Bucket. -/
import Derived.Test.YthjajgpejfoghabKit
import Derived.Test.YthjajgpejfoghabFlatMath
namespace Go.Proofs.Ythjajgpejfoghab
open Go.RowKit
set_option linter.unusedSimpArgs false
set_option linter.unusedVariables false
set_option maxHeartbeats 2000000 in
set_option maxRecDepth 100000 in
theorem to_bucket (e : BucketM) (w : World) :
    Calls Try.prog 118 #[e.val] w fun r w' => r = .returned e.val ∧ Below w.heap.size w w' := by
  obtain ⟨xRate, xBurst, xTokens⟩ := e
  unfold BucketM.val
  dsimp only
  go_enter Try.func118, Try.ntmps118
  go_wp2
  refine bodyPost_ret (v := .agg #[.int .i64 xRate, .int .i64 xBurst, .int .i64 xTokens]) (by simp [results, Try.results118, go_sem]) rfl ⟨rfl, ?_⟩
  exact below_comp (below_comp (below_new _) (below_new _)) (below_new _)
end Go.Proofs.Ythjajgpejfoghab
