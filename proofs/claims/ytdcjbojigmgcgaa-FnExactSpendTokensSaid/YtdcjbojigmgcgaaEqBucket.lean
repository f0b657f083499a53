/- The laws' eqBucket of equal values. -/
import Derived.Test.YtdcjbojigmgcgaaKit
import Derived.Test.YtdcjbojigmgcgaaFlatMath
namespace Go.Proofs.Ytdcjbojigmgcgaa
open Go.RowKit
set_option linter.unusedSimpArgs false
set_option linter.unusedVariables false
set_option maxHeartbeats 2000000 in
set_option maxRecDepth 100000 in
theorem eq_bucket (e : BucketM) (w : World) :
    Calls Try.prog 39 #[e.val, e.val] w fun r w' => r = .returned (.bool true) ∧ Below w.heap.size w w' := by
  obtain ⟨xRate, xBurst, xTokens⟩ := e
  unfold BucketM.val
  dsimp only
  go_enter Try.func39, Try.ntmps39
  go_wp2
  go_ret
  exact ⟨rfl, below_comp (below_new _) (below_new _)⟩
end Go.Proofs.Ytdcjbojigmgcgaa
