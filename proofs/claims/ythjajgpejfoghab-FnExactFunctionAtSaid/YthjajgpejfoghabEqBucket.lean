/- The laws' eqBucket of equal values. -/
import Derived.Test.YthjajgpejfoghabKit
import Derived.Test.YthjajgpejfoghabFlatMath
namespace Go.Proofs.Ythjajgpejfoghab
open Go.RowKit
set_option linter.unusedSimpArgs false
set_option linter.unusedVariables false
set_option maxHeartbeats 2000000 in
set_option maxRecDepth 100000 in
theorem eq_bucket (e : BucketM) (w : World) :
    Calls Try.prog 119 #[e.val, e.val] w fun r w' => r = .returned (.bool true) ∧ Below w.heap.size w w' := by
  obtain ⟨xRate, xBurst, xTokens⟩ := e
  unfold BucketM.val
  dsimp only
  go_enter Try.func119, Try.ntmps119
  go_wp2
  go_ret
  exact ⟨rfl, below_comp (below_new _) (below_new _)⟩
end Go.Proofs.Ythjajgpejfoghab
