/- The laws' eqVector of equal values. -/
import Derived.Test.YtdcjbojigmgcgaaKit
import Derived.Test.YtdcjbojigmgcgaaFlatMath
namespace Go.Proofs.Ytdcjbojigmgcgaa
open Go.RowKit
set_option linter.unusedSimpArgs false
set_option linter.unusedVariables false
set_option maxHeartbeats 2000000 in
set_option maxRecDepth 100000 in
theorem eq_vector (e : VectorM) (w : World) :
    Calls Try.prog 21 #[e.val, e.val] w fun r w' => r = .returned (.bool true) ∧ Below w.heap.size w w' := by
  obtain ⟨xMaxCount, xMaxTime, xCount, xTime, xMasked, xRaised⟩ := e
  unfold VectorM.val
  dsimp only
  go_enter Try.func21, Try.ntmps21
  go_wp2
  go_ret
  exact ⟨rfl, below_comp (below_new _) (below_new _)⟩
end Go.Proofs.Ytdcjbojigmgcgaa
