/- The laws' own help for Vector. -/
import Derived.Test.YtdcjbojigmgcgaaKit
import Derived.Test.YtdcjbojigmgcgaaFlatMath
namespace Go.Proofs.Ytdcjbojigmgcgaa
open Go.RowKit
set_option linter.unusedSimpArgs false
set_option linter.unusedVariables false
set_option maxHeartbeats 2000000 in
set_option maxRecDepth 100000 in
theorem to_vector (e : VectorM) (w : World) :
    Calls Try.prog 17 #[e.val] w fun r w' => r = .returned e.val ∧ Below w.heap.size w w' := by
  obtain ⟨xMaxCount, xMaxTime, xCount, xTime, xMasked, xRaised⟩ := e
  unfold VectorM.val
  dsimp only
  go_enter Try.func17, Try.ntmps17
  go_wp2
  refine bodyPost_ret (v := .agg #[.int .i64 xMaxCount, .int .i64 xMaxTime, .int .i64 xCount, .int .i64 xTime, .bool xMasked, .bool xRaised]) (by simp [results, Try.results17, go_sem]) rfl ⟨rfl, ?_⟩
  exact below_comp (below_comp (below_new _) (below_new _)) (below_new _)
end Go.Proofs.Ytdcjbojigmgcgaa
