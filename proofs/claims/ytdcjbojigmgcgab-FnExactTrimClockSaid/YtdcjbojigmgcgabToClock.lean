/- The laws' own help for Clock. -/
import Derived.Test.YtdcjbojigmgcgabKit
import Derived.Test.YtdcjbojigmgcgabFlatMath
namespace Go.Proofs.Ytdcjbojigmgcgab
open Go.RowKit
set_option linter.unusedSimpArgs false
set_option linter.unusedVariables false
set_option maxHeartbeats 2000000 in
set_option maxRecDepth 100000 in
theorem to_clock (e : ClockM) (w : World) :
    Calls Try.prog 14 #[e.val] w fun r w' => r = .returned e.val ∧ Below w.heap.size w w' := by
  obtain ⟨xTime, xFraction, xRate, xDebt⟩ := e
  unfold ClockM.val
  dsimp only
  go_enter Try.func14, Try.ntmps14
  go_wp2
  refine bodyPost_ret (v := .agg #[.int .i64 xTime, .int .i64 xFraction, .int .i64 xRate, .int .i64 xDebt]) (by simp [results, Try.results14, go_sem]) rfl ⟨rfl, ?_⟩
  exact below_comp (below_comp (below_new _) (below_new _)) (below_new _)
end Go.Proofs.Ytdcjbojigmgcgab
