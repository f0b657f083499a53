/- The laws' eqClock of equal values. -/
import Derived.Test.YtdcjbojigmgcgabKit
import Derived.Test.YtdcjbojigmgcgabFlatMath
namespace Go.Proofs.Ytdcjbojigmgcgab
open Go.RowKit
set_option linter.unusedSimpArgs false
set_option linter.unusedVariables false
set_option maxHeartbeats 2000000 in
set_option maxRecDepth 100000 in
theorem eq_clock (e : ClockM) (w : World) :
    Calls Try.prog 18 #[e.val, e.val] w fun r w' => r = .returned (.bool true) ∧ Below w.heap.size w w' := by
  obtain ⟨xTime, xFraction, xRate, xDebt⟩ := e
  unfold ClockM.val
  dsimp only
  go_enter Try.func18, Try.ntmps18
  go_wp2
  go_ret
  exact ⟨rfl, below_comp (below_new _) (below_new _)⟩
end Go.Proofs.Ytdcjbojigmgcgab
