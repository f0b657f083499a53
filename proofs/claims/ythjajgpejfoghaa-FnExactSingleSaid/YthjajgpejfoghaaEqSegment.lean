/- The laws' eqSegment of equal values. -/
import Derived.Test.YthjajgpejfoghaaKit
import Derived.Test.YthjajgpejfoghaaPktMath
namespace Go.Proofs.Ythjajgpejfoghaa
open Go.RowKit
set_option linter.unusedSimpArgs false
set_option maxHeartbeats 2000000 in
set_option maxRecDepth 100000 in
theorem eq_segment (e : SegM) (w : World) :
    Calls Try.prog 95 #[e.val, e.val] w fun r w' => r = .returned (.bool true) ∧ Below w.heap.size w w' := by
  obtain ⟨k, sp, dp, q, c, f, n, b⟩ := e
  unfold SegM.val
  dsimp only
  go_enter Try.func95, Try.ntmps95
  go_wp2
  go_ret
  exact ⟨rfl, below_comp (below_new _) (below_new _)⟩
end Go.Proofs.Ythjajgpejfoghaa
