/- The laws' own help for Piece. -/
import Derived.Test.YtogiocinhjbdkaaKit
import Derived.Test.YtogiocinhjbdkaaFlatMath
namespace Go.Proofs.Ytogiocinhjbdkaa
open Go.RowKit
set_option linter.unusedSimpArgs false
set_option linter.unusedVariables false
set_option maxHeartbeats 2000000 in
set_option maxRecDepth 100000 in
theorem to_piece (e : PieceM) (w : World) :
    Calls Try.prog 83 #[e.val] w fun r w' => r = .returned e.val ∧ Below w.heap.size w w' := by
  obtain ⟨xAt, xLen⟩ := e
  unfold PieceM.val
  dsimp only
  go_enter Try.func83, Try.ntmps83
  go_wp2
  refine bodyPost_ret (v := .agg #[.int .i64 xAt, .int .i64 xLen]) (by simp [results, Try.results83, go_sem]) rfl ⟨rfl, ?_⟩
  exact below_comp (below_comp (below_new _) (below_new _)) (below_new _)
end Go.Proofs.Ytogiocinhjbdkaa
