/- The laws' eqPiece of equal values. -/
import Derived.Test.YthjajgpejfoghabKit
import Derived.Test.YthjajgpejfoghabFlatMath
namespace Go.Proofs.Ythjajgpejfoghab
open Go.RowKit
set_option linter.unusedSimpArgs false
set_option linter.unusedVariables false
set_option maxHeartbeats 2000000 in
set_option maxRecDepth 100000 in
theorem eq_piece (e : PieceM) (w : World) :
    Calls Try.prog 91 #[e.val, e.val] w fun r w' => r = .returned (.bool true) ∧ Below w.heap.size w w' := by
  obtain ⟨xAt, xLen⟩ := e
  unfold PieceM.val
  dsimp only
  go_enter Try.func91, Try.ntmps91
  go_wp2
  go_ret
  exact ⟨rfl, below_comp (below_new _) (below_new _)⟩
end Go.Proofs.Ythjajgpejfoghab
