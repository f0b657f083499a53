/- The laws' eqFlow of equal values. -/
import Derived.Test.YthjajgpejfoghabKit
import Derived.Test.YthjajgpejfoghabPktMath
namespace Go.Proofs.Ythjajgpejfoghab
open Go.RowKit
set_option linter.unusedSimpArgs false
set_option linter.unusedVariables false
set_option maxHeartbeats 2000000 in
set_option maxRecDepth 100000 in
theorem eq_flow (e : FlowM) (w : World) :
    Calls Try.prog 131 #[e.val, e.val] w fun r w' => r = .returned (.bool true) ∧ Below w.heap.size w w' := by
  obtain ⟨kind, sip, dip, sport, dport⟩ := e
  unfold FlowM.val
  dsimp only
  go_enter Try.func131, Try.ntmps131
  go_wp2
  go_ret
  exact ⟨rfl, below_comp (below_new _) (below_new _)⟩
end Go.Proofs.Ythjajgpejfoghab
