/- The laws' eqRule of equal values. -/
import Derived.Test.YtogiocinhjbdkaaKit
import Derived.Test.YtogiocinhjbdkaaFlatMath
namespace Go.Proofs.Ytogiocinhjbdkaa
open Go.RowKit
set_option linter.unusedSimpArgs false
set_option linter.unusedVariables false
set_option maxHeartbeats 2000000 in
set_option maxRecDepth 100000 in
theorem eq_rule (e : RuleM) (w : World) :
    Calls Try.prog 94 #[e.val, e.val] w fun r w' => r = .returned (.bool true) ∧ Below w.heap.size w w' := by
  obtain ⟨xPriority, xKind, xSrcIp, xSrcBits, xFirstPort, xLastPort, xVlan, xAction, xQueue⟩ := e
  unfold RuleM.val
  dsimp only
  go_enter Try.func94, Try.ntmps94
  go_wp2
  go_ret
  exact ⟨rfl, below_comp (below_new _) (below_new _)⟩
end Go.Proofs.Ytogiocinhjbdkaa
