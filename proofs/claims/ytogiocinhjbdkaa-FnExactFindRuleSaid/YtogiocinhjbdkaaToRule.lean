/- The laws' own help for Rule. -/
import Derived.Test.YtogiocinhjbdkaaKit
import Derived.Test.YtogiocinhjbdkaaFlatMath
namespace Go.Proofs.Ytogiocinhjbdkaa
open Go.RowKit
set_option linter.unusedSimpArgs false
set_option linter.unusedVariables false
set_option maxHeartbeats 2000000 in
set_option maxRecDepth 100000 in
theorem to_rule (e : RuleM) (w : World) :
    Calls Try.prog 90 #[e.val] w fun r w' => r = .returned e.val ∧ Below w.heap.size w w' := by
  obtain ⟨xPriority, xKind, xSrcIp, xSrcBits, xFirstPort, xLastPort, xVlan, xAction, xQueue⟩ := e
  unfold RuleM.val
  dsimp only
  go_enter Try.func90, Try.ntmps90
  go_wp2
  refine bodyPost_ret (v := .agg #[.int .i64 xPriority, .int .i64 xKind, .int .i64 xSrcIp, .int .i64 xSrcBits, .int .i64 xFirstPort, .int .i64 xLastPort, .int .i64 xVlan, .int .i64 xAction, .int .i64 xQueue]) (by simp [results, Try.results90, go_sem]) rfl ⟨rfl, ?_⟩
  exact below_comp (below_comp (below_new _) (below_new _)) (below_new _)
end Go.Proofs.Ytogiocinhjbdkaa
