/- The laws' own help for Flow. -/
import Derived.Test.YthjajgpejfoghabKit
import Derived.Test.YthjajgpejfoghabPktMath
namespace Go.Proofs.Ythjajgpejfoghab
open Go.RowKit
set_option linter.unusedSimpArgs false
set_option linter.unusedVariables false
set_option maxHeartbeats 2000000 in
set_option maxRecDepth 100000 in
theorem to_flow (e : FlowM) (w : World) :
    Calls Try.prog 22 #[e.val] w fun r w' => r = .returned e.val ∧ Below w.heap.size w w' := by
  obtain ⟨kind, sip, dip, sport, dport⟩ := e
  unfold FlowM.val
  dsimp only
  go_enter Try.func22, Try.ntmps22
  go_wp2
  refine bodyPost_ret (v := .agg #[.int .i64 kind, .int .i64 sip, .int .i64 dip, .int .i64 sport, .int .i64 dport]) (by simp [results, Try.results22, go_sem]) rfl ⟨rfl, ?_⟩
  exact below_comp (below_comp (below_new _) (below_new _)) (below_new _)
end Go.Proofs.Ythjajgpejfoghab
