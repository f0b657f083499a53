/- The laws' own help for Eth: toEth, szEth. -/
import Derived.Test.YtdlmplbhhgcffaaKit
import Derived.Test.YtdlmplbhhgcffaaEthMath
namespace Go.Proofs.Ytdlmplbhhgcffaa
open Go.RowKit
set_option linter.unusedSimpArgs false
set_option maxHeartbeats 2000000 in
set_option maxRecDepth 100000 in
theorem to_eth (e : EthM) (w : World) :
    Calls Try.prog 28 #[e.val] w fun r w' => r = .returned e.val ∧ Below w.heap.size w w' := by
  obtain ⟨d, s, v, t, b⟩ := e
  unfold EthM.val
  dsimp only
  go_enter Try.func28, Try.ntmps28
  go_wp2
  refine bodyPost_ret (v := .agg #[.int .i64 d, .int .i64 s, .int .i64 v, .int .i64 t, .string b]) (by simp [results, Try.results28, go_sem]) rfl ⟨rfl, ?_⟩
  exact below_comp (below_comp (below_new _) (below_new _)) (below_new _)
theorem sz_eth (e : EthM) (left : Int) (w : World) (hw : e.Wf) (h : 0 ≤ left ∧ left ≤ 4194304) :
    Calls Try.prog 26 #[e.val, .int .i64 left] w fun r w' => r = .returned (.int .i64 (if left < e.body.size then -1 else left - e.body.size)) ∧ Below w.heap.size w w' := by
  obtain ⟨d, s, v, t, b⟩ := e
  have hb : b.size ≤ 9223372036854775807 := hw.2.2.2.2
  unfold EthM.val
  dsimp only
  by_cases hl : left < b.size
  all_goals
    try have h1 : left - b.size < 0 := by omega
    go_enter Try.func26, Try.ntmps26
    go_wp2
    go_ret
    exact ⟨rfl, below_new _⟩
end Go.Proofs.Ytdlmplbhhgcffaa
