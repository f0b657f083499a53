/- The laws' own help for Ip: toIp, szIp. -/
import Derived.Test.YtdlmplbhhgcffaaKit
import Derived.Test.YtdlmplbhhgcffaaPktMath
namespace Go.Proofs.Ytdlmplbhhgcffaa
open Go.RowKit
set_option linter.unusedSimpArgs false
set_option maxHeartbeats 2000000 in
set_option maxRecDepth 100000 in
theorem to_ip (e : IpM) (w : World) :
    Calls Try.prog 38 #[e.val] w fun r w' => r = .returned e.val ∧ Below w.heap.size w w' := by
  obtain ⟨o, n, t, p, x, y, b⟩ := e
  unfold IpM.val
  dsimp only
  go_enter Try.func38, Try.ntmps38
  go_wp2
  refine bodyPost_ret (v := .agg #[.int .i64 o, .int .i64 n, .int .i64 t, .int .i64 p, .int .i64 x, .int .i64 y, .string b]) (by simp [results, Try.results38, go_sem]) rfl ⟨rfl, ?_⟩
  exact below_comp (below_comp (below_new _) (below_new _)) (below_new _)
theorem sz_ip (e : IpM) (left : Int) (w : World) (hw : e.Wf) (h : 0 ≤ left ∧ left ≤ 4194304) :
    Calls Try.prog 36 #[e.val, .int .i64 left] w fun r w' => r = .returned (.int .i64 (if left < e.body.size then -1 else left - e.body.size)) ∧ Below w.heap.size w w' := by
  obtain ⟨o, n, t, p, x, y, b⟩ := e
  have hb : b.size ≤ 9223372036854775807 := hw.2.2.2.2.2.2
  unfold IpM.val
  dsimp only
  by_cases hl : left < b.size
  all_goals
    try have h1 : left - b.size < 0 := by omega
    go_enter Try.func36, Try.ntmps36
    go_wp2
    go_ret
    exact ⟨rfl, below_new _⟩
end Go.Proofs.Ytdlmplbhhgcffaa
