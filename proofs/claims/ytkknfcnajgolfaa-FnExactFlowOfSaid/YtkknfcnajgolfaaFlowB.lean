/- FlowOf of both sides; the laws' eqFlow of equal values. -/
import Derived.Test.YtkknfcnajgolfaaKit
import Derived.Test.YtkknfcnajgolfaaPktMath
namespace Go.Proofs.Ytkknfcnajgolfaa
open Go.RowKit
set_option linter.unusedSimpArgs false
set_option linter.unusedVariables false
set_option maxHeartbeats 4000000 in
set_option maxRecDepth 100000 in
theorem spec_flowof (p : PktM) (w : World) :
    Calls Try.prog 23 #[p.val] w fun r w' => r = .returned p.flow.val ∧ Below w.heap.size w w' := by
  obtain ⟨dm, sm, vl, ts, id, tl, si, di, ⟨k, sp, dp, q, c, f, n, b⟩⟩ := p
  unfold PktM.val PktM.flow FlowM.val
  dsimp only
  go_enter Try.func23, Try.ntmps23
  go_wp2
  refine bodyPost_ret (v := .agg #[.int .i64 k, .int .i64 si, .int .i64 di, .int .i64 sp, .int .i64 dp]) (by simp [results, Try.results23, go_sem]) rfl ⟨rfl, ?_⟩
  exact below_comp (below_new _) (below_new _)
set_option maxHeartbeats 4000000 in
set_option maxRecDepth 100000 in
theorem impl_flowof (p : PktM) (w : World) :
    Calls Try.prog 24 #[p.val] w fun r w' => r = .returned p.flow.val ∧ Below w.heap.size w w' := by
  obtain ⟨dm, sm, vl, ts, id, tl, si, di, ⟨k, sp, dp, q, c, f, n, b⟩⟩ := p
  unfold PktM.val PktM.flow FlowM.val
  dsimp only
  go_enter Try.func24, Try.ntmps24
  go_wp2
  refine bodyPost_ret (v := .agg #[.int .i64 k, .int .i64 si, .int .i64 di, .int .i64 sp, .int .i64 dp]) (by simp [results, Try.results24, go_sem]) rfl ⟨rfl, ?_⟩
  exact below_comp (below_new _) (below_new _)
set_option maxHeartbeats 2000000 in
set_option maxRecDepth 100000 in
theorem eq_flow (f : FlowM) (w : World) :
    Calls Try.prog 25 #[f.val, f.val] w fun r w' => r = .returned (.bool true) ∧ Below w.heap.size w w' := by
  obtain ⟨k, si, di, sp, dp⟩ := f
  unfold FlowM.val
  dsimp only
  go_enter Try.func25, Try.ntmps25
  go_wp2
  go_ret
  exact ⟨rfl, below_comp (below_new _) (below_new _)⟩
end Go.Proofs.Ytkknfcnajgolfaa
