/- The laws' own help for Segment: toSegment, szSegment. -/
import Derived.Test.YtbidaccdjnbhfaaKit
import Derived.Test.YtbidaccdjnbhfaaPktMath
namespace Go.Proofs.Ytbidaccdjnbhfaa
open Go.RowKit
set_option linter.unusedSimpArgs false
set_option maxHeartbeats 2000000 in
set_option maxRecDepth 100000 in
theorem to_segment (e : SegM) (w : World) :
    Calls Try.prog 67 #[e.val] w fun r w' => r = .returned e.val ∧ Below w.heap.size w w' := by
  obtain ⟨k, sp, dp, q, c, f, n, b⟩ := e
  unfold SegM.val
  dsimp only
  go_enter Try.func67, Try.ntmps67
  go_wp2
  refine bodyPost_ret (v := .agg #[.int .i64 k, .int .i64 sp, .int .i64 dp, .int .i64 q, .int .i64 c, .int .i64 f, .int .i64 n, .string b]) (by simp [results, Try.results67, go_sem]) rfl ⟨rfl, ?_⟩
  exact below_comp (below_comp (below_new _) (below_new _)) (below_new _)
theorem sz_segment (e : SegM) (left : Int) (w : World) (hw : e.Wf) (h : 0 ≤ left ∧ left ≤ 4194304) :
    Calls Try.prog 66 #[e.val, .int .i64 left] w fun r w' => r = .returned (.int .i64 (if left < e.body.size then -1 else left - e.body.size)) ∧ Below w.heap.size w w' := by
  obtain ⟨k, sp, dp, q, c, f, n, b⟩ := e
  have hb : b.size ≤ 9223372036854775807 := hw.2.2.2.2.2.2.2
  unfold SegM.val
  dsimp only
  by_cases hl : left < b.size
  all_goals
    try have h1 : left - b.size < 0 := by omega
    go_enter Try.func66, Try.ntmps66
    go_wp2
    go_ret
    exact ⟨rfl, below_new _⟩
end Go.Proofs.Ytbidaccdjnbhfaa
