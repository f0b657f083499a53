/- The laws' own help for FlashStep: toFlashStep, szFlashStep. -/
import Derived.Test.YthjajgpejfoghaaKit
import Derived.Test.YthjajgpejfoghaaStepMath
namespace Go.Proofs.Ythjajgpejfoghaa
open Go.RowKit
set_option linter.unusedSimpArgs false
set_option maxHeartbeats 2000000 in
set_option maxRecDepth 100000 in
theorem to_flashstep (e : StepM) (w : World) :
    Calls Try.prog 42 #[e.val] w fun r w' => r = .returned e.val ∧ Below w.heap.size w w' := by
  obtain ⟨ki, ba, po, da⟩ := e
  unfold StepM.val
  dsimp only
  go_enter Try.func42, Try.ntmps42
  go_wp2
  refine bodyPost_ret (v := .agg #[.int .i64 ki, .int .i64 ba, .int .i64 po, .string da]) (by simp [results, Try.results42, go_sem]) rfl ⟨rfl, ?_⟩
  exact below_comp (below_comp (below_new _) (below_new _)) (below_new _)
theorem sz_flashstep (e : StepM) (left : Int) (w : World) (hw : e.Wf) (h : 0 ≤ left ∧ left ≤ 4194304) :
    Calls Try.prog 40 #[e.val, .int .i64 left] w fun r w' => r = .returned (.int .i64 (if left < e.body.size then -1 else left - e.body.size)) ∧ Below w.heap.size w w' := by
  obtain ⟨ki, ba, po, da⟩ := e
  have hb : da.size ≤ 9223372036854775807 := hw.2.2.2
  unfold StepM.val
  dsimp only
  by_cases hl : left < da.size
  all_goals
    try have h1 : left - da.size < 0 := by omega
    go_enter Try.func40, Try.ntmps40
    go_wp2
    go_ret
    exact ⟨rfl, below_new _⟩
end Go.Proofs.Ythjajgpejfoghaa
