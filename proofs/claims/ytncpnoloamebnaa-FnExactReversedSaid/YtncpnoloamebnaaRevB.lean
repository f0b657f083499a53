/- Reversed of both sides. -/
import Derived.Test.YtncpnoloamebnaaKit
import Derived.Test.YtncpnoloamebnaaPktMath
namespace Go.Proofs.Ytncpnoloamebnaa
open Go.RowKit
set_option linter.unusedSimpArgs false
set_option linter.unusedVariables false
def FlowM.reversed (f : FlowM) : FlowM := ⟨f.kind, f.dip, f.sip, f.dport, f.sport⟩
set_option maxHeartbeats 4000000 in
set_option maxRecDepth 100000 in
theorem spec_reversed (f : FlowM) (w : World) :
    Calls Try.prog 29 #[f.val] w fun r w' => r = .returned f.reversed.val ∧ Below w.heap.size w w' := by
  obtain ⟨k, a, b, c, d⟩ := f
  unfold FlowM.reversed FlowM.val
  dsimp only
  go_enter Try.func29, Try.ntmps29
  go_wp2
  refine bodyPost_ret (v := .agg #[.int .i64 k, .int .i64 b, .int .i64 a, .int .i64 d, .int .i64 c]) (by simp [results, Try.results29, go_sem]) rfl ⟨rfl, ?_⟩
  repeat (first | exact Below.refl _ _ | exact below_new _ | (refine below_comp ?_ (by assumption)) | (refine below_comp ?_ (below_new _)))
set_option maxHeartbeats 4000000 in
set_option maxRecDepth 100000 in
theorem impl_reversed (f : FlowM) (w : World) :
    Calls Try.prog 30 #[f.val] w fun r w' => r = .returned f.reversed.val ∧ Below w.heap.size w w' := by
  obtain ⟨k, a, b, c, d⟩ := f
  unfold FlowM.reversed FlowM.val
  dsimp only
  go_enter Try.func30, Try.ntmps30
  go_wp2
  refine bodyPost_ret (v := .agg #[.int .i64 k, .int .i64 b, .int .i64 a, .int .i64 d, .int .i64 c]) (by simp [results, Try.results30, go_sem]) rfl ⟨rfl, ?_⟩
  repeat (first | exact Below.refl _ _ | exact below_new _ | (refine below_comp ?_ (by assumption)) | (refine below_comp ?_ (below_new _)))
end Go.Proofs.Ytncpnoloamebnaa
