/- IpOk of both sides. -/
import Derived.Test.YtdlmplbhhgcffaaInBoth
import Derived.Test.YtdlmplbhhgcffaaPktMath
import Derived.Test.YtdlmplbhhgcffaaKit
namespace Go.Proofs.Ytdlmplbhhgcffaa
open Go.RowKit
set_option linter.unusedSimpArgs false
set_option linter.unusedVariables false
set_option maxHeartbeats 4000000 in
set_option maxRecDepth 100000 in
theorem spec_ipok (e : IpM) (w : World) :
    Calls Try.prog 37 #[e.val] w fun r w' => r = .returned (.bool (decide e.Ok)) ∧ Below w.heap.size w w' := by
  obtain ⟨o, n, t, p, x, y, b⟩ := e
  unfold IpM.val
  dsimp only
  obtain ⟨B, HB⟩ : ∃ B : Bool, Hid (B = decide (IpM.Ok ⟨o, n, t, p, x, y, b⟩) ∧ (B = true ↔ IpM.Ok ⟨o, n, t, p, x, y, b⟩)) := ⟨_, Lib.hid ⟨rfl, decide_eq_true_iff⟩⟩
  rw [← HB.out.1]
  go_enter Try.func37, Try.ntmps37
  go_wp2_with (first | (go_at_call 64; refine (spec_in _ _ _ _).mono ?_; rintro e w' ⟨rfl, rfl⟩))
  all_goals
    go_ret
    refine ⟨ret_bool ?_, below_new _⟩
    rw [Bool.eq_iff_iff, HB.out.2]
    unfold IpM.Ok
    dsimp only
    simp only [Bool.and_eq_true, Bool.or_eq_true, decide_eq_true_eq, bne_iff_ne, beq_iff_eq, Bool.false_eq_true, ne_eq, false_iff, true_iff, true_and, and_true]
    omega
set_option maxHeartbeats 4000000 in
set_option maxRecDepth 100000 in
theorem impl_ipok (e : IpM) (w : World) :
    Calls Try.prog 39 #[e.val] w fun r w' => r = .returned (.bool (decide e.Ok)) ∧ Below w.heap.size w w' := by
  obtain ⟨o, n, t, p, x, y, b⟩ := e
  unfold IpM.val
  dsimp only
  obtain ⟨B, HB⟩ : ∃ B : Bool, Hid (B = decide (IpM.Ok ⟨o, n, t, p, x, y, b⟩) ∧ (B = true ↔ IpM.Ok ⟨o, n, t, p, x, y, b⟩)) := ⟨_, Lib.hid ⟨rfl, decide_eq_true_iff⟩⟩
  rw [← HB.out.1]
  go_enter Try.func39, Try.ntmps39
  go_wp2_with (first | (go_at_call 63; refine (impl_in _ _ _ _).mono ?_; rintro e w' ⟨rfl, rfl⟩))
  all_goals
    go_ret
    refine ⟨ret_bool ?_, below_new _⟩
    rw [Bool.eq_iff_iff, HB.out.2]
    unfold IpM.Ok
    dsimp only
    simp only [Bool.and_eq_true, Bool.or_eq_true, decide_eq_true_eq, bne_iff_ne, beq_iff_eq, Bool.false_eq_true, ne_eq, false_iff, true_iff, true_and, and_true]
    omega
end Go.Proofs.Ytdlmplbhhgcffaa
