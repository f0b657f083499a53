/- IpOk of both sides. -/
import Derived.Test.YtkknfcnajgolfaaInBoth
import Derived.Test.YtkknfcnajgolfaaPktMath
import Derived.Test.YtkknfcnajgolfaaKit
namespace Go.Proofs.Ytkknfcnajgolfaa
open Go.RowKit
set_option linter.unusedSimpArgs false
set_option linter.unusedVariables false
set_option maxHeartbeats 4000000 in
set_option maxRecDepth 100000 in
theorem spec_ipok (e : IpM) (w : World) :
    Calls Try.prog 88 #[e.val] w fun r w' => r = .returned (.bool (decide e.Ok)) ∧ Below w.heap.size w w' := by
  obtain ⟨o, n, t, p, x, y, b⟩ := e
  unfold IpM.val
  dsimp only
  obtain ⟨B, HB⟩ : ∃ B : Bool, Hid (B = decide (IpM.Ok ⟨o, n, t, p, x, y, b⟩) ∧ (B = true ↔ IpM.Ok ⟨o, n, t, p, x, y, b⟩)) := ⟨_, Lib.hid ⟨rfl, decide_eq_true_iff⟩⟩
  rw [← HB.out.1]
  go_enter Try.func88, Try.ntmps88
  go_wp2_with (first | (go_at_call 40; refine (spec_in _ _ _ _).mono ?_; rintro e w' ⟨rfl, rfl⟩))
  all_goals
    go_ret
    refine ⟨ret_bool ?_, below_new _⟩
    rw [Bool.eq_iff_iff, HB.out.2]
    unfold IpM.Ok
    dsimp only
    simp only [Bool.and_eq_true, Bool.or_eq_true, decide_eq_true_eq, bne_iff_ne, beq_iff_eq, Bool.false_eq_true, ne_eq, false_iff, true_iff, true_and, and_true]
    omega
set_option maxHeartbeats 4000000 in
set_option maxRecDepth 100000 in
theorem impl_ipok (e : IpM) (w : World) :
    Calls Try.prog 91 #[e.val] w fun r w' => r = .returned (.bool (decide e.Ok)) ∧ Below w.heap.size w w' := by
  obtain ⟨o, n, t, p, x, y, b⟩ := e
  unfold IpM.val
  dsimp only
  obtain ⟨B, HB⟩ : ∃ B : Bool, Hid (B = decide (IpM.Ok ⟨o, n, t, p, x, y, b⟩) ∧ (B = true ↔ IpM.Ok ⟨o, n, t, p, x, y, b⟩)) := ⟨_, Lib.hid ⟨rfl, decide_eq_true_iff⟩⟩
  rw [← HB.out.1]
  go_enter Try.func91, Try.ntmps91
  go_wp2_with (first | (go_at_call 43; refine (impl_in _ _ _ _).mono ?_; rintro e w' ⟨rfl, rfl⟩))
  all_goals
    go_ret
    refine ⟨ret_bool ?_, below_new _⟩
    rw [Bool.eq_iff_iff, HB.out.2]
    unfold IpM.Ok
    dsimp only
    simp only [Bool.and_eq_true, Bool.or_eq_true, decide_eq_true_eq, bne_iff_ne, beq_iff_eq, Bool.false_eq_true, ne_eq, false_iff, true_iff, true_and, and_true]
    omega
end Go.Proofs.Ytkknfcnajgolfaa
