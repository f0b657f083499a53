/- EthOk of both sides. -/
import Derived.Test.YtioejbgdhmiiiaaInBoth
import Derived.Test.YtioejbgdhmiiiaaEthMath
import Derived.Test.YtioejbgdhmiiiaaKit
namespace Go.Proofs.Ytioejbgdhmiiiaa
open Go.RowKit
set_option linter.unusedSimpArgs false
set_option maxHeartbeats 2000000 in
theorem spec_ethok (e : EthM) (w : World) :
    Calls Try.prog 44 #[e.val] w fun r w' => r = .returned (.bool (decide e.Ok)) ∧ Below w.heap.size w w' := by
  obtain ⟨d, s, v, t, b⟩ := e
  unfold EthM.val
  dsimp only
  obtain ⟨B, HB⟩ : ∃ B : Bool, Hid (B = decide (EthM.Ok ⟨d, s, v, t, b⟩) ∧ (B = true ↔ EthM.Ok ⟨d, s, v, t, b⟩)) := ⟨_, Lib.hid ⟨rfl, decide_eq_true_iff⟩⟩
  rw [← HB.out.1]
  go_enter Try.func44, Try.ntmps44
  go_wp2_with (go_at_call 46; refine (spec_in _ _ _ _).mono ?_; rintro e w' ⟨rfl, rfl⟩)
  all_goals
    go_ret
    refine ⟨ret_bool ?_, below_new _⟩
    rw [Bool.eq_iff_iff, HB.out.2]
    unfold EthM.Ok
    dsimp only
    simp only [Bool.and_eq_true, decide_eq_true_eq, bne_iff_ne, Bool.false_eq_true, ne_eq, false_iff, true_iff]
    omega
set_option maxHeartbeats 2000000 in
theorem impl_ethok (e : EthM) (w : World) :
    Calls Try.prog 36 #[e.val] w fun r w' => r = .returned (.bool (decide e.Ok)) ∧ Below w.heap.size w w' := by
  obtain ⟨d, s, v, t, b⟩ := e
  unfold EthM.val
  dsimp only
  obtain ⟨B, HB⟩ : ∃ B : Bool, Hid (B = decide (EthM.Ok ⟨d, s, v, t, b⟩) ∧ (B = true ↔ EthM.Ok ⟨d, s, v, t, b⟩)) := ⟨_, Lib.hid ⟨rfl, decide_eq_true_iff⟩⟩
  rw [← HB.out.1]
  go_enter Try.func36, Try.ntmps36
  go_wp2_with (go_at_call 49; refine (impl_in _ _ _ _).mono ?_; rintro e w' ⟨rfl, rfl⟩)
  all_goals
    go_ret
    refine ⟨ret_bool ?_, below_new _⟩
    rw [Bool.eq_iff_iff, HB.out.2]
    unfold EthM.Ok
    dsimp only
    simp only [Bool.and_eq_true, decide_eq_true_eq, bne_iff_ne, Bool.false_eq_true, ne_eq, false_iff, true_iff]
    omega
end Go.Proofs.Ytioejbgdhmiiiaa
