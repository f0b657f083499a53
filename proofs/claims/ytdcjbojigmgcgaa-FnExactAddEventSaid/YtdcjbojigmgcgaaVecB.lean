/- Vectors: due, check, VectorOk of both sides. -/
import Derived.Test.YtdcjbojigmgcgaaInYN
import Derived.Test.YtdcjbojigmgcgaaBoxes
import Derived.Test.YtdcjbojigmgcgaaVecOk
import Derived.Deep.QuietTactic
import Derived.BigQuiet
namespace Go.Proofs.Ytdcjbojigmgcgaa
open Go.RowKit
set_option linter.unusedSimpArgs false
set_option linter.unusedVariables false

theorem spec_in2 (x lo hi : Int) (w : World) : Calls Try.prog 46 #[.int .i64 x, .int .i64 lo, .int .i64 hi] w fun e w' => e = .returned (.bool (decide (lo ≤ x) && decide (x ≤ hi))) ∧ Below w.heap.size w w' := by
  have h := spec_in x lo hi w
  rw [Bool.decide_and] at h
  exact h.mono fun _ _ hh => ⟨hh.1, hh.2 ▸ Below.refl _ _⟩

theorem impl_in2 (x lo hi : Int) (w : World) : Calls Try.prog 48 #[.int .i64 x, .int .i64 lo, .int .i64 hi] w fun e w' => e = .returned (.bool (decide (lo ≤ x) && decide (x ≤ hi))) ∧ Below w.heap.size w w' := by
  have h := impl_in x lo hi w
  rw [Bool.decide_and] at h
  exact h.mono fun _ _ hh => ⟨hh.1, hh.2 ▸ Below.refl _ _⟩

set_option maxHeartbeats 4000000 in
set_option maxRecDepth 100000 in
theorem spec_due (e : VectorM) (w : World) :
    Calls Try.prog 47 #[e.val] w fun r w' => r = .returned (.bool e.due) ∧ Below w.heap.size w w' := by
  obtain ⟨mc, mt, c, t, m, r⟩ := e
  unfold VectorM.val
  dsimp only
  obtain ⟨B, HB⟩ : ∃ B : Bool, Hid (B = VectorM.due ⟨mc, mt, c, t, m, r⟩) := ⟨_, Lib.hid rfl⟩
  rw [← HB.out]
  go_enter Try.func47, Try.ntmps47
  go_wp2
  all_goals
    go_ret
    refine ⟨ret_bool ?_, below_new _⟩
    rw [HB.out]
    unfold VectorM.due
    dsimp only
    rw [Bool.eq_iff_iff]
    simp only [decide_eq_true_eq, Bool.and_eq_true, Bool.or_eq_true, Bool.false_eq_true, true_iff, false_iff]
    first | done | omega

set_option maxHeartbeats 4000000 in
set_option maxRecDepth 100000 in
theorem spec_check (e : VectorM) (w : World) :
    Calls Try.prog 50 #[e.val] w fun r w' => r = .returned (VectorM.check2 e).val ∧ Below w.heap.size w w' := by
  have HD : Hid (∀ W, _) := Lib.hid fun W => spec_due e W
  obtain ⟨D, HB⟩ : ∃ B : Bool, Hid (e.due = B) := ⟨_, Lib.hid rfl⟩
  unfold VectorM.check2
  rw [HB.out] at HD ⊢
  clear HB
  obtain ⟨mc, mt, c, t, m, r⟩ := e
  unfold VectorM.val at *
  dsimp only at *
  rcases D with _ | _ <;> rcases m with _ | _ <;> rcases r with _ | _
  all_goals
    go_enter Try.func50, Try.ntmps50
    go_wp2_with (first | (go_at_call 47; (refine (HD.out _).mono ?_; rintro e w1 ⟨rfl, hb1⟩; have hz1 := hb1.size; (try simp at hz1); (apply with_box hb1 (g := w.heap.size)); (focus (repeat (first | (with_reducible exact HP0.out) | (with_reducible exact HP1.out) | (with_reducible exact HP2.out) | (with_reducible exact HP3.out) | (with_reducible exact HQ0.out) | (with_reducible exact HQ1.out) | (with_reducible exact HQ2.out) | (with_reducible exact HQ3.out) | (with_reducible apply Box.new) | (with_reducible apply Box.newAt; simp; done) | (with_reducible apply Box.set) | (with_reducible apply Box.skip; omega) | (with_reducible apply Box.alloc) | (with_reducible apply Box.row) | (with_reducible apply Box.skipRow; omega)))); intro hx0; (try simp only [List.setIfInBounds_toArray, List.set_cons_zero, List.set_cons_succ] at hx0); have k0_0 := hx0.cell 0 (by simp); have k0_1 := hx0.cell 1 (by simp); have k0_2 := hx0.cell 2 (by simp); have k0_3 := hx0.cell 3 (by simp); have k0_4 := hx0.cell 4 (by simp); have k0_5 := hx0.cell 5 (by simp); have fr0 := fun o => hx0.frozen o; (try simp only [List.getElem_toArray, List.getElem_cons_zero, List.getElem_cons_succ] at k0_0); (try simp only [List.getElem_toArray, List.getElem_cons_zero, List.getElem_cons_succ] at k0_1); (try simp only [List.getElem_toArray, List.getElem_cons_zero, List.getElem_cons_succ] at k0_2); (try simp only [List.getElem_toArray, List.getElem_cons_zero, List.getElem_cons_succ] at k0_3); (try simp only [List.getElem_toArray, List.getElem_cons_zero, List.getElem_cons_succ] at k0_4); (try simp only [List.getElem_toArray, List.getElem_cons_zero, List.getElem_cons_succ] at k0_5); (apply with_box hb1 (g := w.heap.size + 1)); (focus (repeat (first | (with_reducible exact HP0.out) | (with_reducible exact HP1.out) | (with_reducible exact HP2.out) | (with_reducible exact HP3.out) | (with_reducible exact HQ0.out) | (with_reducible exact HQ1.out) | (with_reducible exact HQ2.out) | (with_reducible exact HQ3.out) | (with_reducible apply Box.new) | (with_reducible apply Box.newAt; simp; done) | (with_reducible apply Box.set) | (with_reducible apply Box.skip; omega) | (with_reducible apply Box.alloc) | (with_reducible apply Box.row) | (with_reducible apply Box.skipRow; omega)))); intro hx1; (try simp only [List.setIfInBounds_toArray, List.set_cons_zero, List.set_cons_succ] at hx1); have k1_0 := hx1.cell 0 (by simp); have k1_1 := hx1.cell 1 (by simp); have k1_2 := hx1.cell 2 (by simp); have k1_3 := hx1.cell 3 (by simp); have k1_4 := hx1.cell 4 (by simp); have k1_5 := hx1.cell 5 (by simp); have fr1 := fun o => hx1.frozen o; (try simp only [List.getElem_toArray, List.getElem_cons_zero, List.getElem_cons_succ] at k1_0); (try simp only [List.getElem_toArray, List.getElem_cons_zero, List.getElem_cons_succ] at k1_1); (try simp only [List.getElem_toArray, List.getElem_cons_zero, List.getElem_cons_succ] at k1_2); (try simp only [List.getElem_toArray, List.getElem_cons_zero, List.getElem_cons_succ] at k1_3); (try simp only [List.getElem_toArray, List.getElem_cons_zero, List.getElem_cons_succ] at k1_4); (try simp only [List.getElem_toArray, List.getElem_cons_zero, List.getElem_cons_succ] at k1_5); skip; have HP0 := Lib.hid hx0; clear hx0; have HP1 := Lib.hid hx1; clear hx1; have HB1 := Lib.hid hb1; clear hb1)))
    apply bodyPost_row (g := w.heap.size + 1) rfl rfl Try.underlying25 rfl
    focus (repeat (first | (with_reducible exact HP0.out) | (with_reducible exact HP1.out) | (with_reducible exact HP2.out) | (with_reducible exact HP3.out) | (with_reducible exact HQ0.out) | (with_reducible exact HQ1.out) | (with_reducible exact HQ2.out) | (with_reducible exact HQ3.out) | (with_reducible apply Box.new) | (with_reducible apply Box.newAt; simp; done) | (with_reducible apply Box.set) | (with_reducible apply Box.skip; omega) | (with_reducible apply Box.alloc) | (with_reducible apply Box.row) | (with_reducible apply Box.skipRow; omega)))
    focus (kernel_rfl)
    focus (rfl)
    try simp only [List.setIfInBounds_toArray, List.set_cons_zero, List.set_cons_succ]
    refine ⟨?_, ?_⟩
    · first | rfl | trivial | (simp; done)
    · repeat (first | ((with_reducible refine Below.setCell ?_ ?_ _); rotate_left; first | omega | (dsimp only; omega) | (simp; done) | (simp; omega)) | ((with_reducible refine below_setRow ?_ ?_ _); rotate_left; first | omega | (dsimp only; omega) | (simp; done) | (simp; omega)) | with_reducible exact Below.refl _ _ | with_reducible exact below_new _ | with_reducible exact below_drew | with_reducible exact HB1.out | with_reducible exact HB2.out | with_reducible exact HB3.out | (with_reducible apply below_comp; rotate_left; first | with_reducible exact HB3.out | with_reducible exact HB2.out | with_reducible exact HB1.out | with_reducible assumption | with_reducible exact below_new _ | with_reducible exact below_drew))

end Go.Proofs.Ytdcjbojigmgcgaa
