/- Buckets of both sides. -/
import Derived.Test.YtdcjbojigmgcgabInYN
import Derived.Test.YtdcjbojigmgcgabBoxes
import Derived.Test.YtdcjbojigmgcgabBuckOk
import Derived.Deep.QuietTactic
import Derived.BigQuiet
namespace Go.Proofs.Ytdcjbojigmgcgab
open Go.RowKit
set_option linter.unusedSimpArgs false
set_option linter.unusedVariables false

set_option maxHeartbeats 4000000 in
set_option maxRecDepth 100000 in
theorem spec_bucketok (e : BucketM) (w : World) :
    Calls Try.prog 46 #[e.val] w fun r w' => r = .returned (.bool (decide e.Ok)) ∧ Below w.heap.size w w' := by
  obtain ⟨xRate, xBurst, xTokens⟩ := e
  unfold BucketM.val
  dsimp only
  obtain ⟨B, HB⟩ : ∃ B : Bool, Hid (B = decide (BucketM.Ok ⟨xRate, xBurst, xTokens⟩) ∧ (B = true ↔ BucketM.Ok ⟨xRate, xBurst, xTokens⟩)) := ⟨_, Lib.hid ⟨rfl, decide_eq_true_iff⟩⟩
  rw [← HB.out.1]
  go_enter Try.func46, Try.ntmps46
  go_wp2_with (first | (go_at_call 36; refine (spec_in _ _ _ _).mono ?_; rintro e w' ⟨rfl, rfl⟩))
  all_goals
    go_ret
    refine ⟨ret_bool ?_, by first | exact below_new _ | exact Below.refl _ _ | (repeat (first | exact Below.refl _ _ | exact below_new _ | exact below_drew | (refine below_comp ?_ (by assumption)) | (refine below_comp ?_ (below_new _))))⟩
    rw [Bool.eq_iff_iff, HB.out.2]
    unfold BucketM.Ok
    dsimp only
    simp only [Bool.and_eq_true, Bool.or_eq_true, decide_eq_true_eq, bne_iff_ne, beq_iff_eq, Bool.false_eq_true, ne_eq, false_iff, true_iff, true_and, and_true]
    first | omega | (simp only [Bool.not_eq_true', Bool.not_eq_false', decide_eq_false_iff_not, decide_eq_true_eq, beq_eq_false_iff_ne, beq_iff_eq, bne_iff_ne, bne_eq_false_iff_eq, ne_eq] at *; omega)

set_option maxHeartbeats 4000000 in
set_option maxRecDepth 100000 in
theorem impl_bucketok (e : BucketM) (w : World) :
    Calls Try.prog 34 #[e.val] w fun r w' => r = .returned (.bool (decide e.Ok)) ∧ Below w.heap.size w w' := by
  obtain ⟨xRate, xBurst, xTokens⟩ := e
  unfold BucketM.val
  dsimp only
  obtain ⟨B, HB⟩ : ∃ B : Bool, Hid (B = decide (BucketM.Ok ⟨xRate, xBurst, xTokens⟩) ∧ (B = true ↔ BucketM.Ok ⟨xRate, xBurst, xTokens⟩)) := ⟨_, Lib.hid ⟨rfl, decide_eq_true_iff⟩⟩
  rw [← HB.out.1]
  go_enter Try.func34, Try.ntmps34
  go_wp2_with (first | (go_at_call 37; refine (impl_in _ _ _ _).mono ?_; rintro e w' ⟨rfl, rfl⟩))
  all_goals
    go_ret
    refine ⟨ret_bool ?_, by first | exact below_new _ | exact Below.refl _ _ | (repeat (first | exact Below.refl _ _ | exact below_new _ | exact below_drew | (refine below_comp ?_ (by assumption)) | (refine below_comp ?_ (below_new _))))⟩
    rw [Bool.eq_iff_iff, HB.out.2]
    unfold BucketM.Ok
    dsimp only
    simp only [Bool.and_eq_true, Bool.or_eq_true, decide_eq_true_eq, bne_iff_ne, beq_iff_eq, Bool.false_eq_true, ne_eq, false_iff, true_iff, true_and, and_true]
    first | omega | (simp only [Bool.not_eq_true', Bool.not_eq_false', decide_eq_false_iff_not, decide_eq_true_eq, beq_eq_false_iff_ne, beq_iff_eq, bne_iff_ne, bne_eq_false_iff_eq, ne_eq] at *; omega)



set_option maxHeartbeats 4000000 in
set_option maxRecDepth 100000 in
theorem spec_wait (e : BucketM) (n : Int) (w : World) :
    Calls Try.prog 33 #[e.val, .int .i64 n] w fun r w' => r = .returned (.int .i64 (e.wait n)) ∧ Below w.heap.size w w' := by
  by_cases h : e.Ok
  case neg =>
    rw [show e.wait n = -1 from if_neg (fun hh => h hh.1)]
    have HV : Hid (∀ W, Calls Try.prog 46 #[e.val] W fun r w' => r = .returned (.bool false) ∧ Below W.heap.size W w') := Lib.hid fun W => by have := spec_bucketok e W; rwa [decide_eq_false h] at this
    clear h
    obtain ⟨ra, bu, to⟩ := e
    unfold BucketM.val at *
    dsimp only at *
    go_enter Try.func33, Try.ntmps33
    go_wp2_with (first | (go_at_call 46; (refine (HV.out _).mono ?_; rintro e w1 ⟨rfl, hb1⟩; have hz1 := hb1.size; (try simp at hz1); (have hl0 : w.heap.size < w1.heap.size := by omega); (apply with_box hb1 (g := w.heap.size)); (focus (repeat (first | (with_reducible exact HP0.out) | (with_reducible exact HP1.out) | (with_reducible exact HP2.out) | (with_reducible exact HP3.out) | (with_reducible exact HQ0.out) | (with_reducible exact HQ1.out) | (with_reducible exact HQ2.out) | (with_reducible exact HQ3.out) | (with_reducible apply Box.new) | (with_reducible apply Box.newAt; simp; done) | (with_reducible apply Box.set) | (with_reducible apply Box.skip; omega) | (with_reducible apply Box.alloc) | (with_reducible apply Box.drew) | (with_reducible apply Box.row) | (with_reducible apply Box.skipRow; omega)))); intro hx0; (try simp only [List.setIfInBounds_toArray, List.set_cons_zero, List.set_cons_succ] at hx0); have k0_0 := hx0.cell 0 (by simp); have k0_1 := hx0.cell 1 (by simp); have k0_2 := hx0.cell 2 (by simp); have fr0 := fun o => hx0.frozen o; (try simp only [List.getElem_toArray, List.getElem_cons_zero, List.getElem_cons_succ] at k0_0); (try simp only [List.getElem_toArray, List.getElem_cons_zero, List.getElem_cons_succ] at k0_1); (try simp only [List.getElem_toArray, List.getElem_cons_zero, List.getElem_cons_succ] at k0_2); skip; have HP0 := Lib.hid hx0; clear hx0; have HB1 := Lib.hid hb1; clear hb1)))
    go_ret
    refine ⟨?_, by repeat (first | ((with_reducible refine Below.setCell ?_ ?_ _); rotate_left; first | omega | (dsimp only; omega) | (simp; done) | (simp; omega)) | ((with_reducible refine below_setRow ?_ ?_ _); rotate_left; first | omega | (dsimp only; omega) | (simp; done) | (simp; omega)) | with_reducible exact Below.refl _ _ | with_reducible exact below_new _ | with_reducible exact below_drew | with_reducible exact HB9.out | with_reducible exact HB8.out | with_reducible exact HB7.out | with_reducible exact HB6.out | with_reducible exact HB5.out | with_reducible exact HB4.out | with_reducible exact HB3.out | with_reducible exact HB2.out | with_reducible exact HB1.out | (with_reducible apply below_comp; rotate_left; first | with_reducible exact HB9.out | with_reducible exact HB8.out | with_reducible exact HB7.out | with_reducible exact HB6.out | with_reducible exact HB5.out | with_reducible exact HB4.out | with_reducible exact HB3.out | with_reducible exact HB2.out | with_reducible exact HB1.out | with_reducible assumption | with_reducible exact below_new _ | with_reducible exact below_drew))⟩
    first | rfl | (simp; done) | (simp; omega)
  have HV : Hid (∀ W, Calls Try.prog 46 #[e.val] W fun r w' => r = .returned (.bool true) ∧ Below W.heap.size W w') := Lib.hid fun W => by have := spec_bucketok e W; rwa [decide_eq_true h] at this
  by_cases hn : 0 ≤ n ∧ n ≤ e.xBurst
  case neg =>
    rw [show e.wait n = -1 from if_neg (fun hh => hn hh.2)]
    by_cases hn0 : n < 0
    · clear h hn
      obtain ⟨ra, bu, to⟩ := e
      unfold BucketM.val at *
      dsimp only at *
      go_enter Try.func33, Try.ntmps33
      go_wp2_with (first | (go_at_call 46; (refine (HV.out _).mono ?_; rintro e w1 ⟨rfl, hb1⟩; have hz1 := hb1.size; (try simp at hz1); (have hl0 : w.heap.size < w1.heap.size := by omega); (apply with_box hb1 (g := w.heap.size)); (focus (repeat (first | (with_reducible exact HP0.out) | (with_reducible exact HP1.out) | (with_reducible exact HP2.out) | (with_reducible exact HP3.out) | (with_reducible exact HQ0.out) | (with_reducible exact HQ1.out) | (with_reducible exact HQ2.out) | (with_reducible exact HQ3.out) | (with_reducible apply Box.new) | (with_reducible apply Box.newAt; simp; done) | (with_reducible apply Box.set) | (with_reducible apply Box.skip; omega) | (with_reducible apply Box.alloc) | (with_reducible apply Box.drew) | (with_reducible apply Box.row) | (with_reducible apply Box.skipRow; omega)))); intro hx0; (try simp only [List.setIfInBounds_toArray, List.set_cons_zero, List.set_cons_succ] at hx0); have k0_0 := hx0.cell 0 (by simp); have k0_1 := hx0.cell 1 (by simp); have k0_2 := hx0.cell 2 (by simp); have fr0 := fun o => hx0.frozen o; (try simp only [List.getElem_toArray, List.getElem_cons_zero, List.getElem_cons_succ] at k0_0); (try simp only [List.getElem_toArray, List.getElem_cons_zero, List.getElem_cons_succ] at k0_1); (try simp only [List.getElem_toArray, List.getElem_cons_zero, List.getElem_cons_succ] at k0_2); skip; have HP0 := Lib.hid hx0; clear hx0; have HB1 := Lib.hid hb1; clear hb1)))
      go_ret
      refine ⟨?_, by repeat (first | ((with_reducible refine Below.setCell ?_ ?_ _); rotate_left; first | omega | (dsimp only; omega) | (simp; done) | (simp; omega)) | ((with_reducible refine below_setRow ?_ ?_ _); rotate_left; first | omega | (dsimp only; omega) | (simp; done) | (simp; omega)) | with_reducible exact Below.refl _ _ | with_reducible exact below_new _ | with_reducible exact below_drew | with_reducible exact HB9.out | with_reducible exact HB8.out | with_reducible exact HB7.out | with_reducible exact HB6.out | with_reducible exact HB5.out | with_reducible exact HB4.out | with_reducible exact HB3.out | with_reducible exact HB2.out | with_reducible exact HB1.out | (with_reducible apply below_comp; rotate_left; first | with_reducible exact HB9.out | with_reducible exact HB8.out | with_reducible exact HB7.out | with_reducible exact HB6.out | with_reducible exact HB5.out | with_reducible exact HB4.out | with_reducible exact HB3.out | with_reducible exact HB2.out | with_reducible exact HB1.out | with_reducible assumption | with_reducible exact below_new _ | with_reducible exact below_drew))⟩
      first | rfl | (simp; done) | (simp; omega)
    · have hn1 : e.xBurst < n := by omega
      clear h hn
      obtain ⟨ra, bu, to⟩ := e
      unfold BucketM.val at *
      dsimp only at *
      go_enter Try.func33, Try.ntmps33
      go_wp2_with (first | (go_at_call 46; (refine (HV.out _).mono ?_; rintro e w1 ⟨rfl, hb1⟩; have hz1 := hb1.size; (try simp at hz1); (have hl0 : w.heap.size < w1.heap.size := by omega); (apply with_box hb1 (g := w.heap.size)); (focus (repeat (first | (with_reducible exact HP0.out) | (with_reducible exact HP1.out) | (with_reducible exact HP2.out) | (with_reducible exact HP3.out) | (with_reducible exact HQ0.out) | (with_reducible exact HQ1.out) | (with_reducible exact HQ2.out) | (with_reducible exact HQ3.out) | (with_reducible apply Box.new) | (with_reducible apply Box.newAt; simp; done) | (with_reducible apply Box.set) | (with_reducible apply Box.skip; omega) | (with_reducible apply Box.alloc) | (with_reducible apply Box.drew) | (with_reducible apply Box.row) | (with_reducible apply Box.skipRow; omega)))); intro hx0; (try simp only [List.setIfInBounds_toArray, List.set_cons_zero, List.set_cons_succ] at hx0); have k0_0 := hx0.cell 0 (by simp); have k0_1 := hx0.cell 1 (by simp); have k0_2 := hx0.cell 2 (by simp); have fr0 := fun o => hx0.frozen o; (try simp only [List.getElem_toArray, List.getElem_cons_zero, List.getElem_cons_succ] at k0_0); (try simp only [List.getElem_toArray, List.getElem_cons_zero, List.getElem_cons_succ] at k0_1); (try simp only [List.getElem_toArray, List.getElem_cons_zero, List.getElem_cons_succ] at k0_2); skip; have HP0 := Lib.hid hx0; clear hx0; have HB1 := Lib.hid hb1; clear hb1)))
      go_ret
      refine ⟨?_, by repeat (first | ((with_reducible refine Below.setCell ?_ ?_ _); rotate_left; first | omega | (dsimp only; omega) | (simp; done) | (simp; omega)) | ((with_reducible refine below_setRow ?_ ?_ _); rotate_left; first | omega | (dsimp only; omega) | (simp; done) | (simp; omega)) | with_reducible exact Below.refl _ _ | with_reducible exact below_new _ | with_reducible exact below_drew | with_reducible exact HB9.out | with_reducible exact HB8.out | with_reducible exact HB7.out | with_reducible exact HB6.out | with_reducible exact HB5.out | with_reducible exact HB4.out | with_reducible exact HB3.out | with_reducible exact HB2.out | with_reducible exact HB1.out | (with_reducible apply below_comp; rotate_left; first | with_reducible exact HB9.out | with_reducible exact HB8.out | with_reducible exact HB7.out | with_reducible exact HB6.out | with_reducible exact HB5.out | with_reducible exact HB4.out | with_reducible exact HB3.out | with_reducible exact HB2.out | with_reducible exact HB1.out | with_reducible assumption | with_reducible exact below_new _ | with_reducible exact below_drew))⟩
      first | rfl | (simp; done) | (simp; omega)
  rw [show e.wait n = (if n ≤ e.xTokens then 0 else if e.xRate = 0 then -1 else (n - e.xTokens + e.xRate - 1) / e.xRate) from if_pos ⟨h, hn⟩]
  have hr1 : 0 ≤ e.xRate := h.1.1
  have hr2 : e.xRate ≤ 10000 := h.1.2
  have hb2 : e.xBurst ≤ 100000 := h.2.1.2
  have ht1 : 0 ≤ e.xTokens := h.2.2.1
  have ht2 : e.xTokens ≤ e.xBurst := h.2.2.2
  have hn1 := hn.1
  have hn2 := hn.2
  clear h hn
  by_cases hle : n ≤ e.xTokens
  case pos =>
    rw [if_pos hle]
    obtain ⟨ra, bu, to⟩ := e
    unfold BucketM.val at *
    dsimp only at *
    go_enter Try.func33, Try.ntmps33
    go_wp2_with (first | (go_at_call 46; (refine (HV.out _).mono ?_; rintro e w1 ⟨rfl, hb1⟩; have hz1 := hb1.size; (try simp at hz1); (have hl0 : w.heap.size < w1.heap.size := by omega); (apply with_box hb1 (g := w.heap.size)); (focus (repeat (first | (with_reducible exact HP0.out) | (with_reducible exact HP1.out) | (with_reducible exact HP2.out) | (with_reducible exact HP3.out) | (with_reducible exact HQ0.out) | (with_reducible exact HQ1.out) | (with_reducible exact HQ2.out) | (with_reducible exact HQ3.out) | (with_reducible apply Box.new) | (with_reducible apply Box.newAt; simp; done) | (with_reducible apply Box.set) | (with_reducible apply Box.skip; omega) | (with_reducible apply Box.alloc) | (with_reducible apply Box.drew) | (with_reducible apply Box.row) | (with_reducible apply Box.skipRow; omega)))); intro hx0; (try simp only [List.setIfInBounds_toArray, List.set_cons_zero, List.set_cons_succ] at hx0); have k0_0 := hx0.cell 0 (by simp); have k0_1 := hx0.cell 1 (by simp); have k0_2 := hx0.cell 2 (by simp); have fr0 := fun o => hx0.frozen o; (try simp only [List.getElem_toArray, List.getElem_cons_zero, List.getElem_cons_succ] at k0_0); (try simp only [List.getElem_toArray, List.getElem_cons_zero, List.getElem_cons_succ] at k0_1); (try simp only [List.getElem_toArray, List.getElem_cons_zero, List.getElem_cons_succ] at k0_2); skip; have HP0 := Lib.hid hx0; clear hx0; have HB1 := Lib.hid hb1; clear hb1)))
    go_ret
    refine ⟨?_, by repeat (first | ((with_reducible refine Below.setCell ?_ ?_ _); rotate_left; first | omega | (dsimp only; omega) | (simp; done) | (simp; omega)) | ((with_reducible refine below_setRow ?_ ?_ _); rotate_left; first | omega | (dsimp only; omega) | (simp; done) | (simp; omega)) | with_reducible exact Below.refl _ _ | with_reducible exact below_new _ | with_reducible exact below_drew | with_reducible exact HB9.out | with_reducible exact HB8.out | with_reducible exact HB7.out | with_reducible exact HB6.out | with_reducible exact HB5.out | with_reducible exact HB4.out | with_reducible exact HB3.out | with_reducible exact HB2.out | with_reducible exact HB1.out | (with_reducible apply below_comp; rotate_left; first | with_reducible exact HB9.out | with_reducible exact HB8.out | with_reducible exact HB7.out | with_reducible exact HB6.out | with_reducible exact HB5.out | with_reducible exact HB4.out | with_reducible exact HB3.out | with_reducible exact HB2.out | with_reducible exact HB1.out | with_reducible assumption | with_reducible exact below_new _ | with_reducible exact below_drew))⟩
    first | rfl | (simp; done) | (simp; omega)
  rw [if_neg hle]
  by_cases h0 : e.xRate = 0
  case pos =>
    rw [if_pos h0]
    obtain ⟨ra, bu, to⟩ := e
    unfold BucketM.val at *
    dsimp only at *
    subst h0
    go_enter Try.func33, Try.ntmps33
    go_wp2_with (first | (go_at_call 46; (refine (HV.out _).mono ?_; rintro e w1 ⟨rfl, hb1⟩; have hz1 := hb1.size; (try simp at hz1); (have hl0 : w.heap.size < w1.heap.size := by omega); (apply with_box hb1 (g := w.heap.size)); (focus (repeat (first | (with_reducible exact HP0.out) | (with_reducible exact HP1.out) | (with_reducible exact HP2.out) | (with_reducible exact HP3.out) | (with_reducible exact HQ0.out) | (with_reducible exact HQ1.out) | (with_reducible exact HQ2.out) | (with_reducible exact HQ3.out) | (with_reducible apply Box.new) | (with_reducible apply Box.newAt; simp; done) | (with_reducible apply Box.set) | (with_reducible apply Box.skip; omega) | (with_reducible apply Box.alloc) | (with_reducible apply Box.drew) | (with_reducible apply Box.row) | (with_reducible apply Box.skipRow; omega)))); intro hx0; (try simp only [List.setIfInBounds_toArray, List.set_cons_zero, List.set_cons_succ] at hx0); have k0_0 := hx0.cell 0 (by simp); have k0_1 := hx0.cell 1 (by simp); have k0_2 := hx0.cell 2 (by simp); have fr0 := fun o => hx0.frozen o; (try simp only [List.getElem_toArray, List.getElem_cons_zero, List.getElem_cons_succ] at k0_0); (try simp only [List.getElem_toArray, List.getElem_cons_zero, List.getElem_cons_succ] at k0_1); (try simp only [List.getElem_toArray, List.getElem_cons_zero, List.getElem_cons_succ] at k0_2); skip; have HP0 := Lib.hid hx0; clear hx0; have HB1 := Lib.hid hb1; clear hb1)))
    go_ret
    refine ⟨?_, by repeat (first | ((with_reducible refine Below.setCell ?_ ?_ _); rotate_left; first | omega | (dsimp only; omega) | (simp; done) | (simp; omega)) | ((with_reducible refine below_setRow ?_ ?_ _); rotate_left; first | omega | (dsimp only; omega) | (simp; done) | (simp; omega)) | with_reducible exact Below.refl _ _ | with_reducible exact below_new _ | with_reducible exact below_drew | with_reducible exact HB9.out | with_reducible exact HB8.out | with_reducible exact HB7.out | with_reducible exact HB6.out | with_reducible exact HB5.out | with_reducible exact HB4.out | with_reducible exact HB3.out | with_reducible exact HB2.out | with_reducible exact HB1.out | (with_reducible apply below_comp; rotate_left; first | with_reducible exact HB9.out | with_reducible exact HB8.out | with_reducible exact HB7.out | with_reducible exact HB6.out | with_reducible exact HB5.out | with_reducible exact HB4.out | with_reducible exact HB3.out | with_reducible exact HB2.out | with_reducible exact HB1.out | with_reducible assumption | with_reducible exact below_new _ | with_reducible exact below_drew))⟩
    first | rfl | (simp; done) | (simp; omega)
  rw [if_neg h0]
  have h1 : 0 < e.xRate := by omega
  have h2 : e.xTokens < n := by omega
  obtain ⟨ra, bu, to⟩ := e
  unfold BucketM.val at *
  dsimp only at *
  go_enter Try.func33, Try.ntmps33
  go_wp2_with (first | (go_at_call 46; (refine (HV.out _).mono ?_; rintro e w1 ⟨rfl, hb1⟩; have hz1 := hb1.size; (try simp at hz1); (have hl0 : w.heap.size < w1.heap.size := by omega); (apply with_box hb1 (g := w.heap.size)); (focus (repeat (first | (with_reducible exact HP0.out) | (with_reducible exact HP1.out) | (with_reducible exact HP2.out) | (with_reducible exact HP3.out) | (with_reducible exact HQ0.out) | (with_reducible exact HQ1.out) | (with_reducible exact HQ2.out) | (with_reducible exact HQ3.out) | (with_reducible apply Box.new) | (with_reducible apply Box.newAt; simp; done) | (with_reducible apply Box.set) | (with_reducible apply Box.skip; omega) | (with_reducible apply Box.alloc) | (with_reducible apply Box.drew) | (with_reducible apply Box.row) | (with_reducible apply Box.skipRow; omega)))); intro hx0; (try simp only [List.setIfInBounds_toArray, List.set_cons_zero, List.set_cons_succ] at hx0); have k0_0 := hx0.cell 0 (by simp); have k0_1 := hx0.cell 1 (by simp); have k0_2 := hx0.cell 2 (by simp); have fr0 := fun o => hx0.frozen o; (try simp only [List.getElem_toArray, List.getElem_cons_zero, List.getElem_cons_succ] at k0_0); (try simp only [List.getElem_toArray, List.getElem_cons_zero, List.getElem_cons_succ] at k0_1); (try simp only [List.getElem_toArray, List.getElem_cons_zero, List.getElem_cons_succ] at k0_2); skip; have HP0 := Lib.hid hx0; clear hx0; have HB1 := Lib.hid hb1; clear hb1)))
  go_ret
  refine ⟨?_, by repeat (first | ((with_reducible refine Below.setCell ?_ ?_ _); rotate_left; first | omega | (dsimp only; omega) | (simp; done) | (simp; omega)) | ((with_reducible refine below_setRow ?_ ?_ _); rotate_left; first | omega | (dsimp only; omega) | (simp; done) | (simp; omega)) | with_reducible exact Below.refl _ _ | with_reducible exact below_new _ | with_reducible exact below_drew | with_reducible exact HB9.out | with_reducible exact HB8.out | with_reducible exact HB7.out | with_reducible exact HB6.out | with_reducible exact HB5.out | with_reducible exact HB4.out | with_reducible exact HB3.out | with_reducible exact HB2.out | with_reducible exact HB1.out | (with_reducible apply below_comp; rotate_left; first | with_reducible exact HB9.out | with_reducible exact HB8.out | with_reducible exact HB7.out | with_reducible exact HB6.out | with_reducible exact HB5.out | with_reducible exact HB4.out | with_reducible exact HB3.out | with_reducible exact HB2.out | with_reducible exact HB1.out | with_reducible assumption | with_reducible exact below_new _ | with_reducible exact below_drew))⟩
  first | rfl | (simp; done) | (simp; omega)

set_option maxHeartbeats 4000000 in
set_option maxRecDepth 100000 in
theorem impl_refill (e : BucketM) (n : Int) (w : World) :
    Calls Try.prog 32 #[e.val, .int .i64 n] w fun r w' => r = .returned (e.refill n).val ∧ Below w.heap.size w w' := by
  by_cases h : e.Ok
  case neg =>
    rw [show e.refill n = e from if_neg (fun hh => h hh.1)]
    have HV : Hid (∀ W, Calls Try.prog 34 #[e.val] W fun r w' => r = .returned (.bool false) ∧ Below W.heap.size W w') := Lib.hid fun W => by have := impl_bucketok e W; rwa [decide_eq_false h] at this
    clear h
    obtain ⟨ra, bu, to⟩ := e
    unfold BucketM.val at *
    dsimp only at *
    go_enter Try.func32, Try.ntmps32
    go_wp2_with (first | (go_at_call 34; (refine (HV.out _).mono ?_; rintro e w1 ⟨rfl, hb1⟩; have hz1 := hb1.size; (try simp at hz1); (have hl0 : w.heap.size < w1.heap.size := by omega); (have hl1 : w.heap.size + 1 < w1.heap.size := by omega); (apply with_box hb1 (g := w.heap.size)); (focus (repeat (first | (with_reducible exact HP0.out) | (with_reducible exact HP1.out) | (with_reducible exact HP2.out) | (with_reducible exact HP3.out) | (with_reducible exact HQ0.out) | (with_reducible exact HQ1.out) | (with_reducible exact HQ2.out) | (with_reducible exact HQ3.out) | (with_reducible apply Box.new) | (with_reducible apply Box.newAt; simp; done) | (with_reducible apply Box.set) | (with_reducible apply Box.skip; omega) | (with_reducible apply Box.alloc) | (with_reducible apply Box.drew) | (with_reducible apply Box.row) | (with_reducible apply Box.skipRow; omega)))); intro hx0; (try simp only [List.setIfInBounds_toArray, List.set_cons_zero, List.set_cons_succ] at hx0); have k0_0 := hx0.cell 0 (by simp); have k0_1 := hx0.cell 1 (by simp); have k0_2 := hx0.cell 2 (by simp); have fr0 := fun o => hx0.frozen o; (try simp only [List.getElem_toArray, List.getElem_cons_zero, List.getElem_cons_succ] at k0_0); (try simp only [List.getElem_toArray, List.getElem_cons_zero, List.getElem_cons_succ] at k0_1); (try simp only [List.getElem_toArray, List.getElem_cons_zero, List.getElem_cons_succ] at k0_2); (apply with_box hb1 (g := w.heap.size + 1)); (focus (repeat (first | (with_reducible exact HP0.out) | (with_reducible exact HP1.out) | (with_reducible exact HP2.out) | (with_reducible exact HP3.out) | (with_reducible exact HQ0.out) | (with_reducible exact HQ1.out) | (with_reducible exact HQ2.out) | (with_reducible exact HQ3.out) | (with_reducible apply Box.new) | (with_reducible apply Box.newAt; simp; done) | (with_reducible apply Box.set) | (with_reducible apply Box.skip; omega) | (with_reducible apply Box.alloc) | (with_reducible apply Box.drew) | (with_reducible apply Box.row) | (with_reducible apply Box.skipRow; omega)))); intro hx1; (try simp only [List.setIfInBounds_toArray, List.set_cons_zero, List.set_cons_succ] at hx1); have k1_0 := hx1.cell 0 (by simp); have k1_1 := hx1.cell 1 (by simp); have k1_2 := hx1.cell 2 (by simp); have fr1 := fun o => hx1.frozen o; (try simp only [List.getElem_toArray, List.getElem_cons_zero, List.getElem_cons_succ] at k1_0); (try simp only [List.getElem_toArray, List.getElem_cons_zero, List.getElem_cons_succ] at k1_1); (try simp only [List.getElem_toArray, List.getElem_cons_zero, List.getElem_cons_succ] at k1_2); skip; have HP0 := Lib.hid hx0; clear hx0; have HP1 := Lib.hid hx1; clear hx1; have HB1 := Lib.hid hb1; clear hb1)))
    apply bodyPost_row (g := w.heap.size + 1) rfl rfl Try.underlying37 rfl
    focus (repeat (first | (with_reducible exact HP0.out) | (with_reducible exact HP1.out) | (with_reducible exact HP2.out) | (with_reducible exact HP3.out) | (with_reducible exact HQ0.out) | (with_reducible exact HQ1.out) | (with_reducible exact HQ2.out) | (with_reducible exact HQ3.out) | (with_reducible apply Box.new) | (with_reducible apply Box.newAt; simp; done) | (with_reducible apply Box.set) | (with_reducible apply Box.skip; omega) | (with_reducible apply Box.alloc) | (with_reducible apply Box.drew) | (with_reducible apply Box.row) | (with_reducible apply Box.skipRow; omega)))
    focus (kernel_rfl)
    focus (rfl)
    try simp only [List.setIfInBounds_toArray, List.set_cons_zero, List.set_cons_succ]
    refine ⟨?_, ?_⟩
    · first | rfl | trivial | (simp; done)
    · repeat (first | ((with_reducible refine Below.setCell ?_ ?_ _); rotate_left; first | omega | (dsimp only; omega) | (simp; done) | (simp; omega)) | ((with_reducible refine below_setRow ?_ ?_ _); rotate_left; first | omega | (dsimp only; omega) | (simp; done) | (simp; omega)) | with_reducible exact Below.refl _ _ | with_reducible exact below_new _ | with_reducible exact below_drew | with_reducible exact HB9.out | with_reducible exact HB8.out | with_reducible exact HB7.out | with_reducible exact HB6.out | with_reducible exact HB5.out | with_reducible exact HB4.out | with_reducible exact HB3.out | with_reducible exact HB2.out | with_reducible exact HB1.out | (with_reducible apply below_comp; rotate_left; first | with_reducible exact HB9.out | with_reducible exact HB8.out | with_reducible exact HB7.out | with_reducible exact HB6.out | with_reducible exact HB5.out | with_reducible exact HB4.out | with_reducible exact HB3.out | with_reducible exact HB2.out | with_reducible exact HB1.out | with_reducible assumption | with_reducible exact below_new _ | with_reducible exact below_drew))
  have HV : Hid (∀ W, Calls Try.prog 34 #[e.val] W fun r w' => r = .returned (.bool true) ∧ Below W.heap.size W w') := Lib.hid fun W => by have := impl_bucketok e W; rwa [decide_eq_true h] at this
  by_cases hn : 0 ≤ n ∧ n ≤ 1000000
  case neg =>
    rw [show e.refill n = e from if_neg (fun hh => hn hh.2)]
    have HI := Lib.hid fun W => impl_in_no n 0 1000000 W hn
    clear h hn
    obtain ⟨ra, bu, to⟩ := e
    unfold BucketM.val at *
    dsimp only at *
    go_enter Try.func32, Try.ntmps32
    go_wp2_with (first | (go_at_call 34; (refine (HV.out _).mono ?_; rintro e w1 ⟨rfl, hb1⟩; have hz1 := hb1.size; (try simp at hz1); (have hl0 : w.heap.size < w1.heap.size := by omega); (have hl1 : w.heap.size + 1 < w1.heap.size := by omega); (apply with_box hb1 (g := w.heap.size)); (focus (repeat (first | (with_reducible exact HP0.out) | (with_reducible exact HP1.out) | (with_reducible exact HP2.out) | (with_reducible exact HP3.out) | (with_reducible exact HQ0.out) | (with_reducible exact HQ1.out) | (with_reducible exact HQ2.out) | (with_reducible exact HQ3.out) | (with_reducible apply Box.new) | (with_reducible apply Box.newAt; simp; done) | (with_reducible apply Box.set) | (with_reducible apply Box.skip; omega) | (with_reducible apply Box.alloc) | (with_reducible apply Box.drew) | (with_reducible apply Box.row) | (with_reducible apply Box.skipRow; omega)))); intro hx0; (try simp only [List.setIfInBounds_toArray, List.set_cons_zero, List.set_cons_succ] at hx0); have k0_0 := hx0.cell 0 (by simp); have k0_1 := hx0.cell 1 (by simp); have k0_2 := hx0.cell 2 (by simp); have fr0 := fun o => hx0.frozen o; (try simp only [List.getElem_toArray, List.getElem_cons_zero, List.getElem_cons_succ] at k0_0); (try simp only [List.getElem_toArray, List.getElem_cons_zero, List.getElem_cons_succ] at k0_1); (try simp only [List.getElem_toArray, List.getElem_cons_zero, List.getElem_cons_succ] at k0_2); (apply with_box hb1 (g := w.heap.size + 1)); (focus (repeat (first | (with_reducible exact HP0.out) | (with_reducible exact HP1.out) | (with_reducible exact HP2.out) | (with_reducible exact HP3.out) | (with_reducible exact HQ0.out) | (with_reducible exact HQ1.out) | (with_reducible exact HQ2.out) | (with_reducible exact HQ3.out) | (with_reducible apply Box.new) | (with_reducible apply Box.newAt; simp; done) | (with_reducible apply Box.set) | (with_reducible apply Box.skip; omega) | (with_reducible apply Box.alloc) | (with_reducible apply Box.drew) | (with_reducible apply Box.row) | (with_reducible apply Box.skipRow; omega)))); intro hx1; (try simp only [List.setIfInBounds_toArray, List.set_cons_zero, List.set_cons_succ] at hx1); have k1_0 := hx1.cell 0 (by simp); have k1_1 := hx1.cell 1 (by simp); have k1_2 := hx1.cell 2 (by simp); have fr1 := fun o => hx1.frozen o; (try simp only [List.getElem_toArray, List.getElem_cons_zero, List.getElem_cons_succ] at k1_0); (try simp only [List.getElem_toArray, List.getElem_cons_zero, List.getElem_cons_succ] at k1_1); (try simp only [List.getElem_toArray, List.getElem_cons_zero, List.getElem_cons_succ] at k1_2); skip; have HP0 := Lib.hid hx0; clear hx0; have HP1 := Lib.hid hx1; clear hx1; have HB1 := Lib.hid hb1; clear hb1)) | (go_at_call 37; refine (HI.out _).mono ?_; rintro e w' ⟨rfl, rfl⟩))
    apply bodyPost_row (g := w.heap.size + 1) rfl rfl Try.underlying37 rfl
    focus (repeat (first | (with_reducible exact HP0.out) | (with_reducible exact HP1.out) | (with_reducible exact HP2.out) | (with_reducible exact HP3.out) | (with_reducible exact HQ0.out) | (with_reducible exact HQ1.out) | (with_reducible exact HQ2.out) | (with_reducible exact HQ3.out) | (with_reducible apply Box.new) | (with_reducible apply Box.newAt; simp; done) | (with_reducible apply Box.set) | (with_reducible apply Box.skip; omega) | (with_reducible apply Box.alloc) | (with_reducible apply Box.drew) | (with_reducible apply Box.row) | (with_reducible apply Box.skipRow; omega)))
    focus (kernel_rfl)
    focus (rfl)
    try simp only [List.setIfInBounds_toArray, List.set_cons_zero, List.set_cons_succ]
    refine ⟨?_, ?_⟩
    · first | rfl | trivial | (simp; done)
    · repeat (first | ((with_reducible refine Below.setCell ?_ ?_ _); rotate_left; first | omega | (dsimp only; omega) | (simp; done) | (simp; omega)) | ((with_reducible refine below_setRow ?_ ?_ _); rotate_left; first | omega | (dsimp only; omega) | (simp; done) | (simp; omega)) | with_reducible exact Below.refl _ _ | with_reducible exact below_new _ | with_reducible exact below_drew | with_reducible exact HB9.out | with_reducible exact HB8.out | with_reducible exact HB7.out | with_reducible exact HB6.out | with_reducible exact HB5.out | with_reducible exact HB4.out | with_reducible exact HB3.out | with_reducible exact HB2.out | with_reducible exact HB1.out | (with_reducible apply below_comp; rotate_left; first | with_reducible exact HB9.out | with_reducible exact HB8.out | with_reducible exact HB7.out | with_reducible exact HB6.out | with_reducible exact HB5.out | with_reducible exact HB4.out | with_reducible exact HB3.out | with_reducible exact HB2.out | with_reducible exact HB1.out | with_reducible assumption | with_reducible exact below_new _ | with_reducible exact below_drew))
  have HI := Lib.hid fun W => impl_in_yes n 0 1000000 W hn
  rw [show e.refill n = ⟨e.xRate, e.xBurst, min (e.xTokens + e.xRate * n) e.xBurst⟩ from if_pos ⟨h, hn⟩]
  have hP := mul_bd h.1.1 h.1.2 hn.1 hn.2
  obtain ⟨N, HN⟩ : ∃ N, Hid (min (e.xTokens + e.xRate * n) e.xBurst = N) := ⟨_, Lib.hid rfl⟩
  rw [HN.out]
  have hp1 : 0 ≤ e.xRate * n := hP.1
  have hp2 : e.xRate * n ≤ 10000000000 := hP.2
  have ht1 : 0 ≤ e.xTokens := h.2.2.1
  have ht2 : e.xTokens ≤ 100000 := Int.le_trans h.2.2.2 h.2.1.2
  clear h hn hP
  obtain ⟨ra, bu, to⟩ := e
  unfold BucketM.val at *
  dsimp only at *
  go_enter Try.func32, Try.ntmps32
  go_wp2_with (first | (go_at_call 34; (refine (HV.out _).mono ?_; rintro e w1 ⟨rfl, hb1⟩; have hz1 := hb1.size; (try simp at hz1); (have hl0 : w.heap.size < w1.heap.size := by omega); (have hl1 : w.heap.size + 1 < w1.heap.size := by omega); (apply with_box hb1 (g := w.heap.size)); (focus (repeat (first | (with_reducible exact HP0.out) | (with_reducible exact HP1.out) | (with_reducible exact HP2.out) | (with_reducible exact HP3.out) | (with_reducible exact HQ0.out) | (with_reducible exact HQ1.out) | (with_reducible exact HQ2.out) | (with_reducible exact HQ3.out) | (with_reducible apply Box.new) | (with_reducible apply Box.newAt; simp; done) | (with_reducible apply Box.set) | (with_reducible apply Box.skip; omega) | (with_reducible apply Box.alloc) | (with_reducible apply Box.drew) | (with_reducible apply Box.row) | (with_reducible apply Box.skipRow; omega)))); intro hx0; (try simp only [List.setIfInBounds_toArray, List.set_cons_zero, List.set_cons_succ] at hx0); have k0_0 := hx0.cell 0 (by simp); have k0_1 := hx0.cell 1 (by simp); have k0_2 := hx0.cell 2 (by simp); have fr0 := fun o => hx0.frozen o; (try simp only [List.getElem_toArray, List.getElem_cons_zero, List.getElem_cons_succ] at k0_0); (try simp only [List.getElem_toArray, List.getElem_cons_zero, List.getElem_cons_succ] at k0_1); (try simp only [List.getElem_toArray, List.getElem_cons_zero, List.getElem_cons_succ] at k0_2); (apply with_box hb1 (g := w.heap.size + 1)); (focus (repeat (first | (with_reducible exact HP0.out) | (with_reducible exact HP1.out) | (with_reducible exact HP2.out) | (with_reducible exact HP3.out) | (with_reducible exact HQ0.out) | (with_reducible exact HQ1.out) | (with_reducible exact HQ2.out) | (with_reducible exact HQ3.out) | (with_reducible apply Box.new) | (with_reducible apply Box.newAt; simp; done) | (with_reducible apply Box.set) | (with_reducible apply Box.skip; omega) | (with_reducible apply Box.alloc) | (with_reducible apply Box.drew) | (with_reducible apply Box.row) | (with_reducible apply Box.skipRow; omega)))); intro hx1; (try simp only [List.setIfInBounds_toArray, List.set_cons_zero, List.set_cons_succ] at hx1); have k1_0 := hx1.cell 0 (by simp); have k1_1 := hx1.cell 1 (by simp); have k1_2 := hx1.cell 2 (by simp); have fr1 := fun o => hx1.frozen o; (try simp only [List.getElem_toArray, List.getElem_cons_zero, List.getElem_cons_succ] at k1_0); (try simp only [List.getElem_toArray, List.getElem_cons_zero, List.getElem_cons_succ] at k1_1); (try simp only [List.getElem_toArray, List.getElem_cons_zero, List.getElem_cons_succ] at k1_2); skip; have HP0 := Lib.hid hx0; clear hx0; have HP1 := Lib.hid hx1; clear hx1; have HB1 := Lib.hid hb1; clear hb1)) | (go_at_call 37; refine (HI.out _).mono ?_; rintro e w' ⟨rfl, rfl⟩))
  all_goals
    apply bodyPost_row (g := w.heap.size + 1) rfl rfl Try.underlying37 rfl
    focus (repeat (first | (with_reducible exact HP0.out) | (with_reducible exact HP1.out) | (with_reducible exact HP2.out) | (with_reducible exact HP3.out) | (with_reducible exact HQ0.out) | (with_reducible exact HQ1.out) | (with_reducible exact HQ2.out) | (with_reducible exact HQ3.out) | (with_reducible apply Box.new) | (with_reducible apply Box.newAt; simp; done) | (with_reducible apply Box.set) | (with_reducible apply Box.skip; omega) | (with_reducible apply Box.alloc) | (with_reducible apply Box.drew) | (with_reducible apply Box.row) | (with_reducible apply Box.skipRow; omega)))
    focus (kernel_rfl)
    focus (rfl)
    try simp only [List.setIfInBounds_toArray, List.set_cons_zero, List.set_cons_succ]
    refine ⟨?_, ?_⟩
    · first | (have hN := HN.out; simp; omega) | rfl | trivial | (simp; done)
    · repeat (first | ((with_reducible refine Below.setCell ?_ ?_ _); rotate_left; first | omega | (dsimp only; omega) | (simp; done) | (simp; omega)) | ((with_reducible refine below_setRow ?_ ?_ _); rotate_left; first | omega | (dsimp only; omega) | (simp; done) | (simp; omega)) | with_reducible exact Below.refl _ _ | with_reducible exact below_new _ | with_reducible exact below_drew | with_reducible exact HB9.out | with_reducible exact HB8.out | with_reducible exact HB7.out | with_reducible exact HB6.out | with_reducible exact HB5.out | with_reducible exact HB4.out | with_reducible exact HB3.out | with_reducible exact HB2.out | with_reducible exact HB1.out | (with_reducible apply below_comp; rotate_left; first | with_reducible exact HB9.out | with_reducible exact HB8.out | with_reducible exact HB7.out | with_reducible exact HB6.out | with_reducible exact HB5.out | with_reducible exact HB4.out | with_reducible exact HB3.out | with_reducible exact HB2.out | with_reducible exact HB1.out | with_reducible assumption | with_reducible exact below_new _ | with_reducible exact below_drew))


set_option maxHeartbeats 4000000 in
set_option maxRecDepth 100000 in
theorem impl_spend (e : BucketM) (n : Int) (w : World) (hb : -9223372036854775808 ≤ n ∧ n ≤ 9223372036854775807) :
    Calls Try.prog 31 #[e.val, .int .i64 n] w fun r w' => r = .returned (.tuple #[(e.spend n).1.val, .bool (e.spend n).2]) ∧ Below w.heap.size w w' := by
  by_cases h : e.Ok
  case neg =>
    rw [show e.spend n = (e, false) from if_neg (fun hh => h hh.1)]
    have HV : Hid (∀ W, Calls Try.prog 34 #[e.val] W fun r w' => r = .returned (.bool false) ∧ Below W.heap.size W w') := Lib.hid fun W => by have := impl_bucketok e W; rwa [decide_eq_false h] at this
    clear h
    obtain ⟨ra, bu, to⟩ := e
    unfold BucketM.val at *
    dsimp only at *
    go_enter Try.func31, Try.ntmps31
    go_wp2_with (first | (go_at_call 34; (refine (HV.out _).mono ?_; rintro e w1 ⟨rfl, hb1⟩; have hz1 := hb1.size; (try simp at hz1); (have hl0 : w.heap.size < w1.heap.size := by omega); (have hl1 : w.heap.size + 1 < w1.heap.size := by omega); (apply with_box hb1 (g := w.heap.size)); (focus (repeat (first | (with_reducible exact HP0.out) | (with_reducible exact HP1.out) | (with_reducible exact HP2.out) | (with_reducible exact HP3.out) | (with_reducible exact HQ0.out) | (with_reducible exact HQ1.out) | (with_reducible exact HQ2.out) | (with_reducible exact HQ3.out) | (with_reducible apply Box.new) | (with_reducible apply Box.newAt; simp; done) | (with_reducible apply Box.set) | (with_reducible apply Box.skip; omega) | (with_reducible apply Box.alloc) | (with_reducible apply Box.drew) | (with_reducible apply Box.row) | (with_reducible apply Box.skipRow; omega)))); intro hx0; (try simp only [List.setIfInBounds_toArray, List.set_cons_zero, List.set_cons_succ] at hx0); have k0_0 := hx0.cell 0 (by simp); have k0_1 := hx0.cell 1 (by simp); have k0_2 := hx0.cell 2 (by simp); have fr0 := fun o => hx0.frozen o; (try simp only [List.getElem_toArray, List.getElem_cons_zero, List.getElem_cons_succ] at k0_0); (try simp only [List.getElem_toArray, List.getElem_cons_zero, List.getElem_cons_succ] at k0_1); (try simp only [List.getElem_toArray, List.getElem_cons_zero, List.getElem_cons_succ] at k0_2); (apply with_box hb1 (g := w.heap.size + 1)); (focus (repeat (first | (with_reducible exact HP0.out) | (with_reducible exact HP1.out) | (with_reducible exact HP2.out) | (with_reducible exact HP3.out) | (with_reducible exact HQ0.out) | (with_reducible exact HQ1.out) | (with_reducible exact HQ2.out) | (with_reducible exact HQ3.out) | (with_reducible apply Box.new) | (with_reducible apply Box.newAt; simp; done) | (with_reducible apply Box.set) | (with_reducible apply Box.skip; omega) | (with_reducible apply Box.alloc) | (with_reducible apply Box.drew) | (with_reducible apply Box.row) | (with_reducible apply Box.skipRow; omega)))); intro hx1; (try simp only [List.setIfInBounds_toArray, List.set_cons_zero, List.set_cons_succ] at hx1); have k1_0 := hx1.cell 0 (by simp); have k1_1 := hx1.cell 1 (by simp); have k1_2 := hx1.cell 2 (by simp); have fr1 := fun o => hx1.frozen o; (try simp only [List.getElem_toArray, List.getElem_cons_zero, List.getElem_cons_succ] at k1_0); (try simp only [List.getElem_toArray, List.getElem_cons_zero, List.getElem_cons_succ] at k1_1); (try simp only [List.getElem_toArray, List.getElem_cons_zero, List.getElem_cons_succ] at k1_2); skip; have HP0 := Lib.hid hx0; clear hx0; have HP1 := Lib.hid hx1; clear hx1; have HB1 := Lib.hid hb1; clear hb1)))
    apply bodyPost_row_tmp (g := w.heap.size + 1) rfl rfl rfl Try.underlying37 rfl
    focus (repeat (first | (with_reducible exact HP0.out) | (with_reducible exact HP1.out) | (with_reducible exact HP2.out) | (with_reducible exact HP3.out) | (with_reducible exact HQ0.out) | (with_reducible exact HQ1.out) | (with_reducible exact HQ2.out) | (with_reducible exact HQ3.out) | (with_reducible apply Box.new) | (with_reducible apply Box.newAt; simp; done) | (with_reducible apply Box.set) | (with_reducible apply Box.skip; omega) | (with_reducible apply Box.alloc) | (with_reducible apply Box.drew) | (with_reducible apply Box.row) | (with_reducible apply Box.skipRow; omega)))
    focus (kernel_rfl)
    focus (rfl)
    try simp only [List.setIfInBounds_toArray, List.set_cons_zero, List.set_cons_succ]
    refine ⟨?_, ?_⟩
    · first | rfl | trivial | (simp; done)
    · repeat (first | ((with_reducible refine Below.setCell ?_ ?_ _); rotate_left; first | omega | (dsimp only; omega) | (simp; done) | (simp; omega)) | ((with_reducible refine below_setRow ?_ ?_ _); rotate_left; first | omega | (dsimp only; omega) | (simp; done) | (simp; omega)) | with_reducible exact Below.refl _ _ | with_reducible exact below_new _ | with_reducible exact below_drew | with_reducible exact HB9.out | with_reducible exact HB8.out | with_reducible exact HB7.out | with_reducible exact HB6.out | with_reducible exact HB5.out | with_reducible exact HB4.out | with_reducible exact HB3.out | with_reducible exact HB2.out | with_reducible exact HB1.out | (with_reducible apply below_comp; rotate_left; first | with_reducible exact HB9.out | with_reducible exact HB8.out | with_reducible exact HB7.out | with_reducible exact HB6.out | with_reducible exact HB5.out | with_reducible exact HB4.out | with_reducible exact HB3.out | with_reducible exact HB2.out | with_reducible exact HB1.out | with_reducible assumption | with_reducible exact below_new _ | with_reducible exact below_drew))
  have HV : Hid (∀ W, Calls Try.prog 34 #[e.val] W fun r w' => r = .returned (.bool true) ∧ Below W.heap.size W w') := Lib.hid fun W => by have := impl_bucketok e W; rwa [decide_eq_true h] at this
  by_cases hn : 0 ≤ n ∧ n ≤ e.xTokens
  case neg =>
    rw [show e.spend n = (e, false) from if_neg (fun hh => hn hh.2)]
    have HI := Lib.hid fun W => impl_in_no n 0 e.xTokens W hn
    clear h hn
    obtain ⟨ra, bu, to⟩ := e
    unfold BucketM.val at *
    dsimp only at *
    go_enter Try.func31, Try.ntmps31
    go_wp2_with (first | (go_at_call 34; (refine (HV.out _).mono ?_; rintro e w1 ⟨rfl, hb1⟩; have hz1 := hb1.size; (try simp at hz1); (have hl0 : w.heap.size < w1.heap.size := by omega); (have hl1 : w.heap.size + 1 < w1.heap.size := by omega); (apply with_box hb1 (g := w.heap.size)); (focus (repeat (first | (with_reducible exact HP0.out) | (with_reducible exact HP1.out) | (with_reducible exact HP2.out) | (with_reducible exact HP3.out) | (with_reducible exact HQ0.out) | (with_reducible exact HQ1.out) | (with_reducible exact HQ2.out) | (with_reducible exact HQ3.out) | (with_reducible apply Box.new) | (with_reducible apply Box.newAt; simp; done) | (with_reducible apply Box.set) | (with_reducible apply Box.skip; omega) | (with_reducible apply Box.alloc) | (with_reducible apply Box.drew) | (with_reducible apply Box.row) | (with_reducible apply Box.skipRow; omega)))); intro hx0; (try simp only [List.setIfInBounds_toArray, List.set_cons_zero, List.set_cons_succ] at hx0); have k0_0 := hx0.cell 0 (by simp); have k0_1 := hx0.cell 1 (by simp); have k0_2 := hx0.cell 2 (by simp); have fr0 := fun o => hx0.frozen o; (try simp only [List.getElem_toArray, List.getElem_cons_zero, List.getElem_cons_succ] at k0_0); (try simp only [List.getElem_toArray, List.getElem_cons_zero, List.getElem_cons_succ] at k0_1); (try simp only [List.getElem_toArray, List.getElem_cons_zero, List.getElem_cons_succ] at k0_2); (apply with_box hb1 (g := w.heap.size + 1)); (focus (repeat (first | (with_reducible exact HP0.out) | (with_reducible exact HP1.out) | (with_reducible exact HP2.out) | (with_reducible exact HP3.out) | (with_reducible exact HQ0.out) | (with_reducible exact HQ1.out) | (with_reducible exact HQ2.out) | (with_reducible exact HQ3.out) | (with_reducible apply Box.new) | (with_reducible apply Box.newAt; simp; done) | (with_reducible apply Box.set) | (with_reducible apply Box.skip; omega) | (with_reducible apply Box.alloc) | (with_reducible apply Box.drew) | (with_reducible apply Box.row) | (with_reducible apply Box.skipRow; omega)))); intro hx1; (try simp only [List.setIfInBounds_toArray, List.set_cons_zero, List.set_cons_succ] at hx1); have k1_0 := hx1.cell 0 (by simp); have k1_1 := hx1.cell 1 (by simp); have k1_2 := hx1.cell 2 (by simp); have fr1 := fun o => hx1.frozen o; (try simp only [List.getElem_toArray, List.getElem_cons_zero, List.getElem_cons_succ] at k1_0); (try simp only [List.getElem_toArray, List.getElem_cons_zero, List.getElem_cons_succ] at k1_1); (try simp only [List.getElem_toArray, List.getElem_cons_zero, List.getElem_cons_succ] at k1_2); skip; have HP0 := Lib.hid hx0; clear hx0; have HP1 := Lib.hid hx1; clear hx1; have HB1 := Lib.hid hb1; clear hb1)) | (go_at_call 37; refine (HI.out _).mono ?_; rintro e w' ⟨rfl, rfl⟩))
    apply bodyPost_row_tmp (g := w.heap.size + 1) rfl rfl rfl Try.underlying37 rfl
    focus (repeat (first | (with_reducible exact HP0.out) | (with_reducible exact HP1.out) | (with_reducible exact HP2.out) | (with_reducible exact HP3.out) | (with_reducible exact HQ0.out) | (with_reducible exact HQ1.out) | (with_reducible exact HQ2.out) | (with_reducible exact HQ3.out) | (with_reducible apply Box.new) | (with_reducible apply Box.newAt; simp; done) | (with_reducible apply Box.set) | (with_reducible apply Box.skip; omega) | (with_reducible apply Box.alloc) | (with_reducible apply Box.drew) | (with_reducible apply Box.row) | (with_reducible apply Box.skipRow; omega)))
    focus (kernel_rfl)
    focus (rfl)
    try simp only [List.setIfInBounds_toArray, List.set_cons_zero, List.set_cons_succ]
    refine ⟨?_, ?_⟩
    · first | rfl | trivial | (simp; done)
    · repeat (first | ((with_reducible refine Below.setCell ?_ ?_ _); rotate_left; first | omega | (dsimp only; omega) | (simp; done) | (simp; omega)) | ((with_reducible refine below_setRow ?_ ?_ _); rotate_left; first | omega | (dsimp only; omega) | (simp; done) | (simp; omega)) | with_reducible exact Below.refl _ _ | with_reducible exact below_new _ | with_reducible exact below_drew | with_reducible exact HB9.out | with_reducible exact HB8.out | with_reducible exact HB7.out | with_reducible exact HB6.out | with_reducible exact HB5.out | with_reducible exact HB4.out | with_reducible exact HB3.out | with_reducible exact HB2.out | with_reducible exact HB1.out | (with_reducible apply below_comp; rotate_left; first | with_reducible exact HB9.out | with_reducible exact HB8.out | with_reducible exact HB7.out | with_reducible exact HB6.out | with_reducible exact HB5.out | with_reducible exact HB4.out | with_reducible exact HB3.out | with_reducible exact HB2.out | with_reducible exact HB1.out | with_reducible assumption | with_reducible exact below_new _ | with_reducible exact below_drew))
  have HI := Lib.hid fun W => impl_in_yes n 0 e.xTokens W hn
  rw [show e.spend n = (⟨e.xRate, e.xBurst, e.xTokens - n⟩, true) from if_pos ⟨h, hn⟩]
  have ht1 : 0 ≤ e.xTokens := h.2.2.1
  have ht2 : e.xTokens ≤ 100000 := Int.le_trans h.2.2.2 h.2.1.2
  have hn1 := hn.1
  have hn2 := hn.2
  clear h hn hb
  obtain ⟨ra, bu, to⟩ := e
  unfold BucketM.val at *
  dsimp only at *
  go_enter Try.func31, Try.ntmps31
  go_wp2_with (first | (go_at_call 34; (refine (HV.out _).mono ?_; rintro e w1 ⟨rfl, hb1⟩; have hz1 := hb1.size; (try simp at hz1); (have hl0 : w.heap.size < w1.heap.size := by omega); (have hl1 : w.heap.size + 1 < w1.heap.size := by omega); (apply with_box hb1 (g := w.heap.size)); (focus (repeat (first | (with_reducible exact HP0.out) | (with_reducible exact HP1.out) | (with_reducible exact HP2.out) | (with_reducible exact HP3.out) | (with_reducible exact HQ0.out) | (with_reducible exact HQ1.out) | (with_reducible exact HQ2.out) | (with_reducible exact HQ3.out) | (with_reducible apply Box.new) | (with_reducible apply Box.newAt; simp; done) | (with_reducible apply Box.set) | (with_reducible apply Box.skip; omega) | (with_reducible apply Box.alloc) | (with_reducible apply Box.drew) | (with_reducible apply Box.row) | (with_reducible apply Box.skipRow; omega)))); intro hx0; (try simp only [List.setIfInBounds_toArray, List.set_cons_zero, List.set_cons_succ] at hx0); have k0_0 := hx0.cell 0 (by simp); have k0_1 := hx0.cell 1 (by simp); have k0_2 := hx0.cell 2 (by simp); have fr0 := fun o => hx0.frozen o; (try simp only [List.getElem_toArray, List.getElem_cons_zero, List.getElem_cons_succ] at k0_0); (try simp only [List.getElem_toArray, List.getElem_cons_zero, List.getElem_cons_succ] at k0_1); (try simp only [List.getElem_toArray, List.getElem_cons_zero, List.getElem_cons_succ] at k0_2); (apply with_box hb1 (g := w.heap.size + 1)); (focus (repeat (first | (with_reducible exact HP0.out) | (with_reducible exact HP1.out) | (with_reducible exact HP2.out) | (with_reducible exact HP3.out) | (with_reducible exact HQ0.out) | (with_reducible exact HQ1.out) | (with_reducible exact HQ2.out) | (with_reducible exact HQ3.out) | (with_reducible apply Box.new) | (with_reducible apply Box.newAt; simp; done) | (with_reducible apply Box.set) | (with_reducible apply Box.skip; omega) | (with_reducible apply Box.alloc) | (with_reducible apply Box.drew) | (with_reducible apply Box.row) | (with_reducible apply Box.skipRow; omega)))); intro hx1; (try simp only [List.setIfInBounds_toArray, List.set_cons_zero, List.set_cons_succ] at hx1); have k1_0 := hx1.cell 0 (by simp); have k1_1 := hx1.cell 1 (by simp); have k1_2 := hx1.cell 2 (by simp); have fr1 := fun o => hx1.frozen o; (try simp only [List.getElem_toArray, List.getElem_cons_zero, List.getElem_cons_succ] at k1_0); (try simp only [List.getElem_toArray, List.getElem_cons_zero, List.getElem_cons_succ] at k1_1); (try simp only [List.getElem_toArray, List.getElem_cons_zero, List.getElem_cons_succ] at k1_2); skip; have HP0 := Lib.hid hx0; clear hx0; have HP1 := Lib.hid hx1; clear hx1; have HB1 := Lib.hid hb1; clear hb1)) | (go_at_call 37; refine (HI.out _).mono ?_; rintro e w' ⟨rfl, rfl⟩))
  apply bodyPost_row_tmp (g := w.heap.size + 1) rfl rfl rfl Try.underlying37 rfl
  focus (repeat (first | (with_reducible exact HP0.out) | (with_reducible exact HP1.out) | (with_reducible exact HP2.out) | (with_reducible exact HP3.out) | (with_reducible exact HQ0.out) | (with_reducible exact HQ1.out) | (with_reducible exact HQ2.out) | (with_reducible exact HQ3.out) | (with_reducible apply Box.new) | (with_reducible apply Box.newAt; simp; done) | (with_reducible apply Box.set) | (with_reducible apply Box.skip; omega) | (with_reducible apply Box.alloc) | (with_reducible apply Box.drew) | (with_reducible apply Box.row) | (with_reducible apply Box.skipRow; omega)))
  focus (kernel_rfl)
  focus (rfl)
  try simp only [List.setIfInBounds_toArray, List.set_cons_zero, List.set_cons_succ]
  refine ⟨?_, ?_⟩
  · first | rfl | trivial | (simp; done)
  · repeat (first | ((with_reducible refine Below.setCell ?_ ?_ _); rotate_left; first | omega | (dsimp only; omega) | (simp; done) | (simp; omega)) | ((with_reducible refine below_setRow ?_ ?_ _); rotate_left; first | omega | (dsimp only; omega) | (simp; done) | (simp; omega)) | with_reducible exact Below.refl _ _ | with_reducible exact below_new _ | with_reducible exact below_drew | with_reducible exact HB9.out | with_reducible exact HB8.out | with_reducible exact HB7.out | with_reducible exact HB6.out | with_reducible exact HB5.out | with_reducible exact HB4.out | with_reducible exact HB3.out | with_reducible exact HB2.out | with_reducible exact HB1.out | (with_reducible apply below_comp; rotate_left; first | with_reducible exact HB9.out | with_reducible exact HB8.out | with_reducible exact HB7.out | with_reducible exact HB6.out | with_reducible exact HB5.out | with_reducible exact HB4.out | with_reducible exact HB3.out | with_reducible exact HB2.out | with_reducible exact HB1.out | with_reducible assumption | with_reducible exact below_new _ | with_reducible exact below_drew))


set_option maxHeartbeats 4000000 in
set_option maxRecDepth 100000 in
theorem impl_wait (e : BucketM) (n : Int) (w : World) :
    Calls Try.prog 30 #[e.val, .int .i64 n] w fun r w' => r = .returned (.int .i64 (e.wait n)) ∧ Below w.heap.size w w' := by
  by_cases h : e.Ok
  case neg =>
    rw [show e.wait n = -1 from if_neg (fun hh => h hh.1)]
    have HV : Hid (∀ W, Calls Try.prog 34 #[e.val] W fun r w' => r = .returned (.bool false) ∧ Below W.heap.size W w') := Lib.hid fun W => by have := impl_bucketok e W; rwa [decide_eq_false h] at this
    clear h
    obtain ⟨ra, bu, to⟩ := e
    unfold BucketM.val at *
    dsimp only at *
    go_enter Try.func30, Try.ntmps30
    go_wp2_with (first | (go_at_call 34; (refine (HV.out _).mono ?_; rintro e w1 ⟨rfl, hb1⟩; have hz1 := hb1.size; (try simp at hz1); (have hl0 : w.heap.size < w1.heap.size := by omega); (apply with_box hb1 (g := w.heap.size)); (focus (repeat (first | (with_reducible exact HP0.out) | (with_reducible exact HP1.out) | (with_reducible exact HP2.out) | (with_reducible exact HP3.out) | (with_reducible exact HQ0.out) | (with_reducible exact HQ1.out) | (with_reducible exact HQ2.out) | (with_reducible exact HQ3.out) | (with_reducible apply Box.new) | (with_reducible apply Box.newAt; simp; done) | (with_reducible apply Box.set) | (with_reducible apply Box.skip; omega) | (with_reducible apply Box.alloc) | (with_reducible apply Box.drew) | (with_reducible apply Box.row) | (with_reducible apply Box.skipRow; omega)))); intro hx0; (try simp only [List.setIfInBounds_toArray, List.set_cons_zero, List.set_cons_succ] at hx0); have k0_0 := hx0.cell 0 (by simp); have k0_1 := hx0.cell 1 (by simp); have k0_2 := hx0.cell 2 (by simp); have fr0 := fun o => hx0.frozen o; (try simp only [List.getElem_toArray, List.getElem_cons_zero, List.getElem_cons_succ] at k0_0); (try simp only [List.getElem_toArray, List.getElem_cons_zero, List.getElem_cons_succ] at k0_1); (try simp only [List.getElem_toArray, List.getElem_cons_zero, List.getElem_cons_succ] at k0_2); skip; have HP0 := Lib.hid hx0; clear hx0; have HB1 := Lib.hid hb1; clear hb1)))
    go_ret
    refine ⟨?_, by repeat (first | ((with_reducible refine Below.setCell ?_ ?_ _); rotate_left; first | omega | (dsimp only; omega) | (simp; done) | (simp; omega)) | ((with_reducible refine below_setRow ?_ ?_ _); rotate_left; first | omega | (dsimp only; omega) | (simp; done) | (simp; omega)) | with_reducible exact Below.refl _ _ | with_reducible exact below_new _ | with_reducible exact below_drew | with_reducible exact HB9.out | with_reducible exact HB8.out | with_reducible exact HB7.out | with_reducible exact HB6.out | with_reducible exact HB5.out | with_reducible exact HB4.out | with_reducible exact HB3.out | with_reducible exact HB2.out | with_reducible exact HB1.out | (with_reducible apply below_comp; rotate_left; first | with_reducible exact HB9.out | with_reducible exact HB8.out | with_reducible exact HB7.out | with_reducible exact HB6.out | with_reducible exact HB5.out | with_reducible exact HB4.out | with_reducible exact HB3.out | with_reducible exact HB2.out | with_reducible exact HB1.out | with_reducible assumption | with_reducible exact below_new _ | with_reducible exact below_drew))⟩
    first | rfl | (simp; done) | (simp; omega)
  have HV : Hid (∀ W, Calls Try.prog 34 #[e.val] W fun r w' => r = .returned (.bool true) ∧ Below W.heap.size W w') := Lib.hid fun W => by have := impl_bucketok e W; rwa [decide_eq_true h] at this
  by_cases hn : 0 ≤ n ∧ n ≤ e.xBurst
  case neg =>
    rw [show e.wait n = -1 from if_neg (fun hh => hn hh.2)]
    have HI := Lib.hid fun W => impl_in_no n 0 e.xBurst W hn
    clear h hn
    obtain ⟨ra, bu, to⟩ := e
    unfold BucketM.val at *
    dsimp only at *
    go_enter Try.func30, Try.ntmps30
    go_wp2_with (first | (go_at_call 34; (refine (HV.out _).mono ?_; rintro e w1 ⟨rfl, hb1⟩; have hz1 := hb1.size; (try simp at hz1); (have hl0 : w.heap.size < w1.heap.size := by omega); (apply with_box hb1 (g := w.heap.size)); (focus (repeat (first | (with_reducible exact HP0.out) | (with_reducible exact HP1.out) | (with_reducible exact HP2.out) | (with_reducible exact HP3.out) | (with_reducible exact HQ0.out) | (with_reducible exact HQ1.out) | (with_reducible exact HQ2.out) | (with_reducible exact HQ3.out) | (with_reducible apply Box.new) | (with_reducible apply Box.newAt; simp; done) | (with_reducible apply Box.set) | (with_reducible apply Box.skip; omega) | (with_reducible apply Box.alloc) | (with_reducible apply Box.drew) | (with_reducible apply Box.row) | (with_reducible apply Box.skipRow; omega)))); intro hx0; (try simp only [List.setIfInBounds_toArray, List.set_cons_zero, List.set_cons_succ] at hx0); have k0_0 := hx0.cell 0 (by simp); have k0_1 := hx0.cell 1 (by simp); have k0_2 := hx0.cell 2 (by simp); have fr0 := fun o => hx0.frozen o; (try simp only [List.getElem_toArray, List.getElem_cons_zero, List.getElem_cons_succ] at k0_0); (try simp only [List.getElem_toArray, List.getElem_cons_zero, List.getElem_cons_succ] at k0_1); (try simp only [List.getElem_toArray, List.getElem_cons_zero, List.getElem_cons_succ] at k0_2); skip; have HP0 := Lib.hid hx0; clear hx0; have HB1 := Lib.hid hb1; clear hb1)) | (go_at_call 37; refine (HI.out _).mono ?_; rintro e w' ⟨rfl, rfl⟩))
    go_ret
    refine ⟨?_, by repeat (first | ((with_reducible refine Below.setCell ?_ ?_ _); rotate_left; first | omega | (dsimp only; omega) | (simp; done) | (simp; omega)) | ((with_reducible refine below_setRow ?_ ?_ _); rotate_left; first | omega | (dsimp only; omega) | (simp; done) | (simp; omega)) | with_reducible exact Below.refl _ _ | with_reducible exact below_new _ | with_reducible exact below_drew | with_reducible exact HB9.out | with_reducible exact HB8.out | with_reducible exact HB7.out | with_reducible exact HB6.out | with_reducible exact HB5.out | with_reducible exact HB4.out | with_reducible exact HB3.out | with_reducible exact HB2.out | with_reducible exact HB1.out | (with_reducible apply below_comp; rotate_left; first | with_reducible exact HB9.out | with_reducible exact HB8.out | with_reducible exact HB7.out | with_reducible exact HB6.out | with_reducible exact HB5.out | with_reducible exact HB4.out | with_reducible exact HB3.out | with_reducible exact HB2.out | with_reducible exact HB1.out | with_reducible assumption | with_reducible exact below_new _ | with_reducible exact below_drew))⟩
    first | rfl | (simp; done) | (simp; omega)
  have HI := Lib.hid fun W => impl_in_yes n 0 e.xBurst W hn
  rw [show e.wait n = (if n ≤ e.xTokens then 0 else if e.xRate = 0 then -1 else (n - e.xTokens + e.xRate - 1) / e.xRate) from if_pos ⟨h, hn⟩]
  have hr1 : 0 ≤ e.xRate := h.1.1
  have hr2 : e.xRate ≤ 10000 := h.1.2
  have hb2 : e.xBurst ≤ 100000 := h.2.1.2
  have ht1 : 0 ≤ e.xTokens := h.2.2.1
  have ht2 : e.xTokens ≤ e.xBurst := h.2.2.2
  have hn1 := hn.1
  have hn2 := hn.2
  clear h hn
  by_cases hle : n ≤ e.xTokens
  case pos =>
    rw [if_pos hle]
    obtain ⟨ra, bu, to⟩ := e
    unfold BucketM.val at *
    dsimp only at *
    go_enter Try.func30, Try.ntmps30
    go_wp2_with (first | (go_at_call 34; (refine (HV.out _).mono ?_; rintro e w1 ⟨rfl, hb1⟩; have hz1 := hb1.size; (try simp at hz1); (have hl0 : w.heap.size < w1.heap.size := by omega); (apply with_box hb1 (g := w.heap.size)); (focus (repeat (first | (with_reducible exact HP0.out) | (with_reducible exact HP1.out) | (with_reducible exact HP2.out) | (with_reducible exact HP3.out) | (with_reducible exact HQ0.out) | (with_reducible exact HQ1.out) | (with_reducible exact HQ2.out) | (with_reducible exact HQ3.out) | (with_reducible apply Box.new) | (with_reducible apply Box.newAt; simp; done) | (with_reducible apply Box.set) | (with_reducible apply Box.skip; omega) | (with_reducible apply Box.alloc) | (with_reducible apply Box.drew) | (with_reducible apply Box.row) | (with_reducible apply Box.skipRow; omega)))); intro hx0; (try simp only [List.setIfInBounds_toArray, List.set_cons_zero, List.set_cons_succ] at hx0); have k0_0 := hx0.cell 0 (by simp); have k0_1 := hx0.cell 1 (by simp); have k0_2 := hx0.cell 2 (by simp); have fr0 := fun o => hx0.frozen o; (try simp only [List.getElem_toArray, List.getElem_cons_zero, List.getElem_cons_succ] at k0_0); (try simp only [List.getElem_toArray, List.getElem_cons_zero, List.getElem_cons_succ] at k0_1); (try simp only [List.getElem_toArray, List.getElem_cons_zero, List.getElem_cons_succ] at k0_2); skip; have HP0 := Lib.hid hx0; clear hx0; have HB1 := Lib.hid hb1; clear hb1)) | (go_at_call 37; refine (HI.out _).mono ?_; rintro e w' ⟨rfl, rfl⟩))
    go_ret
    refine ⟨?_, by repeat (first | ((with_reducible refine Below.setCell ?_ ?_ _); rotate_left; first | omega | (dsimp only; omega) | (simp; done) | (simp; omega)) | ((with_reducible refine below_setRow ?_ ?_ _); rotate_left; first | omega | (dsimp only; omega) | (simp; done) | (simp; omega)) | with_reducible exact Below.refl _ _ | with_reducible exact below_new _ | with_reducible exact below_drew | with_reducible exact HB9.out | with_reducible exact HB8.out | with_reducible exact HB7.out | with_reducible exact HB6.out | with_reducible exact HB5.out | with_reducible exact HB4.out | with_reducible exact HB3.out | with_reducible exact HB2.out | with_reducible exact HB1.out | (with_reducible apply below_comp; rotate_left; first | with_reducible exact HB9.out | with_reducible exact HB8.out | with_reducible exact HB7.out | with_reducible exact HB6.out | with_reducible exact HB5.out | with_reducible exact HB4.out | with_reducible exact HB3.out | with_reducible exact HB2.out | with_reducible exact HB1.out | with_reducible assumption | with_reducible exact below_new _ | with_reducible exact below_drew))⟩
    first | rfl | (simp; done) | (simp; omega)
  rw [if_neg hle]
  by_cases h0 : e.xRate = 0
  case pos =>
    rw [if_pos h0]
    obtain ⟨ra, bu, to⟩ := e
    unfold BucketM.val at *
    dsimp only at *
    subst h0
    go_enter Try.func30, Try.ntmps30
    go_wp2_with (first | (go_at_call 34; (refine (HV.out _).mono ?_; rintro e w1 ⟨rfl, hb1⟩; have hz1 := hb1.size; (try simp at hz1); (have hl0 : w.heap.size < w1.heap.size := by omega); (apply with_box hb1 (g := w.heap.size)); (focus (repeat (first | (with_reducible exact HP0.out) | (with_reducible exact HP1.out) | (with_reducible exact HP2.out) | (with_reducible exact HP3.out) | (with_reducible exact HQ0.out) | (with_reducible exact HQ1.out) | (with_reducible exact HQ2.out) | (with_reducible exact HQ3.out) | (with_reducible apply Box.new) | (with_reducible apply Box.newAt; simp; done) | (with_reducible apply Box.set) | (with_reducible apply Box.skip; omega) | (with_reducible apply Box.alloc) | (with_reducible apply Box.drew) | (with_reducible apply Box.row) | (with_reducible apply Box.skipRow; omega)))); intro hx0; (try simp only [List.setIfInBounds_toArray, List.set_cons_zero, List.set_cons_succ] at hx0); have k0_0 := hx0.cell 0 (by simp); have k0_1 := hx0.cell 1 (by simp); have k0_2 := hx0.cell 2 (by simp); have fr0 := fun o => hx0.frozen o; (try simp only [List.getElem_toArray, List.getElem_cons_zero, List.getElem_cons_succ] at k0_0); (try simp only [List.getElem_toArray, List.getElem_cons_zero, List.getElem_cons_succ] at k0_1); (try simp only [List.getElem_toArray, List.getElem_cons_zero, List.getElem_cons_succ] at k0_2); skip; have HP0 := Lib.hid hx0; clear hx0; have HB1 := Lib.hid hb1; clear hb1)) | (go_at_call 37; refine (HI.out _).mono ?_; rintro e w' ⟨rfl, rfl⟩))
    go_ret
    refine ⟨?_, by repeat (first | ((with_reducible refine Below.setCell ?_ ?_ _); rotate_left; first | omega | (dsimp only; omega) | (simp; done) | (simp; omega)) | ((with_reducible refine below_setRow ?_ ?_ _); rotate_left; first | omega | (dsimp only; omega) | (simp; done) | (simp; omega)) | with_reducible exact Below.refl _ _ | with_reducible exact below_new _ | with_reducible exact below_drew | with_reducible exact HB9.out | with_reducible exact HB8.out | with_reducible exact HB7.out | with_reducible exact HB6.out | with_reducible exact HB5.out | with_reducible exact HB4.out | with_reducible exact HB3.out | with_reducible exact HB2.out | with_reducible exact HB1.out | (with_reducible apply below_comp; rotate_left; first | with_reducible exact HB9.out | with_reducible exact HB8.out | with_reducible exact HB7.out | with_reducible exact HB6.out | with_reducible exact HB5.out | with_reducible exact HB4.out | with_reducible exact HB3.out | with_reducible exact HB2.out | with_reducible exact HB1.out | with_reducible assumption | with_reducible exact below_new _ | with_reducible exact below_drew))⟩
    first | rfl | (simp; done) | (simp; omega)
  rw [if_neg h0]
  have h1 : 0 < e.xRate := by omega
  have h2 : e.xTokens < n := by omega
  obtain ⟨ra, bu, to⟩ := e
  unfold BucketM.val at *
  dsimp only at *
  go_enter Try.func30, Try.ntmps30
  go_wp2_with (first | (go_at_call 34; (refine (HV.out _).mono ?_; rintro e w1 ⟨rfl, hb1⟩; have hz1 := hb1.size; (try simp at hz1); (have hl0 : w.heap.size < w1.heap.size := by omega); (apply with_box hb1 (g := w.heap.size)); (focus (repeat (first | (with_reducible exact HP0.out) | (with_reducible exact HP1.out) | (with_reducible exact HP2.out) | (with_reducible exact HP3.out) | (with_reducible exact HQ0.out) | (with_reducible exact HQ1.out) | (with_reducible exact HQ2.out) | (with_reducible exact HQ3.out) | (with_reducible apply Box.new) | (with_reducible apply Box.newAt; simp; done) | (with_reducible apply Box.set) | (with_reducible apply Box.skip; omega) | (with_reducible apply Box.alloc) | (with_reducible apply Box.drew) | (with_reducible apply Box.row) | (with_reducible apply Box.skipRow; omega)))); intro hx0; (try simp only [List.setIfInBounds_toArray, List.set_cons_zero, List.set_cons_succ] at hx0); have k0_0 := hx0.cell 0 (by simp); have k0_1 := hx0.cell 1 (by simp); have k0_2 := hx0.cell 2 (by simp); have fr0 := fun o => hx0.frozen o; (try simp only [List.getElem_toArray, List.getElem_cons_zero, List.getElem_cons_succ] at k0_0); (try simp only [List.getElem_toArray, List.getElem_cons_zero, List.getElem_cons_succ] at k0_1); (try simp only [List.getElem_toArray, List.getElem_cons_zero, List.getElem_cons_succ] at k0_2); skip; have HP0 := Lib.hid hx0; clear hx0; have HB1 := Lib.hid hb1; clear hb1)) | (go_at_call 37; refine (HI.out _).mono ?_; rintro e w' ⟨rfl, rfl⟩))
  go_ret
  refine ⟨?_, by repeat (first | ((with_reducible refine Below.setCell ?_ ?_ _); rotate_left; first | omega | (dsimp only; omega) | (simp; done) | (simp; omega)) | ((with_reducible refine below_setRow ?_ ?_ _); rotate_left; first | omega | (dsimp only; omega) | (simp; done) | (simp; omega)) | with_reducible exact Below.refl _ _ | with_reducible exact below_new _ | with_reducible exact below_drew | with_reducible exact HB9.out | with_reducible exact HB8.out | with_reducible exact HB7.out | with_reducible exact HB6.out | with_reducible exact HB5.out | with_reducible exact HB4.out | with_reducible exact HB3.out | with_reducible exact HB2.out | with_reducible exact HB1.out | (with_reducible apply below_comp; rotate_left; first | with_reducible exact HB9.out | with_reducible exact HB8.out | with_reducible exact HB7.out | with_reducible exact HB6.out | with_reducible exact HB5.out | with_reducible exact HB4.out | with_reducible exact HB3.out | with_reducible exact HB2.out | with_reducible exact HB1.out | with_reducible assumption | with_reducible exact below_new _ | with_reducible exact below_drew))⟩
  first | rfl | (simp; done) | (simp; omega)

end Go.Proofs.Ytdcjbojigmgcgab
