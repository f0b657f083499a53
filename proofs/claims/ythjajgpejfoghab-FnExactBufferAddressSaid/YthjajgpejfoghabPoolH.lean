/- The laws' own help for Pool: to, sz, eq. -/
import Derived.Test.YthjajgpejfoghabToInts
import Derived.Test.YthjajgpejfoghabIntRow
namespace Go.Proofs.Ythjajgpejfoghab
open Go.RowKit
set_option linter.unusedSimpArgs false
set_option linter.unusedVariables false

def PoolPost (ba : Int) (si : Int) (co : Int) (w : World) (n : Nat) (f : Nat → Int) (e : Ending) (w' : World) : Prop := ∃ v, e = .returned (.agg #[.int .i64 ba, .int .i64 si, .int .i64 co, v]) ∧ IntRow w' w.heap.size v n f ∧ Below w.heap.size w w'
set_option maxHeartbeats 4000000 in
set_option maxRecDepth 100000 in
theorem to_pool (ba : Int) (si : Int) (co : Int) (a : Option Addr) (n cap : Nat) (f : Nat → Int) (w : World) (hn : n ≤ 4194304) (h : Elts w a n f) :
    Calls Try.prog 28 #[.agg #[.int .i64 ba, .int .i64 si, .int .i64 co, .slice a n cap]] w (PoolPost ba si co w n f) := by
  have H := Lib.hid h
  clear h
  go_enter Try.func28, Try.ntmps28
  go_wp2_with fail
  refine (to_ints a n cap f _ hn (H.out.below (B := w.heap.size) (by repeat (first | ((with_reducible refine Below.setCell ?_ ?_ _); rotate_left; first | omega | (dsimp only; omega) | (simp; done) | (simp; omega)) | ((with_reducible refine below_setRow ?_ ?_ _); rotate_left; first | omega | (dsimp only; omega) | (simp; done) | (simp; omega)) | with_reducible exact Below.refl _ _ | with_reducible exact below_new _ | with_reducible exact below_drew | with_reducible exact HB1.out | with_reducible exact HB2.out | with_reducible exact HB3.out | (with_reducible apply below_comp; rotate_left; first | with_reducible exact HB3.out | with_reducible exact HB2.out | with_reducible exact HB1.out | with_reducible assumption | with_reducible exact below_new _ | with_reducible exact below_drew))) (Nat.le_refl _))).mono ?_
  rintro e w1 ⟨v, rfl, R, hb1⟩
  obtain ⟨a', g', c', rfl, _, _⟩ := R.open
  have HR := Lib.hid R
  clear R
  have hz1 := hb1.size
  (try simp at hz1)
  (have hl0 : w.heap.size < w1.heap.size := by omega)
  (have hl1 : w.heap.size + 1 < w1.heap.size := by omega)
  (have hl2 : w.heap.size + 2 < w1.heap.size := by omega)
  (apply with_box hb1 (g := w.heap.size))
  (focus (repeat (first | (with_reducible exact HP0.out) | (with_reducible exact HP1.out) | (with_reducible exact HP2.out) | (with_reducible exact HP3.out) | (with_reducible exact HQ0.out) | (with_reducible exact HQ1.out) | (with_reducible exact HQ2.out) | (with_reducible exact HQ3.out) | (with_reducible apply Box.new) | (with_reducible apply Box.newAt; simp; done) | (with_reducible apply Box.set) | (with_reducible apply Box.skip; omega) | (with_reducible apply Box.alloc) | (with_reducible apply Box.row) | (with_reducible apply Box.skipRow; omega))))
  intro hx0
  (try simp only [List.setIfInBounds_toArray, List.set_cons_zero, List.set_cons_succ] at hx0)
  have k0_0 := hx0.cell 0 (by simp)
  have k0_1 := hx0.cell 1 (by simp)
  have k0_2 := hx0.cell 2 (by simp)
  have k0_3 := hx0.cell 3 (by simp)
  have fr0 := fun o => hx0.frozen o
  (try simp only [List.getElem_toArray, List.getElem_cons_zero, List.getElem_cons_succ] at k0_0)
  (try simp only [List.getElem_toArray, List.getElem_cons_zero, List.getElem_cons_succ] at k0_1)
  (try simp only [List.getElem_toArray, List.getElem_cons_zero, List.getElem_cons_succ] at k0_2)
  (try simp only [List.getElem_toArray, List.getElem_cons_zero, List.getElem_cons_succ] at k0_3)
  (apply with_box hb1 (g := w.heap.size + 1))
  (focus (repeat (first | (with_reducible exact HP0.out) | (with_reducible exact HP1.out) | (with_reducible exact HP2.out) | (with_reducible exact HP3.out) | (with_reducible exact HQ0.out) | (with_reducible exact HQ1.out) | (with_reducible exact HQ2.out) | (with_reducible exact HQ3.out) | (with_reducible apply Box.new) | (with_reducible apply Box.newAt; simp; done) | (with_reducible apply Box.set) | (with_reducible apply Box.skip; omega) | (with_reducible apply Box.alloc) | (with_reducible apply Box.row) | (with_reducible apply Box.skipRow; omega))))
  intro hx1
  (try simp only [List.setIfInBounds_toArray, List.set_cons_zero, List.set_cons_succ] at hx1)
  have k1_0 := hx1.cell 0 (by simp)
  have k1_1 := hx1.cell 1 (by simp)
  have k1_2 := hx1.cell 2 (by simp)
  have k1_3 := hx1.cell 3 (by simp)
  have fr1 := fun o => hx1.frozen o
  (try simp only [List.getElem_toArray, List.getElem_cons_zero, List.getElem_cons_succ] at k1_0)
  (try simp only [List.getElem_toArray, List.getElem_cons_zero, List.getElem_cons_succ] at k1_1)
  (try simp only [List.getElem_toArray, List.getElem_cons_zero, List.getElem_cons_succ] at k1_2)
  (try simp only [List.getElem_toArray, List.getElem_cons_zero, List.getElem_cons_succ] at k1_3)
  (apply with_box hb1 (g := w.heap.size + 2))
  (focus (repeat (first | (with_reducible exact HP0.out) | (with_reducible exact HP1.out) | (with_reducible exact HP2.out) | (with_reducible exact HP3.out) | (with_reducible exact HQ0.out) | (with_reducible exact HQ1.out) | (with_reducible exact HQ2.out) | (with_reducible exact HQ3.out) | (with_reducible apply Box.new) | (with_reducible apply Box.newAt; simp; done) | (with_reducible apply Box.set) | (with_reducible apply Box.skip; omega) | (with_reducible apply Box.alloc) | (with_reducible apply Box.row) | (with_reducible apply Box.skipRow; omega))))
  intro hx2
  (try simp only [List.setIfInBounds_toArray, List.set_cons_zero, List.set_cons_succ] at hx2)
  have k2_0 := hx2.cell 0 (by simp)
  have k2_1 := hx2.cell 1 (by simp)
  have k2_2 := hx2.cell 2 (by simp)
  have k2_3 := hx2.cell 3 (by simp)
  have fr2 := fun o => hx2.frozen o
  (try simp only [List.getElem_toArray, List.getElem_cons_zero, List.getElem_cons_succ] at k2_0)
  (try simp only [List.getElem_toArray, List.getElem_cons_zero, List.getElem_cons_succ] at k2_1)
  (try simp only [List.getElem_toArray, List.getElem_cons_zero, List.getElem_cons_succ] at k2_2)
  (try simp only [List.getElem_toArray, List.getElem_cons_zero, List.getElem_cons_succ] at k2_3)
  skip
  have HP0 := Lib.hid hx0
  clear hx0
  have HP1 := Lib.hid hx1
  clear hx1
  have HP2 := Lib.hid hx2
  clear hx2
  have HB1 := Lib.hid hb1
  clear hb1
  go_wp2
  apply bodyPost_row (g := w.heap.size + 1) rfl rfl Try.underlying43 rfl
  focus (repeat (first | (with_reducible exact HP0.out) | (with_reducible exact HP1.out) | (with_reducible exact HP2.out) | (with_reducible exact HP3.out) | (with_reducible exact HQ0.out) | (with_reducible exact HQ1.out) | (with_reducible exact HQ2.out) | (with_reducible exact HQ3.out) | (with_reducible apply Box.new) | (with_reducible apply Box.newAt; simp; done) | (with_reducible apply Box.set) | (with_reducible apply Box.skip; omega) | (with_reducible apply Box.alloc) | (with_reducible apply Box.row) | (with_reducible apply Box.skipRow; omega)))
  focus (kernel_rfl)
  focus (rfl)
  try simp only [List.setIfInBounds_toArray, List.set_cons_zero, List.set_cons_succ]
  refine ⟨_, rfl, ?_, ?_⟩
  · refine IntRow.mono (B := w.heap.size + 3) ?_ (by omega)
    repeat (with_reducible refine IntRow.set ?_ (by omega))
    exact HR.out.mono (by simp)
  · repeat (first | ((with_reducible refine Below.setCell ?_ ?_ _); rotate_left; first | omega | (dsimp only; omega) | (simp; done) | (simp; omega)) | ((with_reducible refine below_setRow ?_ ?_ _); rotate_left; first | omega | (dsimp only; omega) | (simp; done) | (simp; omega)) | with_reducible exact Below.refl _ _ | with_reducible exact below_new _ | with_reducible exact below_drew | with_reducible exact HB1.out | with_reducible exact HB2.out | with_reducible exact HB3.out | (with_reducible apply below_comp; rotate_left; first | with_reducible exact HB3.out | with_reducible exact HB2.out | with_reducible exact HB1.out | with_reducible assumption | with_reducible exact below_new _ | with_reducible exact below_drew))

set_option maxHeartbeats 4000000 in
set_option maxRecDepth 100000 in
theorem sz_pool (ba : Int) (si : Int) (co : Int) (a : Option Addr) (n cap : Nat) (left : Int) (w : World) (hn : n ≤ 9223372036854775807) (h : 0 ≤ left ∧ left ≤ 4194304) :
    Calls Try.prog 26 #[.agg #[.int .i64 ba, .int .i64 si, .int .i64 co, .slice a n cap], .int .i64 left] w fun e w' => e = .returned (.int .i64 (if left < ((n : Nat) : Int) then -1 else left - (((n : Nat) : Int)))) ∧ Below w.heap.size w w' := by

  have HI := Lib.hid fun W => sz_ints a n cap left W hn h
  by_cases h5 : left < n
  · rw [if_pos h5]
    rw [if_pos h5] at HI
    obtain ⟨h3, h4⟩ := h
    go_enter Try.func26, Try.ntmps26
    go_wp2_with (first | (go_at_call 70; refine (HI.out _).mono ?_; rintro e w' ⟨rfl, rfl⟩))
    go_ret
    exact ⟨ret_int (by first | rfl | omega | (split <;> omega)), below_new _⟩
  · rw [if_neg h5]
    rw [if_neg h5] at HI
    have h6 : ¬ left - n < 0 := by omega
    obtain ⟨h3, h4⟩ := h
    go_enter Try.func26, Try.ntmps26
    go_wp2_with (first | (go_at_call 70; refine (HI.out _).mono ?_; rintro e w' ⟨rfl, rfl⟩))
    go_ret
    exact ⟨ret_int (by first | rfl | omega | (split <;> omega)), below_new _⟩

set_option maxHeartbeats 4000000 in
set_option maxRecDepth 100000 in
theorem eq_pool (ba : Int) (si : Int) (co : Int) (v1 v2 : Value) (n B1 B2 : Nat) (f : Nat → Int) (w : World) (hn : n ≤ 4194304) (h1 : IntRow w B1 v1 n f) (h2 : IntRow w B2 v2 n f) :
    Calls Try.prog 30 #[.agg #[.int .i64 ba, .int .i64 si, .int .i64 co, v1], .agg #[.int .i64 ba, .int .i64 si, .int .i64 co, v2]] w fun e w' => e = .returned (.bool true) ∧ Below w.heap.size w w' := by
  obtain ⟨a1, g1, k1, rfl, _, _⟩ := h1.open
  obtain ⟨a2, g2, k2, rfl, _, _⟩ := h2.open
  have HE := Lib.hid (eq_row ((w.alloc (.cells #[.int .i64 ba, .int .i64 si, .int .i64 co, .slice a1 n k1] 43)).alloc (.cells #[.int .i64 ba, .int .i64 si, .int .i64 co, .slice a2 n k2] 43)) _ _ n _ _ f hn (h1.below (by repeat (first | ((with_reducible refine Below.setCell ?_ ?_ _); rotate_left; first | omega | (dsimp only; omega) | (simp; done) | (simp; omega)) | ((with_reducible refine below_setRow ?_ ?_ _); rotate_left; first | omega | (dsimp only; omega) | (simp; done) | (simp; omega)) | with_reducible exact Below.refl _ _ | with_reducible exact below_new _ | with_reducible exact below_drew | with_reducible exact HB1.out | with_reducible exact HB2.out | with_reducible exact HB3.out | (with_reducible apply below_comp; rotate_left; first | with_reducible exact HB3.out | with_reducible exact HB2.out | with_reducible exact HB1.out | with_reducible assumption | with_reducible exact below_new _ | with_reducible exact below_drew)))) (h2.below (by repeat (first | ((with_reducible refine Below.setCell ?_ ?_ _); rotate_left; first | omega | (dsimp only; omega) | (simp; done) | (simp; omega)) | ((with_reducible refine below_setRow ?_ ?_ _); rotate_left; first | omega | (dsimp only; omega) | (simp; done) | (simp; omega)) | with_reducible exact Below.refl _ _ | with_reducible exact below_new _ | with_reducible exact below_drew | with_reducible exact HB1.out | with_reducible exact HB2.out | with_reducible exact HB3.out | (with_reducible apply below_comp; rotate_left; first | with_reducible exact HB3.out | with_reducible exact HB2.out | with_reducible exact HB1.out | with_reducible assumption | with_reducible exact below_new _ | with_reducible exact below_drew)))))
  clear h1 h2
  go_enter Try.func30, Try.ntmps30
  go_wp2_with (first | (go_at_call 77; refine HE.out.mono ?_; rintro e w1 ⟨rfl, hb1⟩))
  go_ret
  exact ⟨rfl, below_comp (below_comp (below_new _) (below_new _)) hb1⟩

end Go.Proofs.Ythjajgpejfoghab
