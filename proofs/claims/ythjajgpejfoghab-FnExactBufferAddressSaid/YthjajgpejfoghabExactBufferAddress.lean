/- At every argument BufferAddress answers as the model does, and writes into no argument: the law FnExactBufferAddress returns true for every input, and its arguments read as before. No condition. -/
import Derived.Test.YthjajgpejfoghabBufB
import Derived.Test.YthjajgpejfoghabPoolH
import Derived.Test.YthjajgpejfoghabOpenPool
import Derived.Deep.DeepCutAuto
import Derived.OpenShut
import Derived.ShutString
import Derived.ChangeOld
namespace Go.Proofs.Ythjajgpejfoghab.fnExactBufferAddress
open Go.ChangeShapes Go.WideShapes Go.ChangeAt Go.RowKit
open Go.ChangeMaps (open_string shut_string)
set_option linter.unusedVariables false

theorem own : ownKnob Try.prog.godebug = none := by kernel_rfl
theorem laidOut : laidOutB Try.prog = true := by kernel_rfl

set_option linter.unusedSimpArgs false
set_option maxHeartbeats 4000000 in
set_option maxRecDepth 100000 in
theorem walk (w : World) (ba : Int) (si : Int) (co : Int) (a0 : Option Addr) (len0 cap0 : Nat) (z0 : List Int) (h0 : IsRow .i64 w a0 len0 cap0 z0) (m0 : len0 ≤ maxLen) (wba : -9223372036854775808 ≤ ba ∧ ba ≤ 9223372036854775807) (wsi : -9223372036854775808 ≤ si ∧ si ≤ 9223372036854775807) (wco : -9223372036854775808 ≤ co ∧ co ≤ 9223372036854775807) (a1 : Int) (w1 : (Lit.int .i64 a1).wf = true) :
    Calls Try.prog 7 #[.agg #[.int .i64 ba, .int .i64 si, .int .i64 co, .slice a0 len0 cap0], .int .i64 a1] w fun e w' => e = .returned (.bool true) ∧ Below w.heap.size w w' := by
  have b1 := i64_bd w1
  clear w1
  unfold maxLen at m0
  have HE := Lib.hid h0.elts
  generalize (fun j => z0.getD j 0) = f at HE
  clear h0
  by_cases hb : (1048576 : Int) < ((len0 : Nat) : Int)
  · have HZ := Lib.hid fun W => sz_pool ba si co a0 len0 cap0 1048576 W (by omega) (by omega)
    rw [if_pos hb] at HZ
    clear hb
    go_enter Try.func7, Try.ntmps7
    go_wp2_with (first | (go_at_call 26; refine (HZ.out _).mono ?_; rintro e w1 ⟨rfl, hb1⟩))
    go_ret
    exact ⟨rfl, below_comp (below_new _) hb1⟩
  have HZ := Lib.hid fun W => sz_pool ba si co a0 len0 cap0 1048576 W (by omega) (by omega)
  rw [if_neg hb] at HZ
  obtain ⟨L, hL, h0L⟩ : ∃ L, 1048576 - ((len0 : Nat) : Int) = L ∧ ¬ L < 0 := ⟨_, rfl, by omega⟩
  rw [hL] at HZ
  clear hL
  have hn : len0 ≤ 4194304 := by omega
  have HS := Lib.hid fun (W : World) (v : Value) (B : Nat) (R : IntRow W B v len0 f) => spec_bufaddr ba si co v len0 B f a1 W hn R
  have HI := Lib.hid fun (W : World) (v : Value) (B : Nat) (R : IntRow W B v len0 f) => impl_bufaddr ba si co v len0 B f a1 W hn R
  generalize bufV ba si co len0 f a1 = B0 at HS HI
  clear hb
  go_enter Try.func7, Try.ntmps7
  go_wp2_with fail
  refine (HZ.out _).mono ?_
  rintro e w1 ⟨rfl, hb1⟩
  have hz1 := hb1.size
  (try simp at hz1)
  (have hl0 : w.heap.size < w1.heap.size := by omega)
  (apply with_box hb1 (g := w.heap.size))
  (focus (repeat (first | (with_reducible exact HP0.out) | (with_reducible exact HP1.out) | (with_reducible exact HP2.out) | (with_reducible exact HP3.out) | (with_reducible exact HQ0.out) | (with_reducible exact HQ1.out) | (with_reducible exact HQ2.out) | (with_reducible exact HQ3.out) | (with_reducible apply Box.new) | (with_reducible apply Box.newAt; simp; done) | (with_reducible apply Box.set) | (with_reducible apply Box.skip; omega) | (with_reducible apply Box.alloc) | (with_reducible apply Box.drew) | (with_reducible apply Box.row) | (with_reducible apply Box.skipRow; omega))))
  intro hx0
  (try simp only [List.setIfInBounds_toArray, List.set_cons_zero, List.set_cons_succ] at hx0)
  have k0_0 := hx0.cell 0 (by simp)
  have k0_1 := hx0.cell 1 (by simp)
  have k0_2 := hx0.cell 2 (by simp)
  have k0_3 := hx0.cell 3 (by simp)
  have fr0 := fun o => hx0.frozen o
  (try simp only [List.getElem_toArray, List.getElem_cons_zero, List.getElem_cons_succ] at k0_0)
  (try simp only [List.getElem_toArray, List.getElem_cons_zero, List.getElem_cons_succ] at k0_1)
  (try simp only [List.getElem_toArray, List.getElem_cons_zero, List.getElem_cons_succ] at k0_2)
  (try simp only [List.getElem_toArray, List.getElem_cons_zero, List.getElem_cons_succ] at k0_3)
  skip
  have HP0 := Lib.hid hx0
  clear hx0
  have HB1 := Lib.hid hb1
  clear hb1
  go_wp2_with fail
  refine (to_pool ba si co a0 len0 cap0 f _ hn (HE.out.below (B := w.heap.size) (by repeat (first | ((with_reducible refine Below.setCell ?_ ?_ _); rotate_left; first | omega | (dsimp only; omega) | (simp; done) | (simp; omega)) | ((with_reducible refine below_setRow ?_ ?_ _); rotate_left; first | omega | (dsimp only; omega) | (simp; done) | (simp; omega)) | with_reducible exact Below.refl _ _ | with_reducible exact below_new _ | with_reducible exact below_drew | with_reducible exact HB9.out | with_reducible exact HB8.out | with_reducible exact HB7.out | with_reducible exact HB6.out | with_reducible exact HB5.out | with_reducible exact HB4.out | with_reducible exact HB3.out | with_reducible exact HB2.out | with_reducible exact HB1.out | (with_reducible apply below_comp; rotate_left; first | with_reducible exact HB9.out | with_reducible exact HB8.out | with_reducible exact HB7.out | with_reducible exact HB6.out | with_reducible exact HB5.out | with_reducible exact HB4.out | with_reducible exact HB3.out | with_reducible exact HB2.out | with_reducible exact HB1.out | with_reducible assumption | with_reducible exact below_new _ | with_reducible exact below_drew))) (Nat.le_refl _))).mono ?_
  rintro e w2 ⟨v2, rfl, R2, hb2⟩
  have HR2 := Lib.hid R2
  clear R2
  have hz2 := hb2.size
  (try simp at hz2)
  (have hl0 : w.heap.size < w2.heap.size := by omega)
  (apply with_box hb2 (g := w.heap.size))
  (focus (repeat (first | (with_reducible exact HP0.out) | (with_reducible exact HP1.out) | (with_reducible exact HP2.out) | (with_reducible exact HP3.out) | (with_reducible exact HQ0.out) | (with_reducible exact HQ1.out) | (with_reducible exact HQ2.out) | (with_reducible exact HQ3.out) | (with_reducible apply Box.new) | (with_reducible apply Box.newAt; simp; done) | (with_reducible apply Box.set) | (with_reducible apply Box.skip; omega) | (with_reducible apply Box.alloc) | (with_reducible apply Box.drew) | (with_reducible apply Box.row) | (with_reducible apply Box.skipRow; omega))))
  intro hx0
  (try simp only [List.setIfInBounds_toArray, List.set_cons_zero, List.set_cons_succ] at hx0)
  have k0_0 := hx0.cell 0 (by simp)
  have k0_1 := hx0.cell 1 (by simp)
  have k0_2 := hx0.cell 2 (by simp)
  have k0_3 := hx0.cell 3 (by simp)
  have fr0 := fun o => hx0.frozen o
  (try simp only [List.getElem_toArray, List.getElem_cons_zero, List.getElem_cons_succ] at k0_0)
  (try simp only [List.getElem_toArray, List.getElem_cons_zero, List.getElem_cons_succ] at k0_1)
  (try simp only [List.getElem_toArray, List.getElem_cons_zero, List.getElem_cons_succ] at k0_2)
  (try simp only [List.getElem_toArray, List.getElem_cons_zero, List.getElem_cons_succ] at k0_3)
  skip
  have HP0 := Lib.hid hx0
  clear hx0
  have HB2 := Lib.hid hb2
  clear hb2
  go_wp2_with fail
  refine (HS.out _ _ _ HR2.out).mono ?_
  rintro e w3 ⟨rfl, hb3⟩
  have hz3 := hb3.size
  (try simp at hz3)
  (have hl0 : w.heap.size < w3.heap.size := by omega)
  (apply with_box hb3 (g := w.heap.size))
  (focus (repeat (first | (with_reducible exact HP0.out) | (with_reducible exact HP1.out) | (with_reducible exact HP2.out) | (with_reducible exact HP3.out) | (with_reducible exact HQ0.out) | (with_reducible exact HQ1.out) | (with_reducible exact HQ2.out) | (with_reducible exact HQ3.out) | (with_reducible apply Box.new) | (with_reducible apply Box.newAt; simp; done) | (with_reducible apply Box.set) | (with_reducible apply Box.skip; omega) | (with_reducible apply Box.alloc) | (with_reducible apply Box.drew) | (with_reducible apply Box.row) | (with_reducible apply Box.skipRow; omega))))
  intro hx0
  (try simp only [List.setIfInBounds_toArray, List.set_cons_zero, List.set_cons_succ] at hx0)
  have k0_0 := hx0.cell 0 (by simp)
  have k0_1 := hx0.cell 1 (by simp)
  have k0_2 := hx0.cell 2 (by simp)
  have k0_3 := hx0.cell 3 (by simp)
  have fr0 := fun o => hx0.frozen o
  (try simp only [List.getElem_toArray, List.getElem_cons_zero, List.getElem_cons_succ] at k0_0)
  (try simp only [List.getElem_toArray, List.getElem_cons_zero, List.getElem_cons_succ] at k0_1)
  (try simp only [List.getElem_toArray, List.getElem_cons_zero, List.getElem_cons_succ] at k0_2)
  (try simp only [List.getElem_toArray, List.getElem_cons_zero, List.getElem_cons_succ] at k0_3)
  skip
  have HP0 := Lib.hid hx0
  clear hx0
  have HB3 := Lib.hid hb3
  clear hb3
  go_wp2_with fail
  refine (to_pool ba si co a0 len0 cap0 f _ hn (HE.out.below (B := w.heap.size) (by repeat (first | ((with_reducible refine Below.setCell ?_ ?_ _); rotate_left; first | omega | (dsimp only; omega) | (simp; done) | (simp; omega)) | ((with_reducible refine below_setRow ?_ ?_ _); rotate_left; first | omega | (dsimp only; omega) | (simp; done) | (simp; omega)) | with_reducible exact Below.refl _ _ | with_reducible exact below_new _ | with_reducible exact below_drew | with_reducible exact HB9.out | with_reducible exact HB8.out | with_reducible exact HB7.out | with_reducible exact HB6.out | with_reducible exact HB5.out | with_reducible exact HB4.out | with_reducible exact HB3.out | with_reducible exact HB2.out | with_reducible exact HB1.out | (with_reducible apply below_comp; rotate_left; first | with_reducible exact HB9.out | with_reducible exact HB8.out | with_reducible exact HB7.out | with_reducible exact HB6.out | with_reducible exact HB5.out | with_reducible exact HB4.out | with_reducible exact HB3.out | with_reducible exact HB2.out | with_reducible exact HB1.out | with_reducible assumption | with_reducible exact below_new _ | with_reducible exact below_drew))) (Nat.le_refl _))).mono ?_
  rintro e w4 ⟨v4, rfl, R4, hb4⟩
  obtain ⟨a4, g4, c4, rfl, _, _⟩ := R4.open
  have HR4 := Lib.hid R4
  clear R4
  have hz4 := hb4.size
  (try simp at hz4)
  (have hl0 : w.heap.size < w4.heap.size := by omega)
  (apply with_box hb4 (g := w.heap.size))
  (focus (repeat (first | (with_reducible exact HP0.out) | (with_reducible exact HP1.out) | (with_reducible exact HP2.out) | (with_reducible exact HP3.out) | (with_reducible exact HQ0.out) | (with_reducible exact HQ1.out) | (with_reducible exact HQ2.out) | (with_reducible exact HQ3.out) | (with_reducible apply Box.new) | (with_reducible apply Box.newAt; simp; done) | (with_reducible apply Box.set) | (with_reducible apply Box.skip; omega) | (with_reducible apply Box.alloc) | (with_reducible apply Box.drew) | (with_reducible apply Box.row) | (with_reducible apply Box.skipRow; omega))))
  intro hx0
  (try simp only [List.setIfInBounds_toArray, List.set_cons_zero, List.set_cons_succ] at hx0)
  have k0_0 := hx0.cell 0 (by simp)
  have k0_1 := hx0.cell 1 (by simp)
  have k0_2 := hx0.cell 2 (by simp)
  have k0_3 := hx0.cell 3 (by simp)
  have fr0 := fun o => hx0.frozen o
  (try simp only [List.getElem_toArray, List.getElem_cons_zero, List.getElem_cons_succ] at k0_0)
  (try simp only [List.getElem_toArray, List.getElem_cons_zero, List.getElem_cons_succ] at k0_1)
  (try simp only [List.getElem_toArray, List.getElem_cons_zero, List.getElem_cons_succ] at k0_2)
  (try simp only [List.getElem_toArray, List.getElem_cons_zero, List.getElem_cons_succ] at k0_3)
  skip
  have HP0 := Lib.hid hx0
  clear hx0
  have HB4 := Lib.hid hb4
  clear hb4
  go_wp2_with fail
  refine (HI.out _ _ _ (HR4.out.below (below_new _))).mono ?_
  rintro e w5 ⟨rfl, hb5⟩
  have hz5 := hb5.size
  (try simp at hz5)
  (have hl0 : w.heap.size < w5.heap.size := by omega)
  (have hl1 : w4.heap.size < w5.heap.size := by omega)
  (apply with_box hb5 (g := w.heap.size))
  (focus (repeat (first | (with_reducible exact HP0.out) | (with_reducible exact HP1.out) | (with_reducible exact HP2.out) | (with_reducible exact HP3.out) | (with_reducible exact HQ0.out) | (with_reducible exact HQ1.out) | (with_reducible exact HQ2.out) | (with_reducible exact HQ3.out) | (with_reducible apply Box.new) | (with_reducible apply Box.newAt; simp; done) | (with_reducible apply Box.set) | (with_reducible apply Box.skip; omega) | (with_reducible apply Box.alloc) | (with_reducible apply Box.drew) | (with_reducible apply Box.row) | (with_reducible apply Box.skipRow; omega))))
  intro hx0
  (try simp only [List.setIfInBounds_toArray, List.set_cons_zero, List.set_cons_succ] at hx0)
  have k0_0 := hx0.cell 0 (by simp)
  have k0_1 := hx0.cell 1 (by simp)
  have k0_2 := hx0.cell 2 (by simp)
  have k0_3 := hx0.cell 3 (by simp)
  have fr0 := fun o => hx0.frozen o
  (try simp only [List.getElem_toArray, List.getElem_cons_zero, List.getElem_cons_succ] at k0_0)
  (try simp only [List.getElem_toArray, List.getElem_cons_zero, List.getElem_cons_succ] at k0_1)
  (try simp only [List.getElem_toArray, List.getElem_cons_zero, List.getElem_cons_succ] at k0_2)
  (try simp only [List.getElem_toArray, List.getElem_cons_zero, List.getElem_cons_succ] at k0_3)
  (apply with_box hb5 (g := w4.heap.size))
  (focus (repeat (first | (with_reducible exact HP0.out) | (with_reducible exact HP1.out) | (with_reducible exact HP2.out) | (with_reducible exact HP3.out) | (with_reducible exact HQ0.out) | (with_reducible exact HQ1.out) | (with_reducible exact HQ2.out) | (with_reducible exact HQ3.out) | (with_reducible apply Box.new) | (with_reducible apply Box.newAt; simp; done) | (with_reducible apply Box.set) | (with_reducible apply Box.skip; omega) | (with_reducible apply Box.alloc) | (with_reducible apply Box.drew) | (with_reducible apply Box.row) | (with_reducible apply Box.skipRow; omega))))
  intro hx1
  (try simp only [List.setIfInBounds_toArray, List.set_cons_zero, List.set_cons_succ] at hx1)
  have k1_0 := hx1.cell 0 (by simp)
  have k1_1 := hx1.cell 1 (by simp)
  have k1_2 := hx1.cell 2 (by simp)
  have k1_3 := hx1.cell 3 (by simp)
  have fr1 := fun o => hx1.frozen o
  (try simp only [List.getElem_toArray, List.getElem_cons_zero, List.getElem_cons_succ] at k1_0)
  (try simp only [List.getElem_toArray, List.getElem_cons_zero, List.getElem_cons_succ] at k1_1)
  (try simp only [List.getElem_toArray, List.getElem_cons_zero, List.getElem_cons_succ] at k1_2)
  (try simp only [List.getElem_toArray, List.getElem_cons_zero, List.getElem_cons_succ] at k1_3)
  skip
  have HP0 := Lib.hid hx0
  clear hx0
  have HP1 := Lib.hid hx1
  clear hx1
  have HB5 := Lib.hid hb5
  clear hb5
  have HR5 := Lib.hid (HR4.out.below (show Below w4.heap.size w4 w5 by repeat (first | ((with_reducible refine Below.setCell ?_ ?_ _); rotate_left; first | omega | (dsimp only; omega) | (simp; done) | (simp; omega)) | ((with_reducible refine below_setRow ?_ ?_ _); rotate_left; first | omega | (dsimp only; omega) | (simp; done) | (simp; omega)) | with_reducible exact Below.refl _ _ | with_reducible exact below_new _ | with_reducible exact below_drew | with_reducible exact HB9.out | with_reducible exact HB8.out | with_reducible exact HB7.out | with_reducible exact HB6.out | with_reducible exact HB5.out | with_reducible exact HB4.out | with_reducible exact HB3.out | with_reducible exact HB2.out | with_reducible exact HB1.out | (with_reducible apply below_comp; rotate_left; first | with_reducible exact HB9.out | with_reducible exact HB8.out | with_reducible exact HB7.out | with_reducible exact HB6.out | with_reducible exact HB5.out | with_reducible exact HB4.out | with_reducible exact HB3.out | with_reducible exact HB2.out | with_reducible exact HB1.out | with_reducible assumption | with_reducible exact below_new _ | with_reducible exact below_drew))))
  go_upto_region 10 with fail
  go_region_with (first | (go_at_call 28; refine (to_pool ba si co a0 len0 cap0 f _ hn (HE.out.below (B := w.heap.size) (by repeat (first | ((with_reducible refine Below.setCell ?_ ?_ _); rotate_left; first | omega | (dsimp only; omega) | (simp; done) | (simp; omega)) | ((with_reducible refine below_setRow ?_ ?_ _); rotate_left; first | omega | (dsimp only; omega) | (simp; done) | (simp; omega)) | with_reducible exact Below.refl _ _ | with_reducible exact below_new _ | with_reducible exact below_drew | with_reducible exact HB9.out | with_reducible exact HB8.out | with_reducible exact HB7.out | with_reducible exact HB6.out | with_reducible exact HB5.out | with_reducible exact HB4.out | with_reducible exact HB3.out | with_reducible exact HB2.out | with_reducible exact HB1.out | (with_reducible apply below_comp; rotate_left; first | with_reducible exact HB9.out | with_reducible exact HB8.out | with_reducible exact HB7.out | with_reducible exact HB6.out | with_reducible exact HB5.out | with_reducible exact HB4.out | with_reducible exact HB3.out | with_reducible exact HB2.out | with_reducible exact HB1.out | with_reducible assumption | with_reducible exact below_new _ | with_reducible exact below_drew))) (Nat.le_refl _))).mono ?_; rintro e w6 ⟨v6, rfl, R6, hb6⟩; have HR6 := Lib.hid R6; clear R6; have hz6 := hb6.size; (try simp at hz6); (have hl0 : w.heap.size < w6.heap.size := by omega); (have hl1 : w4.heap.size < w6.heap.size := by omega); (apply with_box hb6 (g := w.heap.size)); (focus (repeat (first | (with_reducible exact HP0.out) | (with_reducible exact HP1.out) | (with_reducible exact HP2.out) | (with_reducible exact HP3.out) | (with_reducible exact HQ0.out) | (with_reducible exact HQ1.out) | (with_reducible exact HQ2.out) | (with_reducible exact HQ3.out) | (with_reducible apply Box.new) | (with_reducible apply Box.newAt; simp; done) | (with_reducible apply Box.set) | (with_reducible apply Box.skip; omega) | (with_reducible apply Box.alloc) | (with_reducible apply Box.drew) | (with_reducible apply Box.row) | (with_reducible apply Box.skipRow; omega)))); intro hx0; (try simp only [List.setIfInBounds_toArray, List.set_cons_zero, List.set_cons_succ] at hx0); have k0_0 := hx0.cell 0 (by simp); have k0_1 := hx0.cell 1 (by simp); have k0_2 := hx0.cell 2 (by simp); have k0_3 := hx0.cell 3 (by simp); have fr0 := fun o => hx0.frozen o; (try simp only [List.getElem_toArray, List.getElem_cons_zero, List.getElem_cons_succ] at k0_0); (try simp only [List.getElem_toArray, List.getElem_cons_zero, List.getElem_cons_succ] at k0_1); (try simp only [List.getElem_toArray, List.getElem_cons_zero, List.getElem_cons_succ] at k0_2); (try simp only [List.getElem_toArray, List.getElem_cons_zero, List.getElem_cons_succ] at k0_3); (apply with_box hb6 (g := w4.heap.size)); (focus (repeat (first | (with_reducible exact HP0.out) | (with_reducible exact HP1.out) | (with_reducible exact HP2.out) | (with_reducible exact HP3.out) | (with_reducible exact HQ0.out) | (with_reducible exact HQ1.out) | (with_reducible exact HQ2.out) | (with_reducible exact HQ3.out) | (with_reducible apply Box.new) | (with_reducible apply Box.newAt; simp; done) | (with_reducible apply Box.set) | (with_reducible apply Box.skip; omega) | (with_reducible apply Box.alloc) | (with_reducible apply Box.drew) | (with_reducible apply Box.row) | (with_reducible apply Box.skipRow; omega)))); intro hx1; (try simp only [List.setIfInBounds_toArray, List.set_cons_zero, List.set_cons_succ] at hx1); have k1_0 := hx1.cell 0 (by simp); have k1_1 := hx1.cell 1 (by simp); have k1_2 := hx1.cell 2 (by simp); have k1_3 := hx1.cell 3 (by simp); have fr1 := fun o => hx1.frozen o; (try simp only [List.getElem_toArray, List.getElem_cons_zero, List.getElem_cons_succ] at k1_0); (try simp only [List.getElem_toArray, List.getElem_cons_zero, List.getElem_cons_succ] at k1_1); (try simp only [List.getElem_toArray, List.getElem_cons_zero, List.getElem_cons_succ] at k1_2); (try simp only [List.getElem_toArray, List.getElem_cons_zero, List.getElem_cons_succ] at k1_3); skip; have HP0 := Lib.hid hx0; clear hx0; have HP1 := Lib.hid hx1; clear hx1; have HB6 := Lib.hid hb6; clear hb6; (have HX6 := Lib.hid (HR5.out.below (show Below w5.heap.size w5 w6 by repeat (first | ((with_reducible refine Below.setCell ?_ ?_ _); rotate_left; first | omega | (dsimp only; omega) | (simp; done) | (simp; omega)) | ((with_reducible refine below_setRow ?_ ?_ _); rotate_left; first | omega | (dsimp only; omega) | (simp; done) | (simp; omega)) | with_reducible exact Below.refl _ _ | with_reducible exact below_new _ | with_reducible exact below_drew | with_reducible exact HB9.out | with_reducible exact HB8.out | with_reducible exact HB7.out | with_reducible exact HB6.out | with_reducible exact HB5.out | with_reducible exact HB4.out | with_reducible exact HB3.out | with_reducible exact HB2.out | with_reducible exact HB1.out | (with_reducible apply below_comp; rotate_left; first | with_reducible exact HB9.out | with_reducible exact HB8.out | with_reducible exact HB7.out | with_reducible exact HB6.out | with_reducible exact HB5.out | with_reducible exact HB4.out | with_reducible exact HB3.out | with_reducible exact HB2.out | with_reducible exact HB1.out | with_reducible assumption | with_reducible exact below_new _ | with_reducible exact below_drew)))))) | (go_at_call 30; refine (eq_pool ba si co _ _ len0 _ _ f _ hn HX6.out HR6.out).mono ?_; rintro e w7 ⟨rfl, hb7⟩; have HB7 := Lib.hid hb7; clear hb7))
  all_goals
    go_wp2
    go_ret
    refine ⟨rfl, ?_⟩
    repeat (first | ((with_reducible refine Below.setCell ?_ ?_ _); rotate_left; first | omega | (dsimp only; omega) | (simp; done) | (simp; omega)) | ((with_reducible refine below_setRow ?_ ?_ _); rotate_left; first | omega | (dsimp only; omega) | (simp; done) | (simp; omega)) | with_reducible exact Below.refl _ _ | with_reducible exact below_new _ | with_reducible exact below_drew | with_reducible exact HB9.out | with_reducible exact HB8.out | with_reducible exact HB7.out | with_reducible exact HB6.out | with_reducible exact HB5.out | with_reducible exact HB4.out | with_reducible exact HB3.out | with_reducible exact HB2.out | with_reducible exact HB1.out | (with_reducible apply below_comp; rotate_left; first | with_reducible exact HB9.out | with_reducible exact HB8.out | with_reducible exact HB7.out | with_reducible exact HB6.out | with_reducible exact HB5.out | with_reducible exact HB4.out | with_reducible exact HB3.out | with_reducible exact HB2.out | with_reducible exact HB1.out | with_reducible assumption | with_reducible exact below_new _ | with_reducible exact below_drew))

set_option maxRecDepth 100000 in
theorem lifted (os : Os) (started : os.Started) (H : Type) (enc : TypeId × Value → H) :
    ReturnsInHanded {} Try.checked os 7 .any (Rows.fnExactBufferAddressSpec.pre6 enc Try.prog Try.f7 Rows.fnExactBufferAddressRow.domain false) (Rows.fnExactBufferAddressSpec.post enc Try.prog Try.f7 false true false false) := by
  refine returnsInHanded_of_change (C := Try.checked) own started (by kernel_rfl) Try.func7
    (ChangeSpec.witness6 (enc := enc) (C := Try.checked) false ⟨#[], #[.agg #[.int .i64 0, .int .i64 0, .int .i64 0, .slice none 0 0], .int .i64 0], []⟩ 8 (by kernel_rfl) (by kernel_rfl) (by kernel_rfl) (by kernel_rfl)) ?_
  intro W base args ds gs before hval0 hW hcnd _
  have hval : ∀ (j : Nat) t v, Try.f7.params[j]? = some t → args[j]? = some v → Value.okWide Try.prog W .any base t v := hval0
  have hW' := hW
  obtain ⟨p, q, hA0, hV, rfl, hfz, hnd⟩ := hW
  have hA : DataW.TrodAll enc Try.prog W 0 (fun _ => true) true Try.f7.params.toList args.toList ds p := hA0
  rw [Try.params7] at hA hval
  obtain ⟨v0, vs0, d0, ds0, p0, q0, hargs, rfl, rfl, h0, r0⟩ := trodAll_cons hA
  obtain ⟨v1, vs1, d1, ds1, p1, q1, rfl, rfl, rfl, h1, r1⟩ := trodAll_cons r0
  obtain ⟨rfl, rfl, rfl⟩ := trodAll_nil r1
  obtain rfl : args = #[v0, v1] := by cases args; simp_all
  obtain ⟨rfl, rfl⟩ := trodVars_none hV
  have lt0 : ∀ x ∈ p0, x.block < W.heap.size := by obtain ⟨m, hm⟩ := h0; exact DataW.trod_lt m _ _ _ hm
  have k0 := h0
  obtain ⟨ba0, si0, co0, a0, len0, cap0, z0, rfl, w0, m0, wf0_0, wf0_1, wf0_2⟩ := OpPool.opened (hval 0 40 v0 rfl rfl) h0
  have lt1 : ∀ x ∈ p1, x.block < W.heap.size := by obtain ⟨m, hm⟩ := h1; exact DataW.trod_lt m _ _ _ hm
  have k1 := h1
  obtain ⟨a1, rfl, rfl, rfl, w1⟩ := open_int Try.underlying3 (hval 1 3 v1 rfl rfl) h1
  clear hA0 hval0
  refine (walk W ba0 si0 co0 a0 len0 cap0 z0 w0 m0 wf0_0 wf0_1 wf0_2 a1 w1).mono fun e W' ⟨he, bel⟩ => ?_
  subst he
  exact ⟨_, rfl, _, _, _, [], _, [], hW', trodAll_mk1 (shut_bool Try.underlying4 _), (trodAll_cons_mk (Below.trod laidOut (by kernel_rfl) (of_decide_eq_true (by kernel_rfl)) k0 bel lt0) (trodAll_cons_mk (Below.trod laidOut (by kernel_rfl) (of_decide_eq_true (by kernel_rfl)) k1 bel lt1) trodAll_mk0)), rfl, bel.frame _, fun h => by cases h⟩

theorem over : Rows.fnExactBufferAddressRow.holds Try.pinned (OpenSpec.ofChange Rows.fnExactBufferAddressSpec) :=
  OpenClaim.holds_of_wide 7 Try.f7 rfl rfl rfl rfl rfl rfl rfl ⟨rfl, rfl, rfl, rfl, rfl⟩ rfl rfl rfl rfl rfl (by kernel_rfl) Try.func7 (by kernel_rfl)
    (of_decide_eq_true (by kernel_rfl)) (by unfold Func.isWrapper; first | (rw [if_pos (by decide +kernel)]; kernel_rfl) | (rw [if_neg (by decide +kernel)]; exact ⟨rfl, rfl⟩))
    (fun os started H enc _ => lifted os started H enc)

/-- The statement. -/
theorem proved : Rows.FnExactBufferAddressSaid := over

end Go.Proofs.Ythjajgpejfoghab.fnExactBufferAddress
