/- The laws' own help for VirtualFunction. -/
import Derived.Test.YthjajgpejfoghabBoxes
import Derived.Test.YthjajgpejfoghabNestMath
import Derived.Test.YthjajgpejfoghabToBucket
namespace Go.Proofs.Ythjajgpejfoghab
open Go.RowKit
set_option linter.unusedSimpArgs false
set_option linter.unusedVariables false

set_option maxHeartbeats 4000000 in
set_option maxRecDepth 100000 in
theorem to_virtualfunction (e : VirtualFunctionM) (w : World) :
    Calls Try.prog 98 #[e.val] w fun r w' => r = .returned e.val ∧ Below w.heap.size w w' := by
  have HT2 := Lib.hid fun W => to_bucket e.xBucket W
  obtain ⟨y0, y1, ⟨y2, y3, y4⟩, y5, y6, y7⟩ := e
  unfold VirtualFunctionM.val BucketM.val at *
  dsimp only at *
  go_enter Try.func98, Try.ntmps98
  go_wp2_with fail
  refine (HT2.out _).mono ?_
  rintro e w1 ⟨rfl, hb1⟩
  have hz1 := hb1.size
  (try simp at hz1)
  (have hl0 : w.heap.size < w1.heap.size := by omega)
  (have hl1 : w.heap.size + 1 < w1.heap.size := by omega)
  (have hl2 : w.heap.size + 2 < w1.heap.size := by omega)
  (apply with_box hb1 (g := w.heap.size))
  (focus (repeat (first | (with_reducible exact HP0.out) | (with_reducible exact HP1.out) | (with_reducible exact HP2.out) | (with_reducible exact HP3.out) | (with_reducible exact HQ0.out) | (with_reducible exact HQ1.out) | (with_reducible exact HQ2.out) | (with_reducible exact HQ3.out) | (with_reducible apply Box.new) | (with_reducible apply Box.newAt; simp; done) | (with_reducible apply Box.set) | (with_reducible apply Box.skip; omega) | (with_reducible apply Box.alloc) | (with_reducible apply Box.drew) | (with_reducible apply Box.row) | (with_reducible apply Box.skipRow; omega))))
  intro hx0
  (try simp only [List.setIfInBounds_toArray, List.set_cons_zero, List.set_cons_succ] at hx0)
  have k0_0 := hx0.cell 0 (by simp)
  have k0_1 := hx0.cell 1 (by simp)
  have k0_2 := hx0.cell 2 (by simp)
  have k0_3 := hx0.cell 3 (by simp)
  have k0_4 := hx0.cell 4 (by simp)
  have k0_5 := hx0.cell 5 (by simp)
  have k0_6 := hx0.cell 6 (by simp)
  have k0_7 := hx0.cell 7 (by simp)
  have fr0 := fun o => hx0.frozen o
  (try simp only [List.getElem_toArray, List.getElem_cons_zero, List.getElem_cons_succ] at k0_0)
  (try simp only [List.getElem_toArray, List.getElem_cons_zero, List.getElem_cons_succ] at k0_1)
  (try simp only [List.getElem_toArray, List.getElem_cons_zero, List.getElem_cons_succ] at k0_2)
  (try simp only [List.getElem_toArray, List.getElem_cons_zero, List.getElem_cons_succ] at k0_3)
  (try simp only [List.getElem_toArray, List.getElem_cons_zero, List.getElem_cons_succ] at k0_4)
  (try simp only [List.getElem_toArray, List.getElem_cons_zero, List.getElem_cons_succ] at k0_5)
  (try simp only [List.getElem_toArray, List.getElem_cons_zero, List.getElem_cons_succ] at k0_6)
  (try simp only [List.getElem_toArray, List.getElem_cons_zero, List.getElem_cons_succ] at k0_7)
  (apply with_box hb1 (g := w.heap.size + 1))
  (focus (repeat (first | (with_reducible exact HP0.out) | (with_reducible exact HP1.out) | (with_reducible exact HP2.out) | (with_reducible exact HP3.out) | (with_reducible exact HQ0.out) | (with_reducible exact HQ1.out) | (with_reducible exact HQ2.out) | (with_reducible exact HQ3.out) | (with_reducible apply Box.new) | (with_reducible apply Box.newAt; simp; done) | (with_reducible apply Box.set) | (with_reducible apply Box.skip; omega) | (with_reducible apply Box.alloc) | (with_reducible apply Box.drew) | (with_reducible apply Box.row) | (with_reducible apply Box.skipRow; omega))))
  intro hx1
  (try simp only [List.setIfInBounds_toArray, List.set_cons_zero, List.set_cons_succ] at hx1)
  have k1_0 := hx1.cell 0 (by simp)
  have k1_1 := hx1.cell 1 (by simp)
  have k1_2 := hx1.cell 2 (by simp)
  have k1_3 := hx1.cell 3 (by simp)
  have k1_4 := hx1.cell 4 (by simp)
  have k1_5 := hx1.cell 5 (by simp)
  have k1_6 := hx1.cell 6 (by simp)
  have k1_7 := hx1.cell 7 (by simp)
  have fr1 := fun o => hx1.frozen o
  (try simp only [List.getElem_toArray, List.getElem_cons_zero, List.getElem_cons_succ] at k1_0)
  (try simp only [List.getElem_toArray, List.getElem_cons_zero, List.getElem_cons_succ] at k1_1)
  (try simp only [List.getElem_toArray, List.getElem_cons_zero, List.getElem_cons_succ] at k1_2)
  (try simp only [List.getElem_toArray, List.getElem_cons_zero, List.getElem_cons_succ] at k1_3)
  (try simp only [List.getElem_toArray, List.getElem_cons_zero, List.getElem_cons_succ] at k1_4)
  (try simp only [List.getElem_toArray, List.getElem_cons_zero, List.getElem_cons_succ] at k1_5)
  (try simp only [List.getElem_toArray, List.getElem_cons_zero, List.getElem_cons_succ] at k1_6)
  (try simp only [List.getElem_toArray, List.getElem_cons_zero, List.getElem_cons_succ] at k1_7)
  (apply with_box hb1 (g := w.heap.size + 2))
  (focus (repeat (first | (with_reducible exact HP0.out) | (with_reducible exact HP1.out) | (with_reducible exact HP2.out) | (with_reducible exact HP3.out) | (with_reducible exact HQ0.out) | (with_reducible exact HQ1.out) | (with_reducible exact HQ2.out) | (with_reducible exact HQ3.out) | (with_reducible apply Box.new) | (with_reducible apply Box.newAt; simp; done) | (with_reducible apply Box.set) | (with_reducible apply Box.skip; omega) | (with_reducible apply Box.alloc) | (with_reducible apply Box.drew) | (with_reducible apply Box.row) | (with_reducible apply Box.skipRow; omega))))
  intro hx2
  (try simp only [List.setIfInBounds_toArray, List.set_cons_zero, List.set_cons_succ] at hx2)
  have k2_0 := hx2.cell 0 (by simp)
  have k2_1 := hx2.cell 1 (by simp)
  have k2_2 := hx2.cell 2 (by simp)
  have k2_3 := hx2.cell 3 (by simp)
  have k2_4 := hx2.cell 4 (by simp)
  have k2_5 := hx2.cell 5 (by simp)
  have k2_6 := hx2.cell 6 (by simp)
  have k2_7 := hx2.cell 7 (by simp)
  have fr2 := fun o => hx2.frozen o
  (try simp only [List.getElem_toArray, List.getElem_cons_zero, List.getElem_cons_succ] at k2_0)
  (try simp only [List.getElem_toArray, List.getElem_cons_zero, List.getElem_cons_succ] at k2_1)
  (try simp only [List.getElem_toArray, List.getElem_cons_zero, List.getElem_cons_succ] at k2_2)
  (try simp only [List.getElem_toArray, List.getElem_cons_zero, List.getElem_cons_succ] at k2_3)
  (try simp only [List.getElem_toArray, List.getElem_cons_zero, List.getElem_cons_succ] at k2_4)
  (try simp only [List.getElem_toArray, List.getElem_cons_zero, List.getElem_cons_succ] at k2_5)
  (try simp only [List.getElem_toArray, List.getElem_cons_zero, List.getElem_cons_succ] at k2_6)
  (try simp only [List.getElem_toArray, List.getElem_cons_zero, List.getElem_cons_succ] at k2_7)
  skip
  have HP0 := Lib.hid hx0
  clear hx0
  have HP1 := Lib.hid hx1
  clear hx1
  have HP2 := Lib.hid hx2
  clear hx2
  have HB1 := Lib.hid hb1
  clear hb1
  go_wp2
  apply bodyPost_row (g := w.heap.size + 1) rfl rfl Try.underlying128 rfl
  focus (repeat (first | (with_reducible exact HP0.out) | (with_reducible exact HP1.out) | (with_reducible exact HP2.out) | (with_reducible exact HP3.out) | (with_reducible exact HQ0.out) | (with_reducible exact HQ1.out) | (with_reducible exact HQ2.out) | (with_reducible exact HQ3.out) | (with_reducible apply Box.new) | (with_reducible apply Box.newAt; simp; done) | (with_reducible apply Box.set) | (with_reducible apply Box.skip; omega) | (with_reducible apply Box.alloc) | (with_reducible apply Box.drew) | (with_reducible apply Box.row) | (with_reducible apply Box.skipRow; omega)))
  focus (kernel_rfl)
  focus (rfl)
  try simp only [List.setIfInBounds_toArray, List.set_cons_zero, List.set_cons_succ]
  refine ⟨?_, ?_⟩
  · first | rfl | trivial | (simp; done)
  · repeat (first | ((with_reducible refine Below.setCell ?_ ?_ _); rotate_left; first | omega | (dsimp only; omega) | (simp; done) | (simp; omega)) | ((with_reducible refine below_setRow ?_ ?_ _); rotate_left; first | omega | (dsimp only; omega) | (simp; done) | (simp; omega)) | with_reducible exact Below.refl _ _ | with_reducible exact below_new _ | with_reducible exact below_drew | with_reducible exact HB9.out | with_reducible exact HB8.out | with_reducible exact HB7.out | with_reducible exact HB6.out | with_reducible exact HB5.out | with_reducible exact HB4.out | with_reducible exact HB3.out | with_reducible exact HB2.out | with_reducible exact HB1.out | (with_reducible apply below_comp; rotate_left; first | with_reducible exact HB9.out | with_reducible exact HB8.out | with_reducible exact HB7.out | with_reducible exact HB6.out | with_reducible exact HB5.out | with_reducible exact HB4.out | with_reducible exact HB3.out | with_reducible exact HB2.out | with_reducible exact HB1.out | with_reducible assumption | with_reducible exact below_new _ | with_reducible exact below_drew))
end Go.Proofs.Ythjajgpejfoghab
