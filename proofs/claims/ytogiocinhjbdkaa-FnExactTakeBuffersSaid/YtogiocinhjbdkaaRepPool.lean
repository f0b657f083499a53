/- Pool: what its values stand for; the laws' eq, mark, held. -/
import Derived.Test.YtogiocinhjbdkaaNestMath
import Derived.Test.YtogiocinhjbdkaaBoxes
import Derived.Test.YtogiocinhjbdkaaRowInt
namespace Go.Proofs.Ytogiocinhjbdkaa
open Go.RowKit
set_option linter.unusedSimpArgs false
set_option linter.unusedVariables false

structure PoolM where
  xBase : Int
  xSize : Int
  xCount : Int
  xFree : List Int
/-- How many marks it takes. -/
def PoolM.cnt (e : PoolM) : Nat := e.xFree.length * 1
/-- The marks from q on. -/
def PoolM.mkd (e : PoolM) (q : Nat) : PoolM := { e with xFree := intrMs (q) e.xFree.length }
/-- What a value of the type stands for; the blocks of S hold its rows. -/
def PoolM.Rep (W : World) (S : Nat → Prop) (e : PoolM) (v : Value) : Prop := ∃ (S3 : Nat → Prop) (v3 : Value), v = .agg #[.int .i64 e.xBase, .int .i64 e.xSize, .int .i64 e.xCount, v3] ∧ Row W S3 3 1 v3 (e.xFree.map intrA) ∧ (∀ k, S3 k → S k)
theorem PoolM.Rep.keep {W W' : World} {S : Nat → Prop} {e : PoolM} {v : Value} (h : PoolM.Rep W S e v) (hk : ∀ b, S b → b < W.heap.size → W'.heap[b]? = W.heap[b]?) : PoolM.Rep W' S e v := by
  obtain ⟨S3, v3, rfl, R3, hS3⟩ := h
  exact ⟨S3, _, rfl, R3.keep (fun b hb hl => hk b (hS3 b hb) hl), hS3⟩
theorem PoolM.Rep.later {W W' : World} {S : Nat → Prop} {e : PoolM} {v : Value} (h : PoolM.Rep W S e v) (hb : Below W.heap.size W W') : PoolM.Rep W' S e v := h.keep fun b _ hl => hb.block b hl
theorem PoolM.Rep.touch {W W' : World} {S : Nat → Prop} {e : PoolM} {v : Value} {S' : Nat → Prop} (h : PoolM.Rep W S e v) (ht : Touch W W' S') (hd : ∀ k, S k → ¬ S' k) : PoolM.Rep W' S e v := h.keep fun b hS hl => ht.block b hl (hd b hS)
theorem PoolM.Rep.mono {W W' : World} {S : Nat → Prop} {e : PoolM} {v : Value} {S' : Nat → Prop} (h : PoolM.Rep W S e v) (hS : ∀ k, S k → S' k) : PoolM.Rep W S' e v := by
  obtain ⟨S3, v3, rfl, R3, hS3⟩ := h
  exact ⟨S3, _, rfl, R3, fun k hk => hS k (hS3 k hk)⟩
set_option maxHeartbeats 4000000 in
set_option maxRecDepth 100000 in
theorem eq_pool (w : World) (Sa Sb : Nat → Prop) (e : PoolM) (va vb : Value) (hn0 : e.xFree.length ≤ 2097152) (ha : PoolM.Rep w Sa e va) (hb : PoolM.Rep w Sb e vb) :
    Calls Try.prog 36 #[va, vb] w fun r w' => r = .returned (.bool true) ∧ Below w.heap.size w w' := by
  obtain ⟨S3x, v3x, rfl, R3x, hS3x⟩ := ha
  obtain ⟨a3x, n3x, p3x, rfl⟩ := R3x.form
  obtain ⟨S3y, v3y, rfl, R3y, hS3y⟩ := hb
  obtain ⟨a3y, n3y, p3y, rfl⟩ := R3y.form
  have HX3 := Lib.hid R3x
  have HY3 := Lib.hid R3y
  have HC : True := trivial
  clear R3x R3y
  go_enter Try.func36, Try.ntmps36
  go_wp2_with fail
  refine (eq_intrs _ _ _ _ _ _ _ e.xFree (by have := hn0; omega) (HX3.out.later (by repeat (first | ((with_reducible refine Below.setCell ?_ ?_ _); rotate_left; first | omega | (dsimp only; omega) | (simp; done) | (simp; omega)) | ((with_reducible refine below_setRow ?_ ?_ _); rotate_left; first | omega | (dsimp only; omega) | (simp; done) | (simp; omega)) | with_reducible exact Below.refl _ _ | with_reducible exact below_new _ | with_reducible exact below_drew | with_reducible exact HB9.out | with_reducible exact HB8.out | with_reducible exact HB7.out | with_reducible exact HB6.out | with_reducible exact HB5.out | with_reducible exact HB4.out | with_reducible exact HB3.out | with_reducible exact HB2.out | with_reducible exact HB1.out | (with_reducible apply below_comp; rotate_left; first | with_reducible exact HB9.out | with_reducible exact HB8.out | with_reducible exact HB7.out | with_reducible exact HB6.out | with_reducible exact HB5.out | with_reducible exact HB4.out | with_reducible exact HB3.out | with_reducible exact HB2.out | with_reducible exact HB1.out | with_reducible assumption | with_reducible exact below_new _ | with_reducible exact below_drew)))) (HY3.out.later (by repeat (first | ((with_reducible refine Below.setCell ?_ ?_ _); rotate_left; first | omega | (dsimp only; omega) | (simp; done) | (simp; omega)) | ((with_reducible refine below_setRow ?_ ?_ _); rotate_left; first | omega | (dsimp only; omega) | (simp; done) | (simp; omega)) | with_reducible exact Below.refl _ _ | with_reducible exact below_new _ | with_reducible exact below_drew | with_reducible exact HB9.out | with_reducible exact HB8.out | with_reducible exact HB7.out | with_reducible exact HB6.out | with_reducible exact HB5.out | with_reducible exact HB4.out | with_reducible exact HB3.out | with_reducible exact HB2.out | with_reducible exact HB1.out | (with_reducible apply below_comp; rotate_left; first | with_reducible exact HB9.out | with_reducible exact HB8.out | with_reducible exact HB7.out | with_reducible exact HB6.out | with_reducible exact HB5.out | with_reducible exact HB4.out | with_reducible exact HB3.out | with_reducible exact HB2.out | with_reducible exact HB1.out | with_reducible assumption | with_reducible exact below_new _ | with_reducible exact below_drew))))).mono ?_
  rintro r w1 ⟨rfl, hb1⟩
  have hz1 := hb1.size
  (try simp at hz1)
  (have hl0 : w.heap.size < w1.heap.size := by omega)
  (have hl1 : w.heap.size + 1 < w1.heap.size := by omega)
  (apply with_box hb1 (g := w.heap.size))
  (focus (repeat (first | (with_reducible exact HP0.out) | (with_reducible exact HP1.out) | (with_reducible exact HP2.out) | (with_reducible exact HP3.out) | (with_reducible exact HQ0.out) | (with_reducible exact HQ1.out) | (with_reducible exact HQ2.out) | (with_reducible exact HQ3.out) | (with_reducible apply Box.new) | (with_reducible apply Box.newAt; simp; done) | (with_reducible apply Box.set) | (with_reducible apply Box.skip; omega) | (with_reducible apply Box.alloc) | (with_reducible apply Box.drew) | (with_reducible apply Box.row) | (with_reducible apply Box.skipRow; omega))))
  intro hx0
  (try simp only [List.setIfInBounds_toArray, List.set_cons_zero, List.set_cons_succ] at hx0)
  have k0_0 := hx0.cell 0 (by simp)
  have k0_1 := hx0.cell 1 (by simp)
  have k0_2 := hx0.cell 2 (by simp)
  have k0_3 := hx0.cell 3 (by simp)
  have fr0 := fun o => hx0.frozen o
  (try simp only [List.getElem_toArray, List.getElem_cons_zero, List.getElem_cons_succ] at k0_0)
  (try simp only [List.getElem_toArray, List.getElem_cons_zero, List.getElem_cons_succ] at k0_1)
  (try simp only [List.getElem_toArray, List.getElem_cons_zero, List.getElem_cons_succ] at k0_2)
  (try simp only [List.getElem_toArray, List.getElem_cons_zero, List.getElem_cons_succ] at k0_3)
  (apply with_box hb1 (g := w.heap.size + 1))
  (focus (repeat (first | (with_reducible exact HP0.out) | (with_reducible exact HP1.out) | (with_reducible exact HP2.out) | (with_reducible exact HP3.out) | (with_reducible exact HQ0.out) | (with_reducible exact HQ1.out) | (with_reducible exact HQ2.out) | (with_reducible exact HQ3.out) | (with_reducible apply Box.new) | (with_reducible apply Box.newAt; simp; done) | (with_reducible apply Box.set) | (with_reducible apply Box.skip; omega) | (with_reducible apply Box.alloc) | (with_reducible apply Box.drew) | (with_reducible apply Box.row) | (with_reducible apply Box.skipRow; omega))))
  intro hx1
  (try simp only [List.setIfInBounds_toArray, List.set_cons_zero, List.set_cons_succ] at hx1)
  have k1_0 := hx1.cell 0 (by simp)
  have k1_1 := hx1.cell 1 (by simp)
  have k1_2 := hx1.cell 2 (by simp)
  have k1_3 := hx1.cell 3 (by simp)
  have fr1 := fun o => hx1.frozen o
  (try simp only [List.getElem_toArray, List.getElem_cons_zero, List.getElem_cons_succ] at k1_0)
  (try simp only [List.getElem_toArray, List.getElem_cons_zero, List.getElem_cons_succ] at k1_1)
  (try simp only [List.getElem_toArray, List.getElem_cons_zero, List.getElem_cons_succ] at k1_2)
  (try simp only [List.getElem_toArray, List.getElem_cons_zero, List.getElem_cons_succ] at k1_3)
  skip
  have HP0 := Lib.hid hx0
  clear hx0
  have HP1 := Lib.hid hx1
  clear hx1
  have HB1 := Lib.hid hb1
  clear hb1
  go_wp2
  go_ret
  refine ⟨rfl, ?_⟩
  repeat (first | ((with_reducible refine Below.setCell ?_ ?_ _); rotate_left; first | omega | (dsimp only; omega) | (simp; done) | (simp; omega)) | ((with_reducible refine below_setRow ?_ ?_ _); rotate_left; first | omega | (dsimp only; omega) | (simp; done) | (simp; omega)) | with_reducible exact Below.refl _ _ | with_reducible exact below_new _ | with_reducible exact below_drew | with_reducible exact HB9.out | with_reducible exact HB8.out | with_reducible exact HB7.out | with_reducible exact HB6.out | with_reducible exact HB5.out | with_reducible exact HB4.out | with_reducible exact HB3.out | with_reducible exact HB2.out | with_reducible exact HB1.out | (with_reducible apply below_comp; rotate_left; first | with_reducible exact HB9.out | with_reducible exact HB8.out | with_reducible exact HB7.out | with_reducible exact HB6.out | with_reducible exact HB5.out | with_reducible exact HB4.out | with_reducible exact HB3.out | with_reducible exact HB2.out | with_reducible exact HB1.out | with_reducible assumption | with_reducible exact below_new _ | with_reducible exact below_drew))
set_option maxHeartbeats 4000000 in
set_option maxRecDepth 100000 in
theorem mark_pool (w : World) (S : Nat → Prop) (q : Nat) (e : PoolM) (v : Value) (hn0 : e.xFree.length ≤ 2097152) (hq1 : 1 ≤ q) (hq : q + e.cnt ≤ 500000000) (hS : ∀ k, S k → k < w.heap.size) (h : PoolM.Rep w S e v) :
    Calls Try.prog 38 #[v, .int .i64 q] w fun r w' => r = .returned (.int .i64 ((q + e.cnt : Nat) : Int)) ∧ PoolM.Rep w' S (e.mkd q) v ∧ Touch w w' S := by
  obtain ⟨S3x, v3x, rfl, R3x, hS3x⟩ := h
  obtain ⟨a3x, n3x, p3x, rfl⟩ := R3x.form
  unfold PoolM.cnt PoolM.mkd at *
  try dsimp only at *
  have HX3 := Lib.hid R3x
  clear R3x
  go_enter Try.func38, Try.ntmps38
  go_wp2_with fail
  refine (mark_intrs _ S3x (q) _ e.xFree (by have := hn0; omega) (by omega) (by omega) (HX3.out.keep (fun b hb hl => by exact (show Below w.heap.size w _ by repeat (first | ((with_reducible refine Below.setCell ?_ ?_ _); rotate_left; first | omega | (dsimp only; omega) | (simp; done) | (simp; omega)) | ((with_reducible refine below_setRow ?_ ?_ _); rotate_left; first | omega | (dsimp only; omega) | (simp; done) | (simp; omega)) | with_reducible exact Below.refl _ _ | with_reducible exact below_new _ | with_reducible exact below_drew | with_reducible exact HB9.out | with_reducible exact HB8.out | with_reducible exact HB7.out | with_reducible exact HB6.out | with_reducible exact HB5.out | with_reducible exact HB4.out | with_reducible exact HB3.out | with_reducible exact HB2.out | with_reducible exact HB1.out | (with_reducible apply below_comp; rotate_left; first | with_reducible exact HB9.out | with_reducible exact HB8.out | with_reducible exact HB7.out | with_reducible exact HB6.out | with_reducible exact HB5.out | with_reducible exact HB4.out | with_reducible exact HB3.out | with_reducible exact HB2.out | with_reducible exact HB1.out | with_reducible assumption | with_reducible exact below_new _ | with_reducible exact below_drew))).block b hl))).mono ?_
  rintro r w1 ⟨rfl, hR3, ht1⟩
  have hg0 : ¬ S3x w.heap.size := fun hh => by have := hS _ (hS3x _ hh); omega
  have HR3 := Lib.hid hR3
  clear hR3
  go_wp2
  go_ret
  refine ⟨by first | rfl | (simp; done) | (congr 2; omega), ⟨S3x, _, rfl, HR3.out, hS3x⟩, ?_⟩
  exact (Touch.of_below (below_new _)).trans (ht1.wider hS3x)
set_option maxHeartbeats 4000000 in
set_option maxRecDepth 100000 in
theorem held_pool (w : World) (S : Nat → Prop) (q : Nat) (e : PoolM) (v : Value) (hn0 : e.xFree.length ≤ 2097152) (hq1 : 1 ≤ q) (hq : q + e.cnt ≤ 500000000) (h : PoolM.Rep w S (e.mkd q) v) :
    Calls Try.prog 40 #[v, .int .i64 q] w fun r w' => r = .returned (.int .i64 ((q + e.cnt : Nat) : Int)) ∧ Below w.heap.size w w' := by
  obtain ⟨S3x, v3x, rfl, R3x, hS3x⟩ := h
  obtain ⟨a3x, n3x, p3x, rfl⟩ := R3x.form
  unfold PoolM.cnt at *
  unfold PoolM.mkd at R3x
  try dsimp only at R3x
  have HX3 := Lib.hid R3x
  clear R3x
  unfold PoolM.mkd at *
  try dsimp only at *
  go_enter Try.func40, Try.ntmps40
  go_wp2_with fail
  refine (held_intrs _ S3x (q) e.xFree.length _ _ (by have := hn0; omega) (by omega) (by omega) (HX3.out.later (by repeat (first | ((with_reducible refine Below.setCell ?_ ?_ _); rotate_left; first | omega | (dsimp only; omega) | (simp; done) | (simp; omega)) | ((with_reducible refine below_setRow ?_ ?_ _); rotate_left; first | omega | (dsimp only; omega) | (simp; done) | (simp; omega)) | with_reducible exact Below.refl _ _ | with_reducible exact below_new _ | with_reducible exact below_drew | with_reducible exact HB9.out | with_reducible exact HB8.out | with_reducible exact HB7.out | with_reducible exact HB6.out | with_reducible exact HB5.out | with_reducible exact HB4.out | with_reducible exact HB3.out | with_reducible exact HB2.out | with_reducible exact HB1.out | (with_reducible apply below_comp; rotate_left; first | with_reducible exact HB9.out | with_reducible exact HB8.out | with_reducible exact HB7.out | with_reducible exact HB6.out | with_reducible exact HB5.out | with_reducible exact HB4.out | with_reducible exact HB3.out | with_reducible exact HB2.out | with_reducible exact HB1.out | with_reducible assumption | with_reducible exact below_new _ | with_reducible exact below_drew))))).mono ?_
  rintro r w1 ⟨rfl, hb1⟩
  have hz1 := hb1.size
  (try simp at hz1)
  (have hl0 : w.heap.size < w1.heap.size := by omega)
  (apply with_box hb1 (g := w.heap.size))
  (focus (repeat (first | (with_reducible exact HP0.out) | (with_reducible exact HP1.out) | (with_reducible exact HP2.out) | (with_reducible exact HP3.out) | (with_reducible exact HQ0.out) | (with_reducible exact HQ1.out) | (with_reducible exact HQ2.out) | (with_reducible exact HQ3.out) | (with_reducible apply Box.new) | (with_reducible apply Box.newAt; simp; done) | (with_reducible apply Box.set) | (with_reducible apply Box.skip; omega) | (with_reducible apply Box.alloc) | (with_reducible apply Box.drew) | (with_reducible apply Box.row) | (with_reducible apply Box.skipRow; omega))))
  intro hx0
  (try simp only [List.setIfInBounds_toArray, List.set_cons_zero, List.set_cons_succ] at hx0)
  have k0_0 := hx0.cell 0 (by simp)
  have k0_1 := hx0.cell 1 (by simp)
  have k0_2 := hx0.cell 2 (by simp)
  have k0_3 := hx0.cell 3 (by simp)
  have fr0 := fun o => hx0.frozen o
  (try simp only [List.getElem_toArray, List.getElem_cons_zero, List.getElem_cons_succ] at k0_0)
  (try simp only [List.getElem_toArray, List.getElem_cons_zero, List.getElem_cons_succ] at k0_1)
  (try simp only [List.getElem_toArray, List.getElem_cons_zero, List.getElem_cons_succ] at k0_2)
  (try simp only [List.getElem_toArray, List.getElem_cons_zero, List.getElem_cons_succ] at k0_3)
  skip
  have HP0 := Lib.hid hx0
  clear hx0
  have HB1 := Lib.hid hb1
  clear hb1
  have hq_1 : ¬ ((q + e.xFree.length * 1 : Nat) : Int) < 0 := by omega
  go_wp2
  go_ret
  refine ⟨by first | rfl | (simp; done) | (congr 2; omega), ?_⟩
  repeat (first | ((with_reducible refine Below.setCell ?_ ?_ _); rotate_left; first | omega | (dsimp only; omega) | (simp; done) | (simp; omega)) | ((with_reducible refine below_setRow ?_ ?_ _); rotate_left; first | omega | (dsimp only; omega) | (simp; done) | (simp; omega)) | with_reducible exact Below.refl _ _ | with_reducible exact below_new _ | with_reducible exact below_drew | with_reducible exact HB9.out | with_reducible exact HB8.out | with_reducible exact HB7.out | with_reducible exact HB6.out | with_reducible exact HB5.out | with_reducible exact HB4.out | with_reducible exact HB3.out | with_reducible exact HB2.out | with_reducible exact HB1.out | (with_reducible apply below_comp; rotate_left; first | with_reducible exact HB9.out | with_reducible exact HB8.out | with_reducible exact HB7.out | with_reducible exact HB6.out | with_reducible exact HB5.out | with_reducible exact HB4.out | with_reducible exact HB3.out | with_reducible exact HB2.out | with_reducible exact HB1.out | with_reducible assumption | with_reducible exact below_new _ | with_reducible exact below_drew))
end Go.Proofs.Ytogiocinhjbdkaa
