/- Spread: what its values stand for; the laws' eq, mark, held. -/
import Derived.Test.YtogiocinhjbdkaaNestMath
import Derived.Test.YtogiocinhjbdkaaBoxes
import Derived.Test.YtogiocinhjbdkaaRowInt
namespace Go.Proofs.Ytogiocinhjbdkaa
open Go.RowKit
set_option linter.unusedSimpArgs false
set_option linter.unusedVariables false

structure SpreadM where
  xKey : ByteArray
  xTable : List Int
/-- How many marks it takes. -/
def SpreadM.cnt (e : SpreadM) : Nat := e.xTable.length * 1
/-- The marks from q on. -/
def SpreadM.mkd (e : SpreadM) (q : Nat) : SpreadM := { e with xTable := intrMs (q) e.xTable.length }
/-- What a value of the type stands for; the blocks of S hold its rows. -/
def SpreadM.Rep (W : World) (S : Nat → Prop) (e : SpreadM) (v : Value) : Prop := ∃ (S1 : Nat → Prop) (v1 : Value), v = .agg #[.string e.xKey, v1] ∧ Row W S1 3 1 v1 (e.xTable.map intrA) ∧ (∀ k, S1 k → S k)
theorem SpreadM.Rep.keep {W W' : World} {S : Nat → Prop} {e : SpreadM} {v : Value} (h : SpreadM.Rep W S e v) (hk : ∀ b, S b → b < W.heap.size → W'.heap[b]? = W.heap[b]?) : SpreadM.Rep W' S e v := by
  obtain ⟨S1, v1, rfl, R1, hS1⟩ := h
  exact ⟨S1, _, rfl, R1.keep (fun b hb hl => hk b (hS1 b hb) hl), hS1⟩
theorem SpreadM.Rep.later {W W' : World} {S : Nat → Prop} {e : SpreadM} {v : Value} (h : SpreadM.Rep W S e v) (hb : Below W.heap.size W W') : SpreadM.Rep W' S e v := h.keep fun b _ hl => hb.block b hl
theorem SpreadM.Rep.touch {W W' : World} {S : Nat → Prop} {e : SpreadM} {v : Value} {S' : Nat → Prop} (h : SpreadM.Rep W S e v) (ht : Touch W W' S') (hd : ∀ k, S k → ¬ S' k) : SpreadM.Rep W' S e v := h.keep fun b hS hl => ht.block b hl (hd b hS)
theorem SpreadM.Rep.mono {W W' : World} {S : Nat → Prop} {e : SpreadM} {v : Value} {S' : Nat → Prop} (h : SpreadM.Rep W S e v) (hS : ∀ k, S k → S' k) : SpreadM.Rep W S' e v := by
  obtain ⟨S1, v1, rfl, R1, hS1⟩ := h
  exact ⟨S1, _, rfl, R1, fun k hk => hS k (hS1 k hk)⟩
set_option maxHeartbeats 4000000 in
set_option maxRecDepth 100000 in
theorem eq_spread (w : World) (Sa Sb : Nat → Prop) (e : SpreadM) (va vb : Value) (hn0 : e.xTable.length ≤ 2097152) (ha : SpreadM.Rep w Sa e va) (hb : SpreadM.Rep w Sb e vb) :
    Calls Try.prog 49 #[va, vb] w fun r w' => r = .returned (.bool true) ∧ Below w.heap.size w w' := by
  obtain ⟨S1x, v1x, rfl, R1x, hS1x⟩ := ha
  obtain ⟨a1x, n1x, p1x, rfl⟩ := R1x.form
  obtain ⟨S1y, v1y, rfl, R1y, hS1y⟩ := hb
  obtain ⟨a1y, n1y, p1y, rfl⟩ := R1y.form
  have HX1 := Lib.hid R1x
  have HY1 := Lib.hid R1y
  have HC : True := trivial
  clear R1x R1y
  go_enter Try.func49, Try.ntmps49
  go_wp2_with fail
  refine (eq_intrs _ _ _ _ _ _ _ e.xTable (by have := hn0; omega) (HX1.out.later (by repeat (first | ((with_reducible refine Below.setCell ?_ ?_ _); rotate_left; first | omega | (dsimp only; omega) | (simp; done) | (simp; omega)) | ((with_reducible refine below_setRow ?_ ?_ _); rotate_left; first | omega | (dsimp only; omega) | (simp; done) | (simp; omega)) | with_reducible exact Below.refl _ _ | with_reducible exact below_new _ | with_reducible exact below_drew | with_reducible exact HB9.out | with_reducible exact HB8.out | with_reducible exact HB7.out | with_reducible exact HB6.out | with_reducible exact HB5.out | with_reducible exact HB4.out | with_reducible exact HB3.out | with_reducible exact HB2.out | with_reducible exact HB1.out | (with_reducible apply below_comp; rotate_left; first | with_reducible exact HB9.out | with_reducible exact HB8.out | with_reducible exact HB7.out | with_reducible exact HB6.out | with_reducible exact HB5.out | with_reducible exact HB4.out | with_reducible exact HB3.out | with_reducible exact HB2.out | with_reducible exact HB1.out | with_reducible assumption | with_reducible exact below_new _ | with_reducible exact below_drew)))) (HY1.out.later (by repeat (first | ((with_reducible refine Below.setCell ?_ ?_ _); rotate_left; first | omega | (dsimp only; omega) | (simp; done) | (simp; omega)) | ((with_reducible refine below_setRow ?_ ?_ _); rotate_left; first | omega | (dsimp only; omega) | (simp; done) | (simp; omega)) | with_reducible exact Below.refl _ _ | with_reducible exact below_new _ | with_reducible exact below_drew | with_reducible exact HB9.out | with_reducible exact HB8.out | with_reducible exact HB7.out | with_reducible exact HB6.out | with_reducible exact HB5.out | with_reducible exact HB4.out | with_reducible exact HB3.out | with_reducible exact HB2.out | with_reducible exact HB1.out | (with_reducible apply below_comp; rotate_left; first | with_reducible exact HB9.out | with_reducible exact HB8.out | with_reducible exact HB7.out | with_reducible exact HB6.out | with_reducible exact HB5.out | with_reducible exact HB4.out | with_reducible exact HB3.out | with_reducible exact HB2.out | with_reducible exact HB1.out | with_reducible assumption | with_reducible exact below_new _ | with_reducible exact below_drew))))).mono ?_
  rintro r w1 ⟨rfl, hb1⟩
  have hz1 := hb1.size
  (try simp at hz1)
  (have hl0 : w.heap.size < w1.heap.size := by omega)
  (have hl1 : w.heap.size + 1 < w1.heap.size := by omega)
  (apply with_box hb1 (g := w.heap.size))
  (focus (repeat (first | (with_reducible exact HP0.out) | (with_reducible exact HP1.out) | (with_reducible exact HP2.out) | (with_reducible exact HP3.out) | (with_reducible exact HQ0.out) | (with_reducible exact HQ1.out) | (with_reducible exact HQ2.out) | (with_reducible exact HQ3.out) | (with_reducible apply Box.new) | (with_reducible apply Box.newAt; simp; done) | (with_reducible apply Box.set) | (with_reducible apply Box.skip; omega) | (with_reducible apply Box.alloc) | (with_reducible apply Box.drew) | (with_reducible apply Box.row) | (with_reducible apply Box.skipRow; omega))))
  intro hx0
  (try simp only [List.setIfInBounds_toArray, List.set_cons_zero, List.set_cons_succ] at hx0)
  have k0_0 := hx0.cell 0 (by simp)
  have k0_1 := hx0.cell 1 (by simp)
  have fr0 := fun o => hx0.frozen o
  (try simp only [List.getElem_toArray, List.getElem_cons_zero, List.getElem_cons_succ] at k0_0)
  (try simp only [List.getElem_toArray, List.getElem_cons_zero, List.getElem_cons_succ] at k0_1)
  (apply with_box hb1 (g := w.heap.size + 1))
  (focus (repeat (first | (with_reducible exact HP0.out) | (with_reducible exact HP1.out) | (with_reducible exact HP2.out) | (with_reducible exact HP3.out) | (with_reducible exact HQ0.out) | (with_reducible exact HQ1.out) | (with_reducible exact HQ2.out) | (with_reducible exact HQ3.out) | (with_reducible apply Box.new) | (with_reducible apply Box.newAt; simp; done) | (with_reducible apply Box.set) | (with_reducible apply Box.skip; omega) | (with_reducible apply Box.alloc) | (with_reducible apply Box.drew) | (with_reducible apply Box.row) | (with_reducible apply Box.skipRow; omega))))
  intro hx1
  (try simp only [List.setIfInBounds_toArray, List.set_cons_zero, List.set_cons_succ] at hx1)
  have k1_0 := hx1.cell 0 (by simp)
  have k1_1 := hx1.cell 1 (by simp)
  have fr1 := fun o => hx1.frozen o
  (try simp only [List.getElem_toArray, List.getElem_cons_zero, List.getElem_cons_succ] at k1_0)
  (try simp only [List.getElem_toArray, List.getElem_cons_zero, List.getElem_cons_succ] at k1_1)
  skip
  have HP0 := Lib.hid hx0
  clear hx0
  have HP1 := Lib.hid hx1
  clear hx1
  have HB1 := Lib.hid hb1
  clear hb1
  go_wp2
  go_ret
  refine ⟨rfl, ?_⟩
  repeat (first | ((with_reducible refine Below.setCell ?_ ?_ _); rotate_left; first | omega | (dsimp only; omega) | (simp; done) | (simp; omega)) | ((with_reducible refine below_setRow ?_ ?_ _); rotate_left; first | omega | (dsimp only; omega) | (simp; done) | (simp; omega)) | with_reducible exact Below.refl _ _ | with_reducible exact below_new _ | with_reducible exact below_drew | with_reducible exact HB9.out | with_reducible exact HB8.out | with_reducible exact HB7.out | with_reducible exact HB6.out | with_reducible exact HB5.out | with_reducible exact HB4.out | with_reducible exact HB3.out | with_reducible exact HB2.out | with_reducible exact HB1.out | (with_reducible apply below_comp; rotate_left; first | with_reducible exact HB9.out | with_reducible exact HB8.out | with_reducible exact HB7.out | with_reducible exact HB6.out | with_reducible exact HB5.out | with_reducible exact HB4.out | with_reducible exact HB3.out | with_reducible exact HB2.out | with_reducible exact HB1.out | with_reducible assumption | with_reducible exact below_new _ | with_reducible exact below_drew))
set_option maxHeartbeats 4000000 in
set_option maxRecDepth 100000 in
theorem mark_spread (w : World) (S : Nat → Prop) (q : Nat) (e : SpreadM) (v : Value) (hn0 : e.xTable.length ≤ 2097152) (hq1 : 1 ≤ q) (hq : q + e.cnt ≤ 500000000) (hS : ∀ k, S k → k < w.heap.size) (h : SpreadM.Rep w S e v) :
    Calls Try.prog 50 #[v, .int .i64 q] w fun r w' => r = .returned (.int .i64 ((q + e.cnt : Nat) : Int)) ∧ SpreadM.Rep w' S (e.mkd q) v ∧ Touch w w' S := by
  obtain ⟨S1x, v1x, rfl, R1x, hS1x⟩ := h
  obtain ⟨a1x, n1x, p1x, rfl⟩ := R1x.form
  unfold SpreadM.cnt SpreadM.mkd at *
  try dsimp only at *
  have HX1 := Lib.hid R1x
  clear R1x
  go_enter Try.func50, Try.ntmps50
  go_wp2_with fail
  refine (mark_intrs _ S1x (q) _ e.xTable (by have := hn0; omega) (by omega) (by omega) (HX1.out.keep (fun b hb hl => by exact (show Below w.heap.size w _ by repeat (first | ((with_reducible refine Below.setCell ?_ ?_ _); rotate_left; first | omega | (dsimp only; omega) | (simp; done) | (simp; omega)) | ((with_reducible refine below_setRow ?_ ?_ _); rotate_left; first | omega | (dsimp only; omega) | (simp; done) | (simp; omega)) | with_reducible exact Below.refl _ _ | with_reducible exact below_new _ | with_reducible exact below_drew | with_reducible exact HB9.out | with_reducible exact HB8.out | with_reducible exact HB7.out | with_reducible exact HB6.out | with_reducible exact HB5.out | with_reducible exact HB4.out | with_reducible exact HB3.out | with_reducible exact HB2.out | with_reducible exact HB1.out | (with_reducible apply below_comp; rotate_left; first | with_reducible exact HB9.out | with_reducible exact HB8.out | with_reducible exact HB7.out | with_reducible exact HB6.out | with_reducible exact HB5.out | with_reducible exact HB4.out | with_reducible exact HB3.out | with_reducible exact HB2.out | with_reducible exact HB1.out | with_reducible assumption | with_reducible exact below_new _ | with_reducible exact below_drew))).block b hl))).mono ?_
  rintro r w1 ⟨rfl, hR1, ht1⟩
  have hg0 : ¬ S1x w.heap.size := fun hh => by have := hS _ (hS1x _ hh); omega
  have HR1 := Lib.hid hR1
  clear hR1
  go_wp2
  go_ret
  refine ⟨by first | rfl | (simp; done) | (congr 2; omega), ⟨S1x, _, rfl, HR1.out, hS1x⟩, ?_⟩
  exact (Touch.of_below (below_new _)).trans (ht1.wider hS1x)
set_option maxHeartbeats 4000000 in
set_option maxRecDepth 100000 in
theorem held_spread (w : World) (S : Nat → Prop) (q : Nat) (e : SpreadM) (v : Value) (hn0 : e.xTable.length ≤ 2097152) (hq1 : 1 ≤ q) (hq : q + e.cnt ≤ 500000000) (h : SpreadM.Rep w S (e.mkd q) v) :
    Calls Try.prog 51 #[v, .int .i64 q] w fun r w' => r = .returned (.int .i64 ((q + e.cnt : Nat) : Int)) ∧ Below w.heap.size w w' := by
  obtain ⟨S1x, v1x, rfl, R1x, hS1x⟩ := h
  obtain ⟨a1x, n1x, p1x, rfl⟩ := R1x.form
  unfold SpreadM.cnt at *
  unfold SpreadM.mkd at R1x
  try dsimp only at R1x
  have HX1 := Lib.hid R1x
  clear R1x
  unfold SpreadM.mkd at *
  try dsimp only at *
  go_enter Try.func51, Try.ntmps51
  go_wp2_with fail
  refine (held_intrs _ S1x (q) e.xTable.length _ _ (by have := hn0; omega) (by omega) (by omega) (HX1.out.later (by repeat (first | ((with_reducible refine Below.setCell ?_ ?_ _); rotate_left; first | omega | (dsimp only; omega) | (simp; done) | (simp; omega)) | ((with_reducible refine below_setRow ?_ ?_ _); rotate_left; first | omega | (dsimp only; omega) | (simp; done) | (simp; omega)) | with_reducible exact Below.refl _ _ | with_reducible exact below_new _ | with_reducible exact below_drew | with_reducible exact HB9.out | with_reducible exact HB8.out | with_reducible exact HB7.out | with_reducible exact HB6.out | with_reducible exact HB5.out | with_reducible exact HB4.out | with_reducible exact HB3.out | with_reducible exact HB2.out | with_reducible exact HB1.out | (with_reducible apply below_comp; rotate_left; first | with_reducible exact HB9.out | with_reducible exact HB8.out | with_reducible exact HB7.out | with_reducible exact HB6.out | with_reducible exact HB5.out | with_reducible exact HB4.out | with_reducible exact HB3.out | with_reducible exact HB2.out | with_reducible exact HB1.out | with_reducible assumption | with_reducible exact below_new _ | with_reducible exact below_drew))))).mono ?_
  rintro r w1 ⟨rfl, hb1⟩
  have hz1 := hb1.size
  (try simp at hz1)
  (have hl0 : w.heap.size < w1.heap.size := by omega)
  (apply with_box hb1 (g := w.heap.size))
  (focus (repeat (first | (with_reducible exact HP0.out) | (with_reducible exact HP1.out) | (with_reducible exact HP2.out) | (with_reducible exact HP3.out) | (with_reducible exact HQ0.out) | (with_reducible exact HQ1.out) | (with_reducible exact HQ2.out) | (with_reducible exact HQ3.out) | (with_reducible apply Box.new) | (with_reducible apply Box.newAt; simp; done) | (with_reducible apply Box.set) | (with_reducible apply Box.skip; omega) | (with_reducible apply Box.alloc) | (with_reducible apply Box.drew) | (with_reducible apply Box.row) | (with_reducible apply Box.skipRow; omega))))
  intro hx0
  (try simp only [List.setIfInBounds_toArray, List.set_cons_zero, List.set_cons_succ] at hx0)
  have k0_0 := hx0.cell 0 (by simp)
  have k0_1 := hx0.cell 1 (by simp)
  have fr0 := fun o => hx0.frozen o
  (try simp only [List.getElem_toArray, List.getElem_cons_zero, List.getElem_cons_succ] at k0_0)
  (try simp only [List.getElem_toArray, List.getElem_cons_zero, List.getElem_cons_succ] at k0_1)
  skip
  have HP0 := Lib.hid hx0
  clear hx0
  have HB1 := Lib.hid hb1
  clear hb1
  have hq_1 : ¬ ((q + e.xTable.length * 1 : Nat) : Int) < 0 := by omega
  go_wp2
  go_ret
  refine ⟨by first | rfl | (simp; done) | (congr 2; omega), ?_⟩
  repeat (first | ((with_reducible refine Below.setCell ?_ ?_ _); rotate_left; first | omega | (dsimp only; omega) | (simp; done) | (simp; omega)) | ((with_reducible refine below_setRow ?_ ?_ _); rotate_left; first | omega | (dsimp only; omega) | (simp; done) | (simp; omega)) | with_reducible exact Below.refl _ _ | with_reducible exact below_new _ | with_reducible exact below_drew | with_reducible exact HB9.out | with_reducible exact HB8.out | with_reducible exact HB7.out | with_reducible exact HB6.out | with_reducible exact HB5.out | with_reducible exact HB4.out | with_reducible exact HB3.out | with_reducible exact HB2.out | with_reducible exact HB1.out | (with_reducible apply below_comp; rotate_left; first | with_reducible exact HB9.out | with_reducible exact HB8.out | with_reducible exact HB7.out | with_reducible exact HB6.out | with_reducible exact HB5.out | with_reducible exact HB4.out | with_reducible exact HB3.out | with_reducible exact HB2.out | with_reducible exact HB1.out | with_reducible assumption | with_reducible exact below_new _ | with_reducible exact below_drew))
end Go.Proofs.Ytogiocinhjbdkaa
