/- Filter: what its values stand for; the laws' eq, mark, held. -/
import Derived.Test.YthjajgpejfoghabNestMath
import Derived.Test.YthjajgpejfoghabBoxes
import Derived.Test.YthjajgpejfoghabRowInt
namespace Go.Proofs.Ythjajgpejfoghab
open Go.RowKit
set_option linter.unusedSimpArgs false
set_option linter.unusedVariables false

structure FilterM where
  xMac : Int
  xPromiscuous : Bool
  xVlans : List Int
/-- How many marks it takes. -/
def FilterM.cnt (e : FilterM) : Nat := e.xVlans.length * 1
/-- The marks from q on. -/
def FilterM.mkd (e : FilterM) (q : Nat) : FilterM := { e with xVlans := intrMs (q) e.xVlans.length }
/-- What a value of the type stands for; the blocks of S hold its rows. -/
def FilterM.Rep (W : World) (S : Nat → Prop) (e : FilterM) (v : Value) : Prop := ∃ (S2 : Nat → Prop) (v2 : Value), v = .agg #[.int .i64 e.xMac, .bool e.xPromiscuous, v2] ∧ Row W S2 3 1 v2 (e.xVlans.map intrA) ∧ (∀ k, S2 k → S k)
theorem FilterM.Rep.keep {W W' : World} {S : Nat → Prop} {e : FilterM} {v : Value} (h : FilterM.Rep W S e v) (hk : ∀ b, S b → b < W.heap.size → W'.heap[b]? = W.heap[b]?) : FilterM.Rep W' S e v := by
  obtain ⟨S2, v2, rfl, R2, hS2⟩ := h
  exact ⟨S2, _, rfl, R2.keep (fun b hb hl => hk b (hS2 b hb) hl), hS2⟩
theorem FilterM.Rep.later {W W' : World} {S : Nat → Prop} {e : FilterM} {v : Value} (h : FilterM.Rep W S e v) (hb : Below W.heap.size W W') : FilterM.Rep W' S e v := h.keep fun b _ hl => hb.block b hl
theorem FilterM.Rep.touch {W W' : World} {S : Nat → Prop} {e : FilterM} {v : Value} {S' : Nat → Prop} (h : FilterM.Rep W S e v) (ht : Touch W W' S') (hd : ∀ k, S k → ¬ S' k) : FilterM.Rep W' S e v := h.keep fun b hS hl => ht.block b hl (hd b hS)
theorem FilterM.Rep.mono {W W' : World} {S : Nat → Prop} {e : FilterM} {v : Value} {S' : Nat → Prop} (h : FilterM.Rep W S e v) (hS : ∀ k, S k → S' k) : FilterM.Rep W S' e v := by
  obtain ⟨S2, v2, rfl, R2, hS2⟩ := h
  exact ⟨S2, _, rfl, R2, fun k hk => hS k (hS2 k hk)⟩
set_option maxHeartbeats 4000000 in
set_option maxRecDepth 100000 in
theorem eq_filter (w : World) (Sa Sb : Nat → Prop) (e : FilterM) (va vb : Value) (hn0 : e.xVlans.length ≤ 2097152) (ha : FilterM.Rep w Sa e va) (hb : FilterM.Rep w Sb e vb) :
    Calls Try.prog 37 #[va, vb] w fun r w' => r = .returned (.bool true) ∧ Below w.heap.size w w' := by
  obtain ⟨S2x, v2x, rfl, R2x, hS2x⟩ := ha
  obtain ⟨a2x, n2x, p2x, rfl⟩ := R2x.form
  obtain ⟨S2y, v2y, rfl, R2y, hS2y⟩ := hb
  obtain ⟨a2y, n2y, p2y, rfl⟩ := R2y.form
  have HX2 := Lib.hid R2x
  have HY2 := Lib.hid R2y
  have HC : True := trivial
  clear R2x R2y
  go_enter Try.func37, Try.ntmps37
  go_wp2_with fail
  refine (eq_intrs _ _ _ _ _ _ _ e.xVlans (by have := hn0; omega) (HX2.out.later (by repeat (first | ((with_reducible refine Below.setCell ?_ ?_ _); rotate_left; first | omega | (dsimp only; omega) | (simp; done) | (simp; omega)) | ((with_reducible refine below_setRow ?_ ?_ _); rotate_left; first | omega | (dsimp only; omega) | (simp; done) | (simp; omega)) | with_reducible exact Below.refl _ _ | with_reducible exact below_new _ | with_reducible exact below_drew | with_reducible exact HB9.out | with_reducible exact HB8.out | with_reducible exact HB7.out | with_reducible exact HB6.out | with_reducible exact HB5.out | with_reducible exact HB4.out | with_reducible exact HB3.out | with_reducible exact HB2.out | with_reducible exact HB1.out | (with_reducible apply below_comp; rotate_left; first | with_reducible exact HB9.out | with_reducible exact HB8.out | with_reducible exact HB7.out | with_reducible exact HB6.out | with_reducible exact HB5.out | with_reducible exact HB4.out | with_reducible exact HB3.out | with_reducible exact HB2.out | with_reducible exact HB1.out | with_reducible assumption | with_reducible exact below_new _ | with_reducible exact below_drew)))) (HY2.out.later (by repeat (first | ((with_reducible refine Below.setCell ?_ ?_ _); rotate_left; first | omega | (dsimp only; omega) | (simp; done) | (simp; omega)) | ((with_reducible refine below_setRow ?_ ?_ _); rotate_left; first | omega | (dsimp only; omega) | (simp; done) | (simp; omega)) | with_reducible exact Below.refl _ _ | with_reducible exact below_new _ | with_reducible exact below_drew | with_reducible exact HB9.out | with_reducible exact HB8.out | with_reducible exact HB7.out | with_reducible exact HB6.out | with_reducible exact HB5.out | with_reducible exact HB4.out | with_reducible exact HB3.out | with_reducible exact HB2.out | with_reducible exact HB1.out | (with_reducible apply below_comp; rotate_left; first | with_reducible exact HB9.out | with_reducible exact HB8.out | with_reducible exact HB7.out | with_reducible exact HB6.out | with_reducible exact HB5.out | with_reducible exact HB4.out | with_reducible exact HB3.out | with_reducible exact HB2.out | with_reducible exact HB1.out | with_reducible assumption | with_reducible exact below_new _ | with_reducible exact below_drew))))).mono ?_
  rintro r w1 ⟨rfl, hb1⟩
  have hz1 := hb1.size
  (try simp at hz1)
  (have hl0 : w.heap.size < w1.heap.size := by omega)
  (have hl1 : w.heap.size + 1 < w1.heap.size := by omega)
  (apply with_box hb1 (g := w.heap.size))
  (focus (repeat (first | (with_reducible exact HP0.out) | (with_reducible exact HP1.out) | (with_reducible exact HP2.out) | (with_reducible exact HP3.out) | (with_reducible exact HQ0.out) | (with_reducible exact HQ1.out) | (with_reducible exact HQ2.out) | (with_reducible exact HQ3.out) | (with_reducible apply Box.new) | (with_reducible apply Box.newAt; simp; done) | (with_reducible apply Box.set) | (with_reducible apply Box.skip; omega) | (with_reducible apply Box.alloc) | (with_reducible apply Box.drew) | (with_reducible apply Box.row) | (with_reducible apply Box.skipRow; omega))))
  intro hx0
  (try simp only [List.setIfInBounds_toArray, List.set_cons_zero, List.set_cons_succ] at hx0)
  have k0_0 := hx0.cell 0 (by simp)
  have k0_1 := hx0.cell 1 (by simp)
  have k0_2 := hx0.cell 2 (by simp)
  have fr0 := fun o => hx0.frozen o
  (try simp only [List.getElem_toArray, List.getElem_cons_zero, List.getElem_cons_succ] at k0_0)
  (try simp only [List.getElem_toArray, List.getElem_cons_zero, List.getElem_cons_succ] at k0_1)
  (try simp only [List.getElem_toArray, List.getElem_cons_zero, List.getElem_cons_succ] at k0_2)
  (apply with_box hb1 (g := w.heap.size + 1))
  (focus (repeat (first | (with_reducible exact HP0.out) | (with_reducible exact HP1.out) | (with_reducible exact HP2.out) | (with_reducible exact HP3.out) | (with_reducible exact HQ0.out) | (with_reducible exact HQ1.out) | (with_reducible exact HQ2.out) | (with_reducible exact HQ3.out) | (with_reducible apply Box.new) | (with_reducible apply Box.newAt; simp; done) | (with_reducible apply Box.set) | (with_reducible apply Box.skip; omega) | (with_reducible apply Box.alloc) | (with_reducible apply Box.drew) | (with_reducible apply Box.row) | (with_reducible apply Box.skipRow; omega))))
  intro hx1
  (try simp only [List.setIfInBounds_toArray, List.set_cons_zero, List.set_cons_succ] at hx1)
  have k1_0 := hx1.cell 0 (by simp)
  have k1_1 := hx1.cell 1 (by simp)
  have k1_2 := hx1.cell 2 (by simp)
  have fr1 := fun o => hx1.frozen o
  (try simp only [List.getElem_toArray, List.getElem_cons_zero, List.getElem_cons_succ] at k1_0)
  (try simp only [List.getElem_toArray, List.getElem_cons_zero, List.getElem_cons_succ] at k1_1)
  (try simp only [List.getElem_toArray, List.getElem_cons_zero, List.getElem_cons_succ] at k1_2)
  skip
  have HP0 := Lib.hid hx0
  clear hx0
  have HP1 := Lib.hid hx1
  clear hx1
  have HB1 := Lib.hid hb1
  clear hb1
  go_wp2
  go_ret
  refine ⟨rfl, ?_⟩
  repeat (first | ((with_reducible refine Below.setCell ?_ ?_ _); rotate_left; first | omega | (dsimp only; omega) | (simp; done) | (simp; omega)) | ((with_reducible refine below_setRow ?_ ?_ _); rotate_left; first | omega | (dsimp only; omega) | (simp; done) | (simp; omega)) | with_reducible exact Below.refl _ _ | with_reducible exact below_new _ | with_reducible exact below_drew | with_reducible exact HB9.out | with_reducible exact HB8.out | with_reducible exact HB7.out | with_reducible exact HB6.out | with_reducible exact HB5.out | with_reducible exact HB4.out | with_reducible exact HB3.out | with_reducible exact HB2.out | with_reducible exact HB1.out | (with_reducible apply below_comp; rotate_left; first | with_reducible exact HB9.out | with_reducible exact HB8.out | with_reducible exact HB7.out | with_reducible exact HB6.out | with_reducible exact HB5.out | with_reducible exact HB4.out | with_reducible exact HB3.out | with_reducible exact HB2.out | with_reducible exact HB1.out | with_reducible assumption | with_reducible exact below_new _ | with_reducible exact below_drew))
end Go.Proofs.Ythjajgpejfoghab
