/- Memory: what its values stand for; the laws' eq, mark, held. -/
import Derived.Test.YtgajpbopfehclaaNestMath
import Derived.Test.YtgajpbopfehclaaBoxes
import Derived.Test.YtgajpbopfehclaaRowString
namespace Go.Proofs.Ytgajpbopfehclaa
open Go.RowKit
set_option linter.unusedSimpArgs false
set_option linter.unusedVariables false

structure MemoryM where
  xPages : List ByteArray
/-- How many marks it takes. -/
def MemoryM.cnt (e : MemoryM) : Nat := e.xPages.length * 1
/-- The marks from q on. -/
def MemoryM.mkd (e : MemoryM) (q : Nat) : MemoryM := { e with xPages := strrMs (q) e.xPages.length }
/-- What a value of the type stands for; the blocks of S hold its rows. -/
def MemoryM.Rep (W : World) (S : Nat → Prop) (e : MemoryM) (v : Value) : Prop := ∃ (S0 : Nat → Prop) (v0 : Value), v = .agg #[v0] ∧ Row W S0 9 1 v0 (e.xPages.map strrA) ∧ (∀ k, S0 k → S k)
theorem MemoryM.Rep.keep {W W' : World} {S : Nat → Prop} {e : MemoryM} {v : Value} (h : MemoryM.Rep W S e v) (hk : ∀ b, S b → b < W.heap.size → W'.heap[b]? = W.heap[b]?) : MemoryM.Rep W' S e v := by
  obtain ⟨S0, v0, rfl, R0, hS0⟩ := h
  exact ⟨S0, _, rfl, R0.keep (fun b hb hl => hk b (hS0 b hb) hl), hS0⟩
theorem MemoryM.Rep.later {W W' : World} {S : Nat → Prop} {e : MemoryM} {v : Value} (h : MemoryM.Rep W S e v) (hb : Below W.heap.size W W') : MemoryM.Rep W' S e v := h.keep fun b _ hl => hb.block b hl
theorem MemoryM.Rep.touch {W W' : World} {S : Nat → Prop} {e : MemoryM} {v : Value} {S' : Nat → Prop} (h : MemoryM.Rep W S e v) (ht : Touch W W' S') (hd : ∀ k, S k → ¬ S' k) : MemoryM.Rep W' S e v := h.keep fun b hS hl => ht.block b hl (hd b hS)
theorem MemoryM.Rep.mono {W W' : World} {S : Nat → Prop} {e : MemoryM} {v : Value} {S' : Nat → Prop} (h : MemoryM.Rep W S e v) (hS : ∀ k, S k → S' k) : MemoryM.Rep W S' e v := by
  obtain ⟨S0, v0, rfl, R0, hS0⟩ := h
  exact ⟨S0, _, rfl, R0, fun k hk => hS k (hS0 k hk)⟩
set_option maxHeartbeats 4000000 in
set_option maxRecDepth 100000 in
theorem eq_memory (w : World) (Sa Sb : Nat → Prop) (e : MemoryM) (va vb : Value) (hn0 : e.xPages.length ≤ 2097152) (ha : MemoryM.Rep w Sa e va) (hb : MemoryM.Rep w Sb e vb) :
    Calls Try.prog 22 #[va, vb] w fun r w' => r = .returned (.bool true) ∧ Below w.heap.size w w' := by
  obtain ⟨S0x, v0x, rfl, R0x, hS0x⟩ := ha
  obtain ⟨a0x, n0x, p0x, rfl⟩ := R0x.form
  obtain ⟨S0y, v0y, rfl, R0y, hS0y⟩ := hb
  obtain ⟨a0y, n0y, p0y, rfl⟩ := R0y.form
  have HX0 := Lib.hid R0x
  have HY0 := Lib.hid R0y
  have HC : True := trivial
  clear R0x R0y
  go_enter Try.func22, Try.ntmps22
  go_wp2_with fail
  refine (eq_strrs _ _ _ _ _ _ _ e.xPages (by have := hn0; omega) (HX0.out.later (by repeat (first | ((with_reducible refine Below.setCell ?_ ?_ _); rotate_left; first | omega | (dsimp only; omega) | (simp; done) | (simp; omega)) | ((with_reducible refine below_setRow ?_ ?_ _); rotate_left; first | omega | (dsimp only; omega) | (simp; done) | (simp; omega)) | with_reducible exact Below.refl _ _ | with_reducible exact below_new _ | with_reducible exact below_drew | with_reducible exact HB9.out | with_reducible exact HB8.out | with_reducible exact HB7.out | with_reducible exact HB6.out | with_reducible exact HB5.out | with_reducible exact HB4.out | with_reducible exact HB3.out | with_reducible exact HB2.out | with_reducible exact HB1.out | (with_reducible apply below_comp; rotate_left; first | with_reducible exact HB9.out | with_reducible exact HB8.out | with_reducible exact HB7.out | with_reducible exact HB6.out | with_reducible exact HB5.out | with_reducible exact HB4.out | with_reducible exact HB3.out | with_reducible exact HB2.out | with_reducible exact HB1.out | with_reducible assumption | with_reducible exact below_new _ | with_reducible exact below_drew)))) (HY0.out.later (by repeat (first | ((with_reducible refine Below.setCell ?_ ?_ _); rotate_left; first | omega | (dsimp only; omega) | (simp; done) | (simp; omega)) | ((with_reducible refine below_setRow ?_ ?_ _); rotate_left; first | omega | (dsimp only; omega) | (simp; done) | (simp; omega)) | with_reducible exact Below.refl _ _ | with_reducible exact below_new _ | with_reducible exact below_drew | with_reducible exact HB9.out | with_reducible exact HB8.out | with_reducible exact HB7.out | with_reducible exact HB6.out | with_reducible exact HB5.out | with_reducible exact HB4.out | with_reducible exact HB3.out | with_reducible exact HB2.out | with_reducible exact HB1.out | (with_reducible apply below_comp; rotate_left; first | with_reducible exact HB9.out | with_reducible exact HB8.out | with_reducible exact HB7.out | with_reducible exact HB6.out | with_reducible exact HB5.out | with_reducible exact HB4.out | with_reducible exact HB3.out | with_reducible exact HB2.out | with_reducible exact HB1.out | with_reducible assumption | with_reducible exact below_new _ | with_reducible exact below_drew))))).mono ?_
  rintro r w1 ⟨rfl, hb1⟩
  have hz1 := hb1.size
  (try simp at hz1)
  (have hl0 : w.heap.size < w1.heap.size := by omega)
  (have hl1 : w.heap.size + 1 < w1.heap.size := by omega)
  (apply with_box hb1 (g := w.heap.size))
  (focus (repeat (first | (with_reducible exact HP0.out) | (with_reducible exact HP1.out) | (with_reducible exact HP2.out) | (with_reducible exact HP3.out) | (with_reducible exact HQ0.out) | (with_reducible exact HQ1.out) | (with_reducible exact HQ2.out) | (with_reducible exact HQ3.out) | (with_reducible apply Box.new) | (with_reducible apply Box.newAt; simp; done) | (with_reducible apply Box.set) | (with_reducible apply Box.skip; omega) | (with_reducible apply Box.alloc) | (with_reducible apply Box.drew) | (with_reducible apply Box.row) | (with_reducible apply Box.skipRow; omega))))
  intro hx0
  (try simp only [List.setIfInBounds_toArray, List.set_cons_zero, List.set_cons_succ] at hx0)
  have k0_0 := hx0.cell 0 (by simp)
  have fr0 := fun o => hx0.frozen o
  (try simp only [List.getElem_toArray, List.getElem_cons_zero, List.getElem_cons_succ] at k0_0)
  (apply with_box hb1 (g := w.heap.size + 1))
  (focus (repeat (first | (with_reducible exact HP0.out) | (with_reducible exact HP1.out) | (with_reducible exact HP2.out) | (with_reducible exact HP3.out) | (with_reducible exact HQ0.out) | (with_reducible exact HQ1.out) | (with_reducible exact HQ2.out) | (with_reducible exact HQ3.out) | (with_reducible apply Box.new) | (with_reducible apply Box.newAt; simp; done) | (with_reducible apply Box.set) | (with_reducible apply Box.skip; omega) | (with_reducible apply Box.alloc) | (with_reducible apply Box.drew) | (with_reducible apply Box.row) | (with_reducible apply Box.skipRow; omega))))
  intro hx1
  (try simp only [List.setIfInBounds_toArray, List.set_cons_zero, List.set_cons_succ] at hx1)
  have k1_0 := hx1.cell 0 (by simp)
  have fr1 := fun o => hx1.frozen o
  (try simp only [List.getElem_toArray, List.getElem_cons_zero, List.getElem_cons_succ] at k1_0)
  skip
  have HP0 := Lib.hid hx0
  clear hx0
  have HP1 := Lib.hid hx1
  clear hx1
  have HB1 := Lib.hid hb1
  clear hb1
  go_wp2
  go_ret
  refine ⟨rfl, ?_⟩
  repeat (first | ((with_reducible refine Below.setCell ?_ ?_ _); rotate_left; first | omega | (dsimp only; omega) | (simp; done) | (simp; omega)) | ((with_reducible refine below_setRow ?_ ?_ _); rotate_left; first | omega | (dsimp only; omega) | (simp; done) | (simp; omega)) | with_reducible exact Below.refl _ _ | with_reducible exact below_new _ | with_reducible exact below_drew | with_reducible exact HB9.out | with_reducible exact HB8.out | with_reducible exact HB7.out | with_reducible exact HB6.out | with_reducible exact HB5.out | with_reducible exact HB4.out | with_reducible exact HB3.out | with_reducible exact HB2.out | with_reducible exact HB1.out | (with_reducible apply below_comp; rotate_left; first | with_reducible exact HB9.out | with_reducible exact HB8.out | with_reducible exact HB7.out | with_reducible exact HB6.out | with_reducible exact HB5.out | with_reducible exact HB4.out | with_reducible exact HB3.out | with_reducible exact HB2.out | with_reducible exact HB1.out | with_reducible assumption | with_reducible exact below_new _ | with_reducible exact below_drew))
set_option maxHeartbeats 4000000 in
set_option maxRecDepth 100000 in
theorem mark_memory (w : World) (S : Nat → Prop) (q : Nat) (e : MemoryM) (v : Value) (hn0 : e.xPages.length ≤ 2097152) (hq1 : 1 ≤ q) (hq : q + e.cnt ≤ 500000000) (hS : ∀ k, S k → k < w.heap.size) (h : MemoryM.Rep w S e v) :
    Calls Try.prog 23 #[v, .int .i64 q] w fun r w' => r = .returned (.int .i64 ((q + e.cnt : Nat) : Int)) ∧ MemoryM.Rep w' S (e.mkd q) v ∧ Touch w w' S := by
  obtain ⟨S0x, v0x, rfl, R0x, hS0x⟩ := h
  obtain ⟨a0x, n0x, p0x, rfl⟩ := R0x.form
  unfold MemoryM.cnt MemoryM.mkd at *
  try dsimp only at *
  have HX0 := Lib.hid R0x
  clear R0x
  go_enter Try.func23, Try.ntmps23
  go_wp2_with fail
  refine (mark_strrs _ S0x (q) _ e.xPages (by have := hn0; omega) (by omega) (by omega) (HX0.out.keep (fun b hb hl => by exact (show Below w.heap.size w _ by repeat (first | ((with_reducible refine Below.setCell ?_ ?_ _); rotate_left; first | omega | (dsimp only; omega) | (simp; done) | (simp; omega)) | ((with_reducible refine below_setRow ?_ ?_ _); rotate_left; first | omega | (dsimp only; omega) | (simp; done) | (simp; omega)) | with_reducible exact Below.refl _ _ | with_reducible exact below_new _ | with_reducible exact below_drew | with_reducible exact HB9.out | with_reducible exact HB8.out | with_reducible exact HB7.out | with_reducible exact HB6.out | with_reducible exact HB5.out | with_reducible exact HB4.out | with_reducible exact HB3.out | with_reducible exact HB2.out | with_reducible exact HB1.out | (with_reducible apply below_comp; rotate_left; first | with_reducible exact HB9.out | with_reducible exact HB8.out | with_reducible exact HB7.out | with_reducible exact HB6.out | with_reducible exact HB5.out | with_reducible exact HB4.out | with_reducible exact HB3.out | with_reducible exact HB2.out | with_reducible exact HB1.out | with_reducible assumption | with_reducible exact below_new _ | with_reducible exact below_drew))).block b hl))).mono ?_
  rintro r w1 ⟨rfl, hR0, ht1⟩
  have hg0 : ¬ S0x w.heap.size := fun hh => by have := hS _ (hS0x _ hh); omega
  have HR0 := Lib.hid hR0
  clear hR0
  go_wp2
  go_ret
  refine ⟨by first | rfl | (simp; done) | (congr 2; omega), ⟨S0x, _, rfl, HR0.out, hS0x⟩, ?_⟩
  exact (Touch.of_below (below_new _)).trans (ht1.wider hS0x)
set_option maxHeartbeats 4000000 in
set_option maxRecDepth 100000 in
theorem held_memory (w : World) (S : Nat → Prop) (q : Nat) (e : MemoryM) (v : Value) (hn0 : e.xPages.length ≤ 2097152) (hq1 : 1 ≤ q) (hq : q + e.cnt ≤ 500000000) (h : MemoryM.Rep w S (e.mkd q) v) :
    Calls Try.prog 24 #[v, .int .i64 q] w fun r w' => r = .returned (.int .i64 ((q + e.cnt : Nat) : Int)) ∧ Below w.heap.size w w' := by
  obtain ⟨S0x, v0x, rfl, R0x, hS0x⟩ := h
  obtain ⟨a0x, n0x, p0x, rfl⟩ := R0x.form
  unfold MemoryM.cnt at *
  unfold MemoryM.mkd at R0x
  try dsimp only at R0x
  have HX0 := Lib.hid R0x
  clear R0x
  unfold MemoryM.mkd at *
  try dsimp only at *
  go_enter Try.func24, Try.ntmps24
  go_wp2_with fail
  refine (held_strrs _ S0x (q) e.xPages.length _ _ (by have := hn0; omega) (by omega) (by omega) (HX0.out.later (by repeat (first | ((with_reducible refine Below.setCell ?_ ?_ _); rotate_left; first | omega | (dsimp only; omega) | (simp; done) | (simp; omega)) | ((with_reducible refine below_setRow ?_ ?_ _); rotate_left; first | omega | (dsimp only; omega) | (simp; done) | (simp; omega)) | with_reducible exact Below.refl _ _ | with_reducible exact below_new _ | with_reducible exact below_drew | with_reducible exact HB9.out | with_reducible exact HB8.out | with_reducible exact HB7.out | with_reducible exact HB6.out | with_reducible exact HB5.out | with_reducible exact HB4.out | with_reducible exact HB3.out | with_reducible exact HB2.out | with_reducible exact HB1.out | (with_reducible apply below_comp; rotate_left; first | with_reducible exact HB9.out | with_reducible exact HB8.out | with_reducible exact HB7.out | with_reducible exact HB6.out | with_reducible exact HB5.out | with_reducible exact HB4.out | with_reducible exact HB3.out | with_reducible exact HB2.out | with_reducible exact HB1.out | with_reducible assumption | with_reducible exact below_new _ | with_reducible exact below_drew))))).mono ?_
  rintro r w1 ⟨rfl, hb1⟩
  have hz1 := hb1.size
  (try simp at hz1)
  (have hl0 : w.heap.size < w1.heap.size := by omega)
  (apply with_box hb1 (g := w.heap.size))
  (focus (repeat (first | (with_reducible exact HP0.out) | (with_reducible exact HP1.out) | (with_reducible exact HP2.out) | (with_reducible exact HP3.out) | (with_reducible exact HQ0.out) | (with_reducible exact HQ1.out) | (with_reducible exact HQ2.out) | (with_reducible exact HQ3.out) | (with_reducible apply Box.new) | (with_reducible apply Box.newAt; simp; done) | (with_reducible apply Box.set) | (with_reducible apply Box.skip; omega) | (with_reducible apply Box.alloc) | (with_reducible apply Box.drew) | (with_reducible apply Box.row) | (with_reducible apply Box.skipRow; omega))))
  intro hx0
  (try simp only [List.setIfInBounds_toArray, List.set_cons_zero, List.set_cons_succ] at hx0)
  have k0_0 := hx0.cell 0 (by simp)
  have fr0 := fun o => hx0.frozen o
  (try simp only [List.getElem_toArray, List.getElem_cons_zero, List.getElem_cons_succ] at k0_0)
  skip
  have HP0 := Lib.hid hx0
  clear hx0
  have HB1 := Lib.hid hb1
  clear hb1
  have hq_1 : ¬ ((q + e.xPages.length * 1 : Nat) : Int) < 0 := by omega
  go_wp2
  go_ret
  refine ⟨by first | rfl | (simp; done) | (congr 2; omega), ?_⟩
  repeat (first | ((with_reducible refine Below.setCell ?_ ?_ _); rotate_left; first | omega | (dsimp only; omega) | (simp; done) | (simp; omega)) | ((with_reducible refine below_setRow ?_ ?_ _); rotate_left; first | omega | (dsimp only; omega) | (simp; done) | (simp; omega)) | with_reducible exact Below.refl _ _ | with_reducible exact below_new _ | with_reducible exact below_drew | with_reducible exact HB9.out | with_reducible exact HB8.out | with_reducible exact HB7.out | with_reducible exact HB6.out | with_reducible exact HB5.out | with_reducible exact HB4.out | with_reducible exact HB3.out | with_reducible exact HB2.out | with_reducible exact HB1.out | (with_reducible apply below_comp; rotate_left; first | with_reducible exact HB9.out | with_reducible exact HB8.out | with_reducible exact HB7.out | with_reducible exact HB6.out | with_reducible exact HB5.out | with_reducible exact HB4.out | with_reducible exact HB3.out | with_reducible exact HB2.out | with_reducible exact HB1.out | with_reducible assumption | with_reducible exact below_new _ | with_reducible exact below_drew))
end Go.Proofs.Ytgajpbopfehclaa
