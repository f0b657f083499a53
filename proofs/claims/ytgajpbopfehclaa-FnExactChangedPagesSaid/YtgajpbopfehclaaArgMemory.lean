/- Memory that came in: opened; the laws' to, sz. -/
import Derived.Test.YtgajpbopfehclaaRepMemory
import Derived.Test.YtgajpbopfehclaaOpen
import Derived.Test.YtgajpbopfehclaaRowToString
namespace Go.Proofs.Ytgajpbopfehclaa
open Go.RowKit
set_option linter.unusedSimpArgs false
set_option linter.unusedVariables false

/-- What a value that came in stands for. -/
def MemoryM.Arg (w : World) (e : MemoryM) (v : Value) : Prop := ∃ (x0 : Option Addr) (p0 : Nat), v = .agg #[.slice x0 e.xPages.length p0] ∧ EltsL w x0 1 (e.xPages.map strrA)
theorem MemoryM.Arg.below {w w' : World} {e : MemoryM} {v : Value} (h : e.Arg w v) {B : Nat} (hb : Below B w w') (hB : w.heap.size ≤ B) : e.Arg w' v := by
  obtain ⟨x0, p0, h0, E0⟩ := h
  exact ⟨x0, p0, h0, E0.below hb hB⟩
def MemoryM.Wf (e : MemoryM) : Prop := (∀ z ∈ e.xPages, z.size ≤ maxLen) ∧ e.xPages.length ≤ maxLen
def MemoryM.sz (e : MemoryM) : Nat := strr_sz e.xPages
namespace OpMemoryR
open Go.Joins Go.ChangeShapes Go.WideShapes Go.RowKit Go.Deep
section
variable {H : Type} {enc : TypeId × Value → H} {w : World} {base : Nat} {spare : Nat → Bool} {held : Bool}

set_option maxRecDepth 100000 in
theorem cells {n0 : Nat} {cs : List Value} {x : DataW H × List MemPlace} (hf : DataW.trod enc Try.prog w base spare held n0 44 cs = some x) : ∃ e : MemoryM, e.Arg w (.agg cs.toArray) ∧ e.Wf := by
  obtain ⟨_, _, _, _, hlen, _, _⟩ := DataW.trod_struct Try.underlying44 hf
  rw [show Try.prog.cellsOf 44 = 1 by kernel_rfl] at hlen
  match cs, hlen with
  | [c0], _ =>
    obtain ⟨yq_0, nq_0, gq_0⟩ := open_parts Try.underlying44 hf 0 _ rfl
    have hq_0 : DataW.trod enc Try.prog w base spare held nq_0 22 [c0] = some yq_0 := by simpa [show Try.prog.cellsOf 22 = 1 by kernel_rfl] using gq_0
    obtain ⟨x0, p0, l0, rfl, E0, M0, W0⟩ := Op_strr.row hq_0
    exact ⟨⟨l0⟩, ⟨x0, p0, rfl, E0⟩, ⟨W0, M0⟩⟩
set_option maxRecDepth 100000 in
theorem opened {r : Reach} {b0 : Nat} {v : Value} {d : DataW H} {p : List MemPlace} (hv : Value.okWide Try.prog w r b0 44 v) (h : DataW.Trod enc Try.prog w base spare held 44 v d p) : ∃ e : MemoryM, e.Arg w v ∧ e.Wf := by
  obtain ⟨cs, rfl, hsz⟩ := okWide_struct Try.underlying44 hv
  obtain ⟨fuel, hf0⟩ := h
  have hf : DataW.trod enc Try.prog w base spare held fuel 44 cs.toList = some _ := hf0
  have := cells hf
  simpa using this
end
end OpMemoryR
def OwnMemory (w : World) (e : MemoryM) (r : Ending) (w' : World) : Prop := ∃ v, r = .returned v ∧ e.Rep w' (Rng w.heap.size w'.heap.size) v ∧ Below w.heap.size w w'
set_option maxHeartbeats 4000000 in
set_option maxRecDepth 100000 in
theorem to_memory (e : MemoryM) (v : Value) (w : World) (hn0 : e.xPages.length ≤ 2097152) (h : e.Arg w v) :
    Calls Try.prog 31 #[v] w (OwnMemory w e) := by
  obtain ⟨x0, p0, rfl, E0⟩ := h
  have HE0 := Lib.hid E0
  clear E0
  go_enter Try.func31, Try.ntmps31
  go_wp2_with fail
  refine (to_strrs x0 p0 e.xPages _ hn0 (HE0.out.below (B := w.heap.size) (by repeat (first | ((with_reducible refine Below.setCell ?_ ?_ _); rotate_left; first | omega | (dsimp only; omega) | (simp; done) | (simp; omega)) | ((with_reducible refine below_setRow ?_ ?_ _); rotate_left; first | omega | (dsimp only; omega) | (simp; done) | (simp; omega)) | with_reducible exact Below.refl _ _ | with_reducible exact below_new _ | with_reducible exact below_drew | with_reducible exact HB9.out | with_reducible exact HB8.out | with_reducible exact HB7.out | with_reducible exact HB6.out | with_reducible exact HB5.out | with_reducible exact HB4.out | with_reducible exact HB3.out | with_reducible exact HB2.out | with_reducible exact HB1.out | (with_reducible apply below_comp; rotate_left; first | with_reducible exact HB9.out | with_reducible exact HB8.out | with_reducible exact HB7.out | with_reducible exact HB6.out | with_reducible exact HB5.out | with_reducible exact HB4.out | with_reducible exact HB3.out | with_reducible exact HB2.out | with_reducible exact HB1.out | with_reducible assumption | with_reducible exact below_new _ | with_reducible exact below_drew))) (Nat.le_refl _))).mono ?_
  rintro r w1 ⟨v0, rfl, R0, hb1⟩
  have hzz1 := hb1.size
  (try simp at hzz1)
  obtain ⟨S0, R0', hlo0, hhi0⟩ : ∃ S, Row w1 S 9 1 v0 (e.xPages.map strrA) ∧ Hid (∀ k, S k → w.heap.size + 3 ≤ k) ∧ Hid (∀ k, S k → k < w1.heap.size) := ⟨_, R0, Lib.hid fun k hk => by have := hk.1; (try simp at this); omega, Lib.hid fun k hk => hk.2⟩
  clear R0
  obtain ⟨a0, n0, q0, rfl⟩ := R0'.form
  have HR0 := Lib.hid R0'
  clear R0'
  have hz1 := hb1.size
  (try simp at hz1)
  (have hl0 : w.heap.size < w1.heap.size := by omega)
  (have hl1 : w.heap.size + 1 < w1.heap.size := by omega)
  (have hl2 : w.heap.size + 2 < w1.heap.size := by omega)
  (apply with_box hb1 (g := w.heap.size))
  (focus (repeat (first | (with_reducible exact HP0.out) | (with_reducible exact HP1.out) | (with_reducible exact HP2.out) | (with_reducible exact HP3.out) | (with_reducible exact HQ0.out) | (with_reducible exact HQ1.out) | (with_reducible exact HQ2.out) | (with_reducible exact HQ3.out) | (with_reducible apply Box.new) | (with_reducible apply Box.newAt; simp; done) | (with_reducible apply Box.set) | (with_reducible apply Box.skip; omega) | (with_reducible apply Box.alloc) | (with_reducible apply Box.drew) | (with_reducible apply Box.row) | (with_reducible apply Box.skipRow; omega))))
  intro hx0
  (try simp only [List.setIfInBounds_toArray, List.set_cons_zero, List.set_cons_succ] at hx0)
  have k0_0 := hx0.cell 0 (by simp)
  have fr0 := fun o => hx0.frozen o
  (try simp only [List.getElem_toArray, List.getElem_cons_zero, List.getElem_cons_succ] at k0_0)
  (apply with_box hb1 (g := w.heap.size + 1))
  (focus (repeat (first | (with_reducible exact HP0.out) | (with_reducible exact HP1.out) | (with_reducible exact HP2.out) | (with_reducible exact HP3.out) | (with_reducible exact HQ0.out) | (with_reducible exact HQ1.out) | (with_reducible exact HQ2.out) | (with_reducible exact HQ3.out) | (with_reducible apply Box.new) | (with_reducible apply Box.newAt; simp; done) | (with_reducible apply Box.set) | (with_reducible apply Box.skip; omega) | (with_reducible apply Box.alloc) | (with_reducible apply Box.drew) | (with_reducible apply Box.row) | (with_reducible apply Box.skipRow; omega))))
  intro hx1
  (try simp only [List.setIfInBounds_toArray, List.set_cons_zero, List.set_cons_succ] at hx1)
  have k1_0 := hx1.cell 0 (by simp)
  have fr1 := fun o => hx1.frozen o
  (try simp only [List.getElem_toArray, List.getElem_cons_zero, List.getElem_cons_succ] at k1_0)
  (apply with_box hb1 (g := w.heap.size + 2))
  (focus (repeat (first | (with_reducible exact HP0.out) | (with_reducible exact HP1.out) | (with_reducible exact HP2.out) | (with_reducible exact HP3.out) | (with_reducible exact HQ0.out) | (with_reducible exact HQ1.out) | (with_reducible exact HQ2.out) | (with_reducible exact HQ3.out) | (with_reducible apply Box.new) | (with_reducible apply Box.newAt; simp; done) | (with_reducible apply Box.set) | (with_reducible apply Box.skip; omega) | (with_reducible apply Box.alloc) | (with_reducible apply Box.drew) | (with_reducible apply Box.row) | (with_reducible apply Box.skipRow; omega))))
  intro hx2
  (try simp only [List.setIfInBounds_toArray, List.set_cons_zero, List.set_cons_succ] at hx2)
  have k2_0 := hx2.cell 0 (by simp)
  have fr2 := fun o => hx2.frozen o
  (try simp only [List.getElem_toArray, List.getElem_cons_zero, List.getElem_cons_succ] at k2_0)
  skip
  have HP0 := Lib.hid hx0
  clear hx0
  have HP1 := Lib.hid hx1
  clear hx1
  have HP2 := Lib.hid hx2
  clear hx2
  have HB1 := Lib.hid hb1
  clear hb1
  go_wp2
  apply bodyPost_row (g := w.heap.size + 1) rfl rfl Try.underlying24 rfl
  focus (repeat (first | (with_reducible exact HP0.out) | (with_reducible exact HP1.out) | (with_reducible exact HP2.out) | (with_reducible exact HP3.out) | (with_reducible exact HQ0.out) | (with_reducible exact HQ1.out) | (with_reducible exact HQ2.out) | (with_reducible exact HQ3.out) | (with_reducible apply Box.new) | (with_reducible apply Box.newAt; simp; done) | (with_reducible apply Box.set) | (with_reducible apply Box.skip; omega) | (with_reducible apply Box.alloc) | (with_reducible apply Box.drew) | (with_reducible apply Box.row) | (with_reducible apply Box.skipRow; omega)))
  focus (kernel_rfl)
  focus (rfl)
  try simp only [List.setIfInBounds_toArray, List.set_cons_zero, List.set_cons_succ]
  refine ⟨_, rfl, ⟨S0, _, rfl, HR0.out.keep (fun b hb hl => by have hx := hlo0.out b hb; repeat (first | with_reducible rfl | (refine (heap_setCell_other _ _ _ _ ?_).trans ?_; (first | (show b ≠ _; omega) | (dsimp only; omega))))), fun k hk => ⟨by have := hlo0.out k hk; omega, by have := hhi0.out k hk; (try simp); omega⟩⟩, ?_⟩
  repeat (first | ((with_reducible refine Below.setCell ?_ ?_ _); rotate_left; first | omega | (dsimp only; omega) | (simp; done) | (simp; omega)) | ((with_reducible refine below_setRow ?_ ?_ _); rotate_left; first | omega | (dsimp only; omega) | (simp; done) | (simp; omega)) | with_reducible exact Below.refl _ _ | with_reducible exact below_new _ | with_reducible exact below_drew | with_reducible exact HB9.out | with_reducible exact HB8.out | with_reducible exact HB7.out | with_reducible exact HB6.out | with_reducible exact HB5.out | with_reducible exact HB4.out | with_reducible exact HB3.out | with_reducible exact HB2.out | with_reducible exact HB1.out | (with_reducible apply below_comp; rotate_left; first | with_reducible exact HB9.out | with_reducible exact HB8.out | with_reducible exact HB7.out | with_reducible exact HB6.out | with_reducible exact HB5.out | with_reducible exact HB4.out | with_reducible exact HB3.out | with_reducible exact HB2.out | with_reducible exact HB1.out | with_reducible assumption | with_reducible exact below_new _ | with_reducible exact below_drew))
set_option maxHeartbeats 4000000 in
set_option maxRecDepth 100000 in
theorem sz_memory (e : MemoryM) (v : Value) (left : Int) (w : World) (hw : e.Wf) (hl : 0 ≤ left ∧ left ≤ 4194304) (h : e.Arg w v) :
    Calls Try.prog 29 #[v, .int .i64 left] w fun r w' => r = .returned (.int .i64 (if left < (e.sz : Nat) then -1 else left - (e.sz : Nat))) ∧ Below w.heap.size w w' := by
  obtain ⟨x0, p0, rfl, E0⟩ := h
  have HE0 := Lib.hid E0
  clear E0
  obtain ⟨hw0, hw1⟩ := hw
  unfold maxLen at *
  obtain ⟨z0, hz0⟩ : ∃ z, z = strr_sz e.xPages := ⟨_, rfl⟩
  have HTOT : Hid (e.sz = z0) := Lib.hid (by unfold MemoryM.sz; rw [hz0])
  rw [HTOT.out]
  have HZ0 := Lib.hid hz0
  clear hz0
  by_cases hc0 : left < ((z0 : Nat) : Int)
  · rw [if_pos (by omega)]
    have hq0 : left - (z0 : Int) < 0 := by omega
    go_enter Try.func29, Try.ntmps29
    go_wp2_with fail
    refine (sz_strrs x0 p0 e.xPages (left) _ (by omega) (by omega) (fun z hz => by have := hw0 z hz; unfold maxLen; omega) (HE0.out.below (B := w.heap.size) (by repeat (first | ((with_reducible refine Below.setCell ?_ ?_ _); rotate_left; first | omega | (dsimp only; omega) | (simp; done) | (simp; omega)) | ((with_reducible refine below_setRow ?_ ?_ _); rotate_left; first | omega | (dsimp only; omega) | (simp; done) | (simp; omega)) | with_reducible exact Below.refl _ _ | with_reducible exact below_new _ | with_reducible exact below_drew | with_reducible exact HB9.out | with_reducible exact HB8.out | with_reducible exact HB7.out | with_reducible exact HB6.out | with_reducible exact HB5.out | with_reducible exact HB4.out | with_reducible exact HB3.out | with_reducible exact HB2.out | with_reducible exact HB1.out | (with_reducible apply below_comp; rotate_left; first | with_reducible exact HB9.out | with_reducible exact HB8.out | with_reducible exact HB7.out | with_reducible exact HB6.out | with_reducible exact HB5.out | with_reducible exact HB4.out | with_reducible exact HB3.out | with_reducible exact HB2.out | with_reducible exact HB1.out | with_reducible assumption | with_reducible exact below_new _ | with_reducible exact below_drew))) (Nat.le_refl _))).mono ?_
    rintro r w1 ⟨rfl, hb1⟩
    have hz1 := hb1.size
    (try simp at hz1)
    (have hl0 : w.heap.size < w1.heap.size := by omega)
    (apply with_box hb1 (g := w.heap.size))
    (focus (repeat (first | (with_reducible exact HP0.out) | (with_reducible exact HP1.out) | (with_reducible exact HP2.out) | (with_reducible exact HP3.out) | (with_reducible exact HQ0.out) | (with_reducible exact HQ1.out) | (with_reducible exact HQ2.out) | (with_reducible exact HQ3.out) | (with_reducible apply Box.new) | (with_reducible apply Box.newAt; simp; done) | (with_reducible apply Box.set) | (with_reducible apply Box.skip; omega) | (with_reducible apply Box.alloc) | (with_reducible apply Box.drew) | (with_reducible apply Box.row) | (with_reducible apply Box.skipRow; omega))))
    intro hx0
    (try simp only [List.setIfInBounds_toArray, List.set_cons_zero, List.set_cons_succ] at hx0)
    have k0_0 := hx0.cell 0 (by simp)
    have fr0 := fun o => hx0.frozen o
    (try simp only [List.getElem_toArray, List.getElem_cons_zero, List.getElem_cons_succ] at k0_0)
    skip
    have HP0 := Lib.hid hx0
    clear hx0
    have HB1 := Lib.hid hb1
    clear hb1
    rw [← HZ0.out]
    rw [if_pos (by omega)]
    go_wp2
    go_ret
    refine ⟨ret_int (by first | with_reducible rfl | omega), ?_⟩
    repeat (first | ((with_reducible refine Below.setCell ?_ ?_ _); rotate_left; first | omega | (dsimp only; omega) | (simp; done) | (simp; omega)) | ((with_reducible refine below_setRow ?_ ?_ _); rotate_left; first | omega | (dsimp only; omega) | (simp; done) | (simp; omega)) | with_reducible exact Below.refl _ _ | with_reducible exact below_new _ | with_reducible exact below_drew | with_reducible exact HB9.out | with_reducible exact HB8.out | with_reducible exact HB7.out | with_reducible exact HB6.out | with_reducible exact HB5.out | with_reducible exact HB4.out | with_reducible exact HB3.out | with_reducible exact HB2.out | with_reducible exact HB1.out | (with_reducible apply below_comp; rotate_left; first | with_reducible exact HB9.out | with_reducible exact HB8.out | with_reducible exact HB7.out | with_reducible exact HB6.out | with_reducible exact HB5.out | with_reducible exact HB4.out | with_reducible exact HB3.out | with_reducible exact HB2.out | with_reducible exact HB1.out | with_reducible assumption | with_reducible exact below_new _ | with_reducible exact below_drew))
  have hp0 : ¬ left - (z0 : Int) < 0 := by omega
  rw [if_neg (by omega)]
  go_enter Try.func29, Try.ntmps29
  go_wp2_with fail
  refine (sz_strrs x0 p0 e.xPages (left) _ (by omega) (by omega) (fun z hz => by have := hw0 z hz; unfold maxLen; omega) (HE0.out.below (B := w.heap.size) (by repeat (first | ((with_reducible refine Below.setCell ?_ ?_ _); rotate_left; first | omega | (dsimp only; omega) | (simp; done) | (simp; omega)) | ((with_reducible refine below_setRow ?_ ?_ _); rotate_left; first | omega | (dsimp only; omega) | (simp; done) | (simp; omega)) | with_reducible exact Below.refl _ _ | with_reducible exact below_new _ | with_reducible exact below_drew | with_reducible exact HB9.out | with_reducible exact HB8.out | with_reducible exact HB7.out | with_reducible exact HB6.out | with_reducible exact HB5.out | with_reducible exact HB4.out | with_reducible exact HB3.out | with_reducible exact HB2.out | with_reducible exact HB1.out | (with_reducible apply below_comp; rotate_left; first | with_reducible exact HB9.out | with_reducible exact HB8.out | with_reducible exact HB7.out | with_reducible exact HB6.out | with_reducible exact HB5.out | with_reducible exact HB4.out | with_reducible exact HB3.out | with_reducible exact HB2.out | with_reducible exact HB1.out | with_reducible assumption | with_reducible exact below_new _ | with_reducible exact below_drew))) (Nat.le_refl _))).mono ?_
  rintro r w1 ⟨rfl, hb1⟩
  have hz1 := hb1.size
  (try simp at hz1)
  (have hl0 : w.heap.size < w1.heap.size := by omega)
  (apply with_box hb1 (g := w.heap.size))
  (focus (repeat (first | (with_reducible exact HP0.out) | (with_reducible exact HP1.out) | (with_reducible exact HP2.out) | (with_reducible exact HP3.out) | (with_reducible exact HQ0.out) | (with_reducible exact HQ1.out) | (with_reducible exact HQ2.out) | (with_reducible exact HQ3.out) | (with_reducible apply Box.new) | (with_reducible apply Box.newAt; simp; done) | (with_reducible apply Box.set) | (with_reducible apply Box.skip; omega) | (with_reducible apply Box.alloc) | (with_reducible apply Box.drew) | (with_reducible apply Box.row) | (with_reducible apply Box.skipRow; omega))))
  intro hx0
  (try simp only [List.setIfInBounds_toArray, List.set_cons_zero, List.set_cons_succ] at hx0)
  have k0_0 := hx0.cell 0 (by simp)
  have fr0 := fun o => hx0.frozen o
  (try simp only [List.getElem_toArray, List.getElem_cons_zero, List.getElem_cons_succ] at k0_0)
  skip
  have HP0 := Lib.hid hx0
  clear hx0
  have HB1 := Lib.hid hb1
  clear hb1
  rw [← HZ0.out]
  rw [if_neg (by omega)]
  go_wp2
  go_ret
  refine ⟨ret_int (by first | with_reducible rfl | omega), ?_⟩
  repeat (first | ((with_reducible refine Below.setCell ?_ ?_ _); rotate_left; first | omega | (dsimp only; omega) | (simp; done) | (simp; omega)) | ((with_reducible refine below_setRow ?_ ?_ _); rotate_left; first | omega | (dsimp only; omega) | (simp; done) | (simp; omega)) | with_reducible exact Below.refl _ _ | with_reducible exact below_new _ | with_reducible exact below_drew | with_reducible exact HB9.out | with_reducible exact HB8.out | with_reducible exact HB7.out | with_reducible exact HB6.out | with_reducible exact HB5.out | with_reducible exact HB4.out | with_reducible exact HB3.out | with_reducible exact HB2.out | with_reducible exact HB1.out | (with_reducible apply below_comp; rotate_left; first | with_reducible exact HB9.out | with_reducible exact HB8.out | with_reducible exact HB7.out | with_reducible exact HB6.out | with_reducible exact HB5.out | with_reducible exact HB4.out | with_reducible exact HB3.out | with_reducible exact HB2.out | with_reducible exact HB1.out | with_reducible assumption | with_reducible exact below_new _ | with_reducible exact below_drew))
end Go.Proofs.Ytgajpbopfehclaa
