/- Rows of elements of m cells each: what they hold, kept over calls and writes elsewhere. -/
import Derived.Test.YtfbnjemmmgobkaaBoxes
import Derived.Laws.CopyOwn
import Derived.Laws.OwnMore
import Derived.Deep.MidRow
import Derived.Great.BuildSlice
import Derived.Deep.Slices
namespace Go.Proofs.Ytfbnjemmmgobkaa
open Go.RowKit
/-- The numbers from B to C. -/
def Rng (B C k : Nat) : Prop := B ≤ k ∧ k < C
/-- What a call has touched: the blocks of S, and new ones. -/
structure Touch (w w' : World) (S : Nat → Prop) : Prop where
  os : w'.os = w.os
  tape : w'.tape = w.tape
  output : w'.output = w.output
  size : w.heap.size ≤ w'.heap.size
  block : ∀ k, k < w.heap.size → ¬ S k → w'.heap[k]? = w.heap[k]?
theorem Touch.of_below {w w' : World} {S : Nat → Prop} (h : Below w.heap.size w w') : Touch w w' S := ⟨h.os, h.tape, h.output, h.size, fun k hk _ => h.block k hk⟩
theorem Touch.refl (w : World) (S : Nat → Prop) : Touch w w S := ⟨rfl, rfl, rfl, Nat.le_refl _, fun _ _ _ => rfl⟩
theorem Touch.trans {a b c : World} {S : Nat → Prop} (h1 : Touch a b S) (h2 : Touch b c S) : Touch a c S :=
  ⟨h2.os.trans h1.os, h2.tape.trans h1.tape, h2.output.trans h1.output, Nat.le_trans h1.size h2.size, fun k hk hc => (h2.block k (Nat.lt_of_lt_of_le hk h1.size) hc).trans (h1.block k hk hc)⟩
theorem Touch.wider {w w' : World} {S S' : Nat → Prop} (h : Touch w w' S) (hS : ∀ k, S k → S' k) : Touch w w' S' := ⟨h.os, h.tape, h.output, h.size, fun k hk hc => h.block k hk (fun hh => hc (hS k hh))⟩
theorem Touch.set {w w' : World} {S : Nat → Prop} {g j : Nat} {v : Value} (h : Touch w w' S) (hS : S g) : Touch w (w'.setCell ⟨g, j, none⟩ v) S :=
  ⟨h.os, h.tape, h.output, by simpa using h.size, fun k hk hc => (heap_setCell_other w' ⟨g, j, none⟩ k v (fun e => hc (by have e' : k = g := e; exact e' ▸ hS))).trans (h.block k hk hc)⟩
theorem Touch.later {w w1 w2 : World} {S : Nat → Prop} (h : Touch w w1 S) (hb : Below w1.heap.size w1 w2) : Touch w w2 S := h.trans (Touch.of_below hb)
theorem Touch.below {w w' : World} {S : Nat → Prop} {B : Nat} (h : Touch w w' S) (hB : B ≤ w.heap.size) (hS : ∀ k, S k → B ≤ k) : Below B w w' := ⟨h.os, h.tape, h.output, h.size, fun k hk => h.block k (Nat.lt_of_lt_of_le hk hB) (fun hs => by have := hS k hs; omega)⟩
theorem Box.touch {w w' : World} {g : Nat} {S : Nat → Prop} {vs : Array Value} {t : TypeId} (h : Box w g vs t) (ht : Touch w w' S) (hg : ¬ S g) : Box w' g vs t := (ht.block g h.lt hg).trans h
theorem with_boxT {w w1 : World} {g : Nat} {S : Nat → Prop} {vs : Array Value} {t : TypeId} {P : Prop} (ht : Touch w w1 S) (hg : ¬ S g) (h : Box w g vs t) (k : Box w1 g vs t → P) : P := k (h.touch ht hg)
theorem below_touch {A W W' : World} {S : Nat → Prop} (h : Below A.heap.size A W) (ht : Touch W W' S) (hS : ∀ k, S k → A.heap.size ≤ k) : Below A.heap.size A W' :=
  ⟨ht.os.trans h.os, ht.tape.trans h.tape, ht.output.trans h.output, Nat.le_trans h.size ht.size, fun k hk => (ht.block k (Nat.lt_of_lt_of_le hk h.size) (fun hs => by have := hS k hs; omega)).trans (h.block k hk)⟩
theorem Touch.alloc {w w' : World} {S : Nat → Prop} (h : Touch w w' S) (o : Obj) : Touch w (w'.alloc o) S := h.later (below_new o)
theorem Box.load {P : Program} {W : World} {g : Nat} {vs : Array Value} {t : TypeId} (h : Box W g vs t) (ty : TypeId) {d : TypeDesc} (hu : P.underlying ty = some d) (hd : d.isRow = true) (hi : (P.info? ty).map (·.size) = some vs.size) :
    (Instr.loadAt ty (.pointer (some ⟨g, 0, none⟩))).run P W = .ok (.agg vs) W := by
  have := run_loadAt_mid (P := P) W g 0 ty vs.toList d (fun j v hv => by
    rw [Nat.zero_add, cell_of_row W g j vs t (0, 0) h]; simpa using hv) hu hd (by simpa using hi)
  simpa using this
/-- A row: empty in any form, or a block of S that begins with the cells of its elements, m each. -/
def Row (W : World) (S : Nat → Prop) (T : TypeId) (m : Nat) (v : Value) (xs : List (Array Value)) : Prop :=
  (xs = [] ∧ ∃ a c, v = .slice a 0 c) ∨
  (xs ≠ [] ∧ ∃ g c cs, v = .slice (some ⟨g, 0, none⟩) xs.length c ∧ S g ∧ W.heap[g]? = some (.cells cs T (0, 0)) ∧ (xs.length * m ≤ cs.size ∧ xs.length ≤ c ∧ c ≤ maxLen) ∧ ∀ i x, xs[i]? = some x → ∀ j, j < m → cs[i * m + j]? = x[j]?)
/-- What a row that is read holds: its elements' cells from the address on. -/
def View (W : World) (a : Option Addr) (g m : Nat) (xs : List (Array Value)) : Prop :=
  (xs ≠ [] → a = some ⟨g, 0, none⟩ ∧ g < W.heap.size) ∧ ∀ i x, xs[i]? = some x → ∀ j, j < m → W.cell? ⟨g, i * m + j, none⟩ = x[j]?
theorem View.below {W W' : World} {a : Option Addr} {g m B : Nat} {xs : List (Array Value)} (h : View W a g m xs) (hb : Below B W W') (hB : W.heap.size ≤ B) : View W' a g m xs := by
  refine ⟨fun hx => ⟨(h.1 hx).1, Nat.lt_of_lt_of_le (h.1 hx).2 hb.size⟩, fun i x hx j hj => ?_⟩
  have hne : xs ≠ [] := fun e => by rw [e] at hx; simp at hx
  rw [hb.cell (p := ⟨g, i * m + j, none⟩) (Nat.lt_of_lt_of_le (h.1 hne).2 hB)]
  exact h.2 i x hx j hj
theorem View.later {W W' : World} {a : Option Addr} {g m : Nat} {xs : List (Array Value)} (h : View W a g m xs) (hb : Below W.heap.size W W') : View W' a g m xs := h.below hb (Nat.le_refl _)
/-- Over writes at or above B, where the row lies below B. -/
theorem View.under {W W' : World} {a : Option Addr} {g m B : Nat} {xs : List (Array Value)} (h : View W a g m xs) (hb : Below B W W') (hg : xs ≠ [] → g < B) : View W' a g m xs := by
  refine ⟨fun hx => ⟨(h.1 hx).1, Nat.lt_of_lt_of_le (h.1 hx).2 hb.size⟩, fun i x hx j hj => ?_⟩
  have hne : xs ≠ [] := fun e => by rw [e] at hx; simp at hx
  rw [hb.cell (p := ⟨g, i * m + j, none⟩) (hg hne)]
  exact h.2 i x hx j hj
theorem View.drew {W : World} {a : Option Addr} {g m : Nat} {xs : List (Array Value)} (h : View W a g m xs) (n : Nat) : View (W.drewN n) a g m xs := h
theorem Row.keep {W W' : World} {S : Nat → Prop} {m : Nat} {T : TypeId} {v : Value} {xs : List (Array Value)} (h : Row W S T m v xs) (hk : ∀ b, S b → b < W.heap.size → W'.heap[b]? = W.heap[b]?) : Row W' S T m v xs := by
  rcases h with h | ⟨h0, g, c, cs, h1, h2, h4, h5, h6⟩
  · exact .inl h
  · exact .inr ⟨h0, g, c, cs, h1, h2, (hk g h2 (Array.getElem?_eq_some_iff.1 h4).1).trans h4, h5, h6⟩
theorem Row.below {W W' : World} {S : Nat → Prop} {m : Nat} {T : TypeId} {v : Value} {xs : List (Array Value)} {D : Nat} (h : Row W S T m v xs) (hb : Below D W W') (hD : ∀ k, S k → k < D) : Row W' S T m v xs := h.keep fun b hS _ => hb.block b (hD b hS)
theorem Row.later {W W' : World} {S : Nat → Prop} {m : Nat} {T : TypeId} {v : Value} {xs : List (Array Value)} (h : Row W S T m v xs) (hb : Below W.heap.size W W') : Row W' S T m v xs := h.keep fun b _ hl => hb.block b hl
theorem Row.touch {W W' : World} {S : Nat → Prop} {m : Nat} {T : TypeId} {v : Value} {xs : List (Array Value)} {S' : Nat → Prop} (h : Row W S T m v xs) (ht : Touch W W' S') (hd : ∀ k, S k → ¬ S' k) : Row W' S T m v xs := h.keep fun b hS hl => ht.block b hl (hd b hS)
theorem Row.mono {W : World} {S : Nat → Prop} {m : Nat} {T : TypeId} {v : Value} {xs : List (Array Value)} {S' : Nat → Prop} (h : Row W S T m v xs) (hS : ∀ k, S k → S' k) : Row W S' T m v xs := by
  rcases h with h | ⟨h0, g, c, cs, h1, h2, h4, h5, h6⟩
  · exact .inl h
  · exact .inr ⟨h0, g, c, cs, h1, hS g h2, h4, h5, h6⟩
theorem Row.drew {W : World} {S : Nat → Prop} {m : Nat} {T : TypeId} {v : Value} {xs : List (Array Value)} (h : Row W S T m v xs) (n : Nat) : Row (W.drewN n) S T m v xs := h
theorem Row.set {W : World} {S : Nat → Prop} {m : Nat} {T : TypeId} {v : Value} {xs : List (Array Value)} {b j : Nat} {x : Value} (h : Row W S T m v xs) (hb : ¬ S b) : Row (W.setCell ⟨b, j, none⟩ x) S T m v xs := h.keep fun k h1 _ => heap_setCell_other W ⟨b, j, none⟩ k x (fun e => hb (by have e' : k = b := e; exact e' ▸ h1))
theorem Row.setR {W : World} {B C m b j : Nat} {T : TypeId} {v x : Value} {xs : List (Array Value)} (h : Row W (Rng B C) T m v xs) (hb : b < B) : Row (W.setCell ⟨b, j, none⟩ x) (Rng B C) T m v xs := h.set (fun hh => by have := hh.1; omega)
theorem Row.nil (W : World) (S : Nat → Prop) (m : Nat) (T : TypeId) (a : Option Addr) (c : Nat) : Row W S T m (.slice a 0 c) [] := .inl ⟨rfl, a, c, rfl⟩
theorem Row.cap_le {W : World} {S : Nat → Prop} {m : Nat} {T : TypeId} {v : Value} {xs : List (Array Value)} (h : Row W S T m v xs) {a : Option Addr} {n : Nat} (c : Nat) (e : v = .slice a n c) : n ≤ c := by
  rcases h with ⟨rfl, a', c', e'⟩ | ⟨h0, g, c', cs, h1, h2, h4, h5, h6⟩
  · rw [e] at e'; cases e'; omega
  · rw [e] at h1; cases h1; exact h5.2.1
theorem Row.open {W : World} {S : Nat → Prop} {m : Nat} {T : TypeId} {v : Value} {xs : List (Array Value)} (h : Row W S T m v xs) :
    ∃ a g c, v = .slice a xs.length c ∧ View W a g m xs ∧ (xs ≠ [] → S g) := by
  rcases h with ⟨rfl, a, c, rfl⟩ | ⟨h0, g, c, cs, rfl, h2, h4, h5, h6⟩
  · exact ⟨a, 0, c, rfl, ⟨fun h => absurd rfl h, fun i x hx => by simp at hx⟩, fun h => absurd rfl h⟩
  · refine ⟨_, g, c, rfl, ⟨fun _ => ⟨rfl, (Array.getElem?_eq_some_iff.1 h4).1⟩, fun i x hx j hj => ?_⟩, fun _ => h2⟩
    rw [cell_of_row W g _ cs T (0, 0) h4]
    exact h6 i x hx j hj
theorem Row.form {W : World} {S : Nat → Prop} {m : Nat} {T : TypeId} {v : Value} {xs : List (Array Value)} (h : Row W S T m v xs) : ∃ a n c, v = .slice a n c := by obtain ⟨a, g, c, e, _⟩ := h.open; exact ⟨a, _, c, e⟩
theorem flat_at (m : Nat) : ∀ (xs : List (Array Value)), (∀ x ∈ xs, x.size = m) → ∀ i x, xs[i]? = some x → ∀ j, j < m → (xs.flatMap (·.toList))[i * m + j]? = x[j]?
  | [], _, i, x, h, j, hj => by simp at h
  | y :: ys, hs, 0, x, h, j, hj => by
    obtain rfl : y = x := by simpa using h
    have := hs y (by simp)
    rw [List.flatMap_cons, Nat.zero_mul, Nat.zero_add, List.getElem?_append_left (by simpa [this] using hj)]
    simp
  | y :: ys, hs, i + 1, x, h, j, hj => by
    have h1 := hs y (by simp)
    have h2 : y.toList.length = m := by simpa using h1
    have ih := flat_at m ys (fun x hx => hs x (by simp [hx])) i x (by simpa using h) j hj
    rw [List.flatMap_cons, List.getElem?_append_right (by rw [h2, Nat.add_mul]; omega), h2, show (i + 1) * m + j - m = i * m + j by rw [Nat.add_mul]; omega]
    exact ih
theorem flat_length (m : Nat) : ∀ (xs : List (Array Value)), (∀ x ∈ xs, x.size = m) → (xs.flatMap (·.toList)).length = xs.length * m
  | [], _ => by simp
  | y :: ys, hs => by
    have ih := flat_length m ys (fun x hx => hs x (by simp [hx]))
    have h1 := hs y (by simp)
    rw [List.flatMap_cons, List.length_append, ih, List.length_cons, Nat.add_mul]
    simp [h1]
    first | done | omega
/-- What 'make' lays: so many zero elements. -/
theorem made_flat (z : Array Value) (n : Nat) (hz : 0 < z.size) : (madeCells z (n * z.size)).toList = (List.replicate n z).flatMap (·.toList) := by
  have hl := flat_length z.size (List.replicate n z) (fun x hx => by rw [(List.mem_replicate.1 hx).2])
  rw [List.length_replicate] at hl
  apply List.ext_getElem?
  intro q
  by_cases hq : q < n * z.size
  · have hj := Nat.mod_lt q hz
    have hi : q / z.size < n := (Nat.div_lt_iff_lt_mul hz).2 hq
    have e := flat_at z.size (List.replicate n z) (fun x hx => by rw [(List.mem_replicate.1 hx).2]) (q / z.size) z (by simp [hi]) (q % z.size) hj
    rw [Nat.div_add_mod'] at e
    rw [e]
    simp [madeCells, hq, hj]
  · rw [List.getElem?_eq_none (by simp [size_madeCells]; omega), List.getElem?_eq_none (by omega)]
theorem Row.of_own {W : World} {B m n : Nat} {T : TypeId} {v : Value} {xs : List (Array Value)} (h : W.ownsRow B T m v n (xs.flatMap (·.toList))) (hn : n = xs.length) (hs : ∀ x ∈ xs, x.size = m) : Row W (Rng B W.heap.size) T m v xs := by
  subst hn
  obtain ⟨hl, ⟨rfl, h0⟩ | ⟨g, cap, cur, rfl, hb, hg, hc, hm, hsz, ht⟩⟩ := h
  · exact .inl ⟨List.length_eq_zero_iff.1 h0, none, 0, rfl⟩
  · rcases xs with _ | ⟨y, ys⟩
    · exact .inl ⟨rfl, _, _, rfl⟩
    · refine .inr ⟨by simp, g, cap, cur, rfl, ⟨hb, (Array.getElem?_eq_some_iff.1 hg).1⟩, hg, ⟨by rw [hsz]; exact Nat.mul_le_mul_right _ hc, hc, hm⟩, fun i x hx j hj => ?_⟩
      rw [← flat_at m _ hs i x hx j hj, ← ht]
      have hi : i < (y :: ys).length := (List.getElem?_eq_some_iff.1 hx).1
      have : i * m + j < (y :: ys).length * m := by
        have := Nat.mul_le_mul_right m (Nat.succ_le_of_lt hi)
        rw [Nat.succ_mul] at this; omega
      rw [List.getElem?_take_of_lt this]
      simp
/-- The block of a row of which the first k elements and p cells of the next are known. -/
def Upto (W : World) (g : Nat) (T : TypeId) (m n k p : Nat) (F : Nat → Array Value) : Prop :=
  ∃ cs : Array Value, W.heap[g]? = some (.cells cs T (0, 0)) ∧ n * m ≤ cs.size ∧ (∀ i, i < k → ∀ j, j < m → cs[i * m + j]? = (F i)[j]?) ∧ ∀ j, j < p → cs[k * m + j]? = (F k)[j]?
theorem Upto.start {W : World} {g : Nat} {T : TypeId} {m n : Nat} {F : Nat → Array Value} {cs : Array Value} (h : W.heap[g]? = some (.cells cs T (0, 0))) (hs : n * m ≤ cs.size) : Upto W g T m n 0 0 F := ⟨cs, h, hs, fun i hi => by omega, fun j hj => by omega⟩
theorem Upto.fr {W : World} {g : Nat} {T : TypeId} {m n k p : Nat} {F : Nat → Array Value} (h : Upto W g T m n k p F) (j : Nat) : W.frozen? ⟨g, j, none⟩ = false := by
  obtain ⟨cs, h1, _⟩ := h; exact frozen_of_row W g j cs T h1
theorem row_at_lt {n m i j : Nat} (hi : i < n) (hj : j < m) : i * m + j < n * m := by
  have := Nat.mul_le_mul_right m (Nat.succ_le_of_lt hi)
  rw [Nat.succ_mul] at this; omega
theorem Upto.some_at {W : World} {g : Nat} {T : TypeId} {m n k p : Nat} {F : Nat → Array Value} (h : Upto W g T m n k p F) (i j : Nat) (hi : i < n) (hj : j < m) : ∃ u, W.cell? ⟨g, i * m + j, none⟩ = some u := by
  obtain ⟨cs, h1, h2, _⟩ := h
  have : i * m + j < cs.size := Nat.lt_of_lt_of_le (row_at_lt hi hj) h2
  exact ⟨cs[i * m + j], by rw [cell_of_row W g _ cs T (0, 0) h1]; exact Array.getElem?_eq_getElem this⟩
theorem Upto.set {W : World} {g : Nat} {T : TypeId} {m n k p : Nat} {F : Nat → Array Value} {v : Value} (h : Upto W g T m n k p F) (hk : k < n) (hp : p < m) (hv : (F k)[p]? = some v) : Upto (W.setCell ⟨g, k * m + p, none⟩ v) g T m n k (p + 1) F := by
  obtain ⟨cs, h1, h2, h3, h4⟩ := h
  have hl : k * m + p < cs.size := Nat.lt_of_lt_of_le (row_at_lt hk hp) h2
  refine ⟨_, heap_setCell_same W g _ cs T v h1, by simpa using h2, fun i hi j hj => ?_, fun j hj => ?_⟩
  · rw [Array.getElem?_setIfInBounds_ne (by
      have := Nat.mul_le_mul_right m (Nat.succ_le_of_lt hi)
      rw [Nat.succ_mul] at this; omega)]
    exact h3 i hi j hj
  · rcases Nat.lt_succ_iff_lt_or_eq.1 hj with hlt | rfl
    · rw [Array.getElem?_setIfInBounds_ne (by omega)]; exact h4 j hlt
    · rw [Array.getElem?_setIfInBounds_self_of_lt hl]; exact hv.symm
theorem Upto.set0 {W : World} {g : Nat} {T : TypeId} {m n k : Nat} {F : Nat → Array Value} {v : Value} (h : Upto W g T m n k 0 F) (hk : k < n) (hp : 0 < m) (hv : (F k)[0]? = some v) : Upto (W.setCell ⟨g, k * m, none⟩ v) g T m n k 1 F := Upto.set h hk hp hv
theorem Upto.next {W : World} {g : Nat} {T : TypeId} {m n k : Nat} {F : Nat → Array Value} (h : Upto W g T m n k m F) : Upto W g T m n (k + 1) 0 F := by
  obtain ⟨cs, h1, h2, h3, h4⟩ := h
  refine ⟨cs, h1, h2, fun i hi j hj => ?_, fun j hj => by omega⟩
  rcases Nat.lt_succ_iff_lt_or_eq.1 hi with hlt | rfl
  · exact h3 i hlt j hj
  · exact h4 j hj
theorem Upto.keep {W W' : World} {g : Nat} {T : TypeId} {m n k p : Nat} {F : Nat → Array Value} (h : Upto W g T m n k p F) (hb : W'.heap[g]? = W.heap[g]?) : Upto W' g T m n k p F := by
  obtain ⟨cs, h1, h2⟩ := h; exact ⟨cs, hb.trans h1, h2⟩
theorem Upto.lt {W : World} {g : Nat} {T : TypeId} {m n k p : Nat} {F : Nat → Array Value} (h : Upto W g T m n k p F) : g < W.heap.size := by
  obtain ⟨cs, h1, _⟩ := h; exact (Array.getElem?_eq_some_iff.1 h1).1
theorem Upto.later {W W' : World} {g : Nat} {T : TypeId} {m n k p : Nat} {F : Nat → Array Value} (h : Upto W g T m n k p F) (hb : Below W.heap.size W W') : Upto W' g T m n k p F := h.keep (hb.block g h.lt)
theorem Upto.to_row {W : World} {g c : Nat} {S : Nat → Prop} {T : TypeId} {m : Nat} {F : Nat → Array Value} {xs : List (Array Value)} {p : Nat} (h : Upto W g T m xs.length xs.length p F) (hF : ∀ i x, xs[i]? = some x → F i = x) (hS : S g) (hc : xs.length ≤ c) (hm : c ≤ maxLen) : Row W S T m (.slice (some ⟨g, 0, none⟩) xs.length c) xs := by
  rcases xs with _ | ⟨y, ys⟩
  · exact .inl ⟨rfl, _, _, rfl⟩
  · obtain ⟨cs, h1, h2, h3, _⟩ := h
    refine .inr ⟨by simp, g, c, cs, rfl, hS, h1, ⟨h2, hc, hm⟩, fun i x hx j hj => ?_⟩
    rw [← hF i x hx]
    exact h3 i (List.getElem?_eq_some_iff.1 hx).1 j hj
theorem Row.upto {W : World} {S : Nat → Prop} {m : Nat} {T : TypeId} {v : Value} {xs : List (Array Value)} (h : Row W S T m v xs) (hne : xs ≠ []) (F : Nat → Array Value) : ∃ g c, v = .slice (some ⟨g, 0, none⟩) xs.length c ∧ S g ∧ xs.length ≤ c ∧ c ≤ maxLen ∧ Upto W g T m xs.length 0 0 F := by
  rcases h with ⟨rfl, _⟩ | ⟨h0, g, c, cs, rfl, h2, h4, h5, h6⟩
  · exact absurd rfl hne
  · exact ⟨g, c, rfl, h2, h5.2.1, h5.2.2, Upto.start h4 h5.1⟩
theorem Upto.there {W : World} {g : Nat} {T : TypeId} {m n k p : Nat} {F : Nat → Array Value} (h : Upto W g T m n k p F) (hk : k < n) : W.there g (k * m) m := fun j hj => by
  obtain ⟨u, hu⟩ := h.some_at k j hk hj
  exact ⟨by rw [hu]; rfl, h.fr _⟩
theorem Upto.setAll {g : Nat} {T : TypeId} {m n k : Nat} {F : Nat → Array Value} (hk : k < n) : ∀ (vs : List Value) (p : Nat) (W : World), Upto W g T m n k p F → p + vs.length ≤ m → (∀ j v, vs[j]? = some v → (F k)[p + j]? = some v) → Upto (W.setCells g (k * m + p) vs) g T m n k (p + vs.length) F
  | [], p, W, h, _, _ => h
  | v :: r, p, W, h, hl, hv => by
    rw [World.setCells, List.length_cons, show p + (r.length + 1) = p + 1 + r.length by omega]
    have h1 := h.set hk (by simp at hl; omega) (hv 0 v rfl)
    exact Upto.setAll hk r (p + 1) _ h1 (by simp at hl; omega) (fun j u hu => by rw [show p + 1 + j = p + (j + 1) by omega]; exact hv (j + 1) u (by simpa using hu))
theorem touch_setCells {w0 : World} {S : Nat → Prop} {g : Nat} (hS : S g) : ∀ (vs : List Value) (o : Nat) (w : World), Touch w0 w S → Touch w0 (w.setCells g o vs) S
  | [], _, _, h => h
  | v :: r, o, w, h => by rw [World.setCells]; exact touch_setCells hS r _ _ (h.set hS)
theorem below_setCells {A : World} {B g : Nat} (hB : B ≤ g) : ∀ (vs : List Value) (o : Nat) (w : World), Below B A w → Below B A (w.setCells g o vs)
  | [], _, _, h => h
  | v :: r, o, w, h => by rw [World.setCells]; exact below_setCells hB r _ _ (h.setCell hB _)
section
variable {P : Program}
/-- One cell of the next element of a row is written: the walk's world gets a name. -/
theorem wpList_store_upto {ops : Array Oper} {rest : List Oper} {o : Oper} {a : Act} {w : World} {Q : Exit → Act → World → Prop} {g : Nat} {T : TypeId} {m n k p : Nat} {S : Nat → Prop} {F : Nat → Array Value} {w0 : World}
    (hU : Upto w g T m n k p F) (hT : Touch w0 w S) (hS : S g) (hk : k < n) (hp : p < m) (v : Value) (hv : (F k)[p]? = some v) (h1 : v.oneCell' = true)
    (hgd : o.guard = none) (ty : TypeId) (x y : Operand) (ho : o.op = .store ty x y) (hi : (P.info? ty).map (·.size) = some 1)
    (hx : a.eval x = .pointer (some ⟨g, k * m + p, none⟩)) (hy : a.eval y = v)
    (h : ∀ w', Upto w' g T m n k (p + 1) F → Touch w0 w' S → wpList P ops Q rest (a.put o.dst undef) w') : wpList P ops Q (o :: rest) a w :=
  wpList_plain hgd fun _ hK => by
    have ht : w.there g (k * m + p) 1 := fun j hj => by
      obtain rfl : j = 0 := by omega
      obtain ⟨u, hu⟩ := hU.some_at k p hk hp
      exact ⟨by rw [Nat.add_zero, hu]; rfl, hU.fr _⟩
    have hc : v.cells = #[v] := by cases v <;> first | rfl | cases h1
    have hr := run_storeCells_cells (P := P) g (k * m + p) [v] 0 w (fun j hj => by simpa using (ht j (by simpa using hj)).1) (fun j hj => by simpa using (ht j (by simpa using hj)).2) (fun x hx => by simp at hx; subst hx; exact h1)
    simp only [Nat.add_zero] at hr
    unfold Oper.wp execOp
    cases hq : P.info? ty with
    | none => simp [hq] at hi
    | some i =>
      have hs : i.size = 1 := by simpa [hq] using hi
      simp only [ho, hx, hy, Instr.storeAt, Instr.sureAddr, Sem.run_bind, Sem.run_pure, Result.andThen_ok]
      simp [storeVar, sizeOf, typeInfo, hq, hc, hs, hr]
      exact hK _ _ (h _ (by rw [World.setCells, World.setCells]; exact hU.set hk hp hv) (by rw [World.setCells, World.setCells]; exact hT.set hS))
/-- The next element of a row is written whole. -/
theorem wpList_store_elem {ops : Array Oper} {rest : List Oper} {o : Oper} {a : Act} {w : World} {Q : Exit → Act → World → Prop} {g : Nat} {T : TypeId} {m n k B : Nat} {F : Nat → Array Value} {w0 : World}
    (hU : Upto w g T m n k 0 F) (hT : Below B w0 w) (hBg : B ≤ g) (hk : k < n) (cells : Array Value) (hv : F k = cells) (hm : cells.size = m) (h1 : cells.all (·.oneCell') = true)
    (hgd : o.guard = none) (ty : TypeId) (x y : Operand) (ho : o.op = .store ty x y) (hi : (P.info? ty).map (·.size) = some cells.size)
    (hx : a.eval x = .pointer (some ⟨g, k * m, none⟩)) (hy : a.eval y = .agg cells)
    (h : ∀ w', Upto w' g T m n (k + 1) 0 F → Below B w0 w' → w'.heap.size = w.heap.size → wpList P ops Q rest (a.put o.dst undef) w') : wpList P ops Q (o :: rest) a w := by
  subst hm
  refine wpList_store_mid hgd ty x y ho g (k * cells.size) cells hx hy (hU.there hk) hi h1 (h _ (Upto.next ?_) (below_setCells hBg _ _ _ hT) (by
    have : ∀ (vs : List Value) (o : Nat) (w : World), (w.setCells g o vs).heap.size = w.heap.size := fun vs => by
      induction vs with
      | nil => intro o w; rfl
      | cons v r ih => intro o w; rw [World.setCells, ih]; simp
    exact this _ _ _))
  have := Upto.setAll (F := F) hk cells.toList 0 w hU (by simp) (fun j v hj => by rw [hv]; simpa using hj)
  simpa using this
end
/-- The elements of a row that came in. -/
def EltsR (w : World) (a : Option Addr) (m n : Nat) (F : Nat → Array Value) : Prop := ∀ i, i < n → ∃ x, a = some x ∧ x.block < w.heap.size ∧ ∀ j, j < m → w.cell? ((x.add (i * m)).add j) = (F i)[j]?
theorem add_block (x : Addr) (k : Nat) : (x.add k).block = x.block := by unfold Addr.add; split <;> rfl
theorem EltsR.below {w w' : World} {a : Option Addr} {m n : Nat} {F : Nat → Array Value} (h : EltsR w a m n F) {B : Nat} (hb : Below B w w') (hB : w.heap.size ≤ B) : EltsR w' a m n F := by
  refine fun i hi => ?_
  obtain ⟨x, h1, h3, h2⟩ := h i hi
  refine ⟨x, h1, Nat.lt_of_lt_of_le h3 hb.size, fun j hj => ?_⟩
  rw [← h2 j hj]
  exact hb.cell (p := (x.add (i * m)).add j) (by rw [add_block, add_block]; omega)
end Go.Proofs.Ytfbnjemmmgobkaa
