/- Rows that came in: their elements; loads from wherever. -/
import Derived.Test.YtgajpbopfehclaaRows2
import Derived.Test.YtgajpbopfehclaaOpen
import Derived.Deep.Slices
namespace Go.Proofs.Ytgajpbopfehclaa
open Go.Joins Go.ChangeShapes Go.WideShapes Go.RowKit Go.Deep
/-- The elements of a row that came in. -/
def EltsL (w : World) (a : Option Addr) (m : Nat) (xs : List (Array Value)) : Prop := ∀ i x, xs[i]? = some x → ∃ y, a = some y ∧ y.block < w.heap.size ∧ ∀ j, j < m → w.cell? ((y.add (i * m)).add j) = x[j]?
theorem EltsL.below {w w' : World} {a : Option Addr} {m : Nat} {xs : List (Array Value)} (h : EltsL w a m xs) {B : Nat} (hb : Below B w w') (hB : w.heap.size ≤ B) : EltsL w' a m xs := by
  refine fun i x hx => ?_
  obtain ⟨y, h1, h3, h2⟩ := h i x hx
  refine ⟨y, h1, Nat.lt_of_lt_of_le h3 hb.size, fun j hj => ?_⟩
  rw [← h2 j hj]
  exact hb.cell (p := (y.add (i * m)).add j) (by rw [add_block, add_block]; omega)
theorem EltsL.later {w w' : World} {a : Option Addr} {m : Nat} {xs : List (Array Value)} (h : EltsL w a m xs) (hb : Below w.heap.size w w') : EltsL w' a m xs := h.below hb (Nat.le_refl _)
section
variable {P : Program}
theorem run_loadVar_at (w : World) (A : Addr) (ty : TypeId) (cs : List Value) (d : TypeDesc) (hc : ∀ j v, cs[j]? = some v → w.cell? (A.add j) = some v)
    (hu : P.underlying ty = some d) (hd : d.isRow = true) (hi : (P.info? ty).map (·.size) = some cs.length) :
    (loadVar ty A).run P w = .ok (.agg cs.toArray) w := by
  have hl : (loadCells A cs.length).run P w = .ok cs.toArray w := run_loadCells_list (P := P) w A cs hc
  cases hq : P.info? ty with
  | none => simp [hq] at hi
  | some i =>
    have hs : i.size = cs.length := by simpa [hq] using hi
    have hagg : (isAgg ty).run P w = .ok true w := by
      unfold isAgg
      rw [Sem.run_bind, run_underlying hu w]
      cases d <;> simp_all
    simp [loadVar, Sem.run_bind, hagg, sizeOf, typeInfo, hq, hs, hl]
theorem wpList_load_at {ops : Array Oper} {rest : List Oper} {op : Oper} {a : Act} {w : World} {Q : Exit → Act → World → Prop} (hgd : op.guard = none) (ty : TypeId) (x : Operand) (ho : op.op = .load ty x)
    (A : Addr) (hx : a.eval x = .pointer (some A)) (cs : List Value) (d : TypeDesc) (hc : ∀ j v, cs[j]? = some v → w.cell? (A.add j) = some v)
    (hu : P.underlying ty = some d) (hd : d.isRow = true) (hi : (P.info? ty).map (·.size) = some cs.length)
    (h : wpList P ops Q rest (a.put op.dst (.agg cs.toArray)) w) : wpList P ops Q (op :: rest) a w :=
  wpList_plain hgd fun _ hK => by
    unfold Oper.wp execOp
    simp only [ho, hx, Instr.loadAt, Instr.sureAddr, Sem.run_bind, Sem.run_pure, Result.andThen_ok, run_loadVar_at w A ty cs d hc hu hd hi]
    exact hK _ _ h
variable {H : Type} {enc : TypeId × Value → H} {w : World} {base : Nat} {spare : Nat → Bool} {held : Bool}
/-- A slice of whatever elements that are flat: its elements, one after the other. -/
theorem open_row {α : Type} {arr : α → Array Value} {Wf : α → Prop} {t e : TypeId} {m fuel : Nat} {c : Value} {x : DataW H × List MemPlace} (ht : P.underlying t = some (.slice e)) (hm : P.cellsOf e = m) (hm0 : 0 < m)
    (hel : ∀ n cs y, DataW.trod enc P w base spare held n e cs = some y → ∃ z : α, cs = (arr z).toList ∧ Wf z)
    (h : DataW.trod enc P w base spare held fuel t [c] = some x) :
    ∃ (a : Option Addr) (cap : Nat) (l : List α), c = .slice a l.length cap ∧ EltsL w a m (l.map arr) ∧ l.length ≤ maxLen ∧ ∀ z ∈ l, Wf z := by
  rcases open_slice ht h with ⟨hcs, _⟩ | ⟨a, len, cap, q, n, D, Pl, hcs, hb, hl, hmx, hq, _, hx⟩
  · obtain rfl : c = .slice none 0 0 := by simpa using hcs
    exact ⟨none, 0, [], rfl, fun i x hx => by simp at hx, Nat.zero_le _, fun z hz => by simp at hz⟩
  obtain rfl : c = .slice (some a) len cap := by simpa using hcs
  have hql : len ≤ q := by rw [hq]; split <;> omega
  have key : ∀ k, k ≤ len → ∃ l : List α, l.length = k ∧ EltsL w (some a) m (l.map arr) ∧ ∀ z ∈ l, Wf z := by
    intro k
    induction k with
    | zero => intro _; exact ⟨[], rfl, fun i x hx => by simp at hx, fun z hz => by simp at hz⟩
    | succ k ih =>
      intro hk
      obtain ⟨l, hlen, hE, hW⟩ := ih (by omega)
      obtain ⟨cs', h1, h2⟩ := hx k (by omega)
      obtain ⟨z, hz, hwf⟩ := hel n cs' _ h2
      obtain ⟨_, hsz, hc⟩ := World.cells?_some h1
      rw [hm] at hsz hc
      refine ⟨l ++ [z], by simp [hlen], fun i x hi => ?_, fun y hy => ?_⟩
      · by_cases hik : i < k
        · exact hE i x (by rw [List.map_append, List.getElem?_append_left (by simp; omega)] at hi; exact hi)
        · have hil : i < (List.map arr (l ++ [z])).length := (List.getElem?_eq_some_iff.1 hi).1
          simp at hil
          obtain rfl : i = k := by omega
          rw [List.map_append, List.getElem?_append_right (by simp; omega)] at hi
          simp [hlen] at hi
          subst hi
          have hcell : ∀ j, j < m → w.cell? ((a.add (i * m)).add j) = (arr z)[j]? := fun j hj => by rw [hc j hj, hz]; simp
          refine ⟨a, rfl, ?_, hcell⟩
          have h0 := hcell 0 hm0
          have h3 : 0 < (arr z).size := by have := hsz; rw [hz] at this; simp at this; omega
          rw [Array.getElem?_eq_getElem h3] at h0
          have := block_lt_of_cell h0
          rwa [add_block, add_block] at this
      · rcases List.mem_append.1 hy with hy | hy
        · exact hW y hy
        · rw [List.mem_singleton.1 hy]; exact hwf
  obtain ⟨l, hlen, hE, hW⟩ := key len (Nat.le_refl _)
  exact ⟨some a, cap, l, by rw [hlen], hE, by rw [hlen]; omega, hW⟩
end
end Go.Proofs.Ytgajpbopfehclaa
