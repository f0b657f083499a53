/- A drawn region that makes a struct of its own and stores it at the end: what its operations yield. -/
import Derived.Test.YtogiocinhjbdkaaRegion2
import Derived.Test.YtogiocinhjbdkaaEthMath
import Derived.Laws.Tables
import Derived.Laws.CopyOwn
namespace Go.Proofs.Ytogiocinhjbdkaa
open Go.RowKit
/-- A pointer to a block of the region's own, of so many cells; what lies in it. -/
def OwnV (base n : Nat) (T : TypeId) (v : Value) (W : World) : Prop := ∃ g cs, v = .pointer (some ⟨g, 0, none⟩) ∧ base ≤ g ∧ W.heap[g]? = some (.cells cs T (0, 0)) ∧ cs.size = n ∧ g < W.heap.size
def BoxV (base : Nat) (cells : Array Value) (T : TypeId) (v : Value) (W : World) : Prop := ∃ g, v = .pointer (some ⟨g, 0, none⟩) ∧ base ≤ g ∧ W.heap[g]? = some (.cells cells T (0, 0)) ∧ g < W.heap.size
/-- What the numbers yield: the number 'al' makes the struct, the number 'st' stores the cells. -/
def Vals3 (vals : List Value) (al st base : Nat) (cells : Array Value) (T : TypeId) (i : Nat) (v : Value) (W : World) : Prop :=
  match Nat.beq i al, Nat.beq i st with
  | true, _ => OwnV base cells.size T v W
  | _, true => BoxV base cells T v W
  | _, _ => v = vals.getD i undef
theorem OwnV.below {base n : Nat} {T : TypeId} {v : Value} {W W' : World} (h : OwnV base n T v W) (hb : Below W.heap.size W W') : OwnV base n T v W' := by
  obtain ⟨g, cs, h1, h2, h3, h4, h5⟩ := h
  exact ⟨g, cs, h1, h2, (hb.block g h5).trans h3, h4, Nat.lt_of_lt_of_le h5 hb.size⟩
theorem BoxV.below {base : Nat} {cells : Array Value} {T : TypeId} {v : Value} {W W' : World} (h : BoxV base cells T v W) (hb : Below W.heap.size W W') : BoxV base cells T v W' := by
  obtain ⟨g, h1, h2, h3, h5⟩ := h
  exact ⟨g, h1, h2, (hb.block g h5).trans h3, Nat.lt_of_lt_of_le h5 hb.size⟩
theorem Vals3.below {vals : List Value} {al st base : Nat} {cells : Array Value} {T : TypeId} {W W' : World} (hb : Below W.heap.size W W') (i : Nat) (v : Value) (h : Vals3 vals al st base cells T i v W) : Vals3 vals al st base cells T i v W' := by
  unfold Vals3 at h ⊢
  cases h1 : Nat.beq i al
  · rw [h1] at h
    cases h2 : Nat.beq i st
    · rw [h2] at h; exact h
    · rw [h2] at h; exact BoxV.below h hb
  · rw [h1] at h; exact OwnV.below h hb
/-- The store keeps what is known. -/
theorem Vals3.store {vals : List Value} {al st base : Nat} {cells old : Array Value} {T : TypeId} {W : World} {g : Nat} (hg : W.heap[g]? = some (.cells old T (0, 0))) (i : Nat) (v : Value) (h : Vals3 vals al st base cells T i v W) :
    Vals3 vals al st base cells T i v (W.setRow g cells) := by
  have hsz : (W.setRow g cells).heap.size = W.heap.size := by simp [World.setRow]
  unfold Vals3 at h ⊢
  cases h1 : Nat.beq i al
  · rw [h1] at h
    cases h2 : Nat.beq i st
    · rw [h2] at h; exact h
    · rw [h2] at h
      obtain ⟨k, a1, a2, a3, a4⟩ := h
      refine ⟨k, a1, a2, ?_, by rw [hsz]; exact a4⟩
      by_cases e : k = g
      · subst e; exact setRow_heap W k old cells T (0, 0) hg
      · rw [setRow_other W g k cells e]; exact a3
  · rw [h1] at h
    obtain ⟨k, cs, a1, a2, a3, a4, a5⟩ := h
    by_cases e : k = g
    · subst e; exact ⟨k, cells, a1, a2, setRow_heap W k old cells T (0, 0) hg, rfl, by rw [hsz]; exact a5⟩
    · exact ⟨k, cs, a1, a2, by rw [setRow_other W g k cells e]; exact a3, a4, by rw [hsz]; exact a5⟩
end Go.Proofs.Ytogiocinhjbdkaa
