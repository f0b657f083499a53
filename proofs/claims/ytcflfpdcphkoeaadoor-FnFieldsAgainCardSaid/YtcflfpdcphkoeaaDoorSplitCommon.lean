/- What SplitFields leaves, in the model and in the program. -/
import Derived.Test.YtcflfpdcphkoeaaDoorStrsOwn
import Derived.Test.YtcflfpdcphkoeaaDoorSplitMath
namespace Go.Proofs.YtcflfpdcphkoeaaDoor
open Go.RowKit

/-- What SplitFields leaves. -/
def SplitPost (s : ByteArray) (w : World) (e : Ending) (w' : World) : Prop :=
  ∃ v, e = .returned (.tuple #[v, .bool (splitB s)]) ∧ Own w' w.heap.size v (splitL s) ∧ Below w.heap.size w w'

theorem own_empty (w : World) (B : Nat) (hB : B ≤ w.heap.size) : Own (w.alloc (.cells #[] 9)) B (.slice (some ⟨w.heap.size, 0, none⟩) 0 0) [] :=
  World.ownsRow_lit w #[] 0 hB (by unfold maxLen; omega) rfl
theorem own_push {w : World} {B : Nat} {v : Value} {fs : List ByteArray} {x : ByteArray} (h : w.ownsRow B 9 1 v (fs.length + 1) (strs fs ++ [.string x])) : Own w B v (fs ++ [x]) := by
  unfold Own
  rw [strs_append, List.length_append]
  exact h
theorem own_nil (w : World) (B : Nat) : Own w B (.slice none 0 0) [] := World.ownsRow_nil _ _ _ _
theorem split_no {s : ByteArray} {w w' : World} {v : Value} (h : splitB s = false ∧ splitL s = []) (ho : Own w' w.heap.size v []) (hb : Below w.heap.size w w') :
    SplitPost s w (.returned (.tuple #[v, .bool false])) w' := ⟨v, by rw [h.1], by rw [h.2]; exact ho, hb⟩

/-- What holds at the head of round k: the fields closed so far and where the open one begins; behind the last round all fields. -/
def SplitRel (s : ByteArray) (k : Nat) (fs : List ByteArray) (bg : Nat) : Prop :=
  (k ≤ s.size → goodTo s k ∧ fs = (fieldsAt s k).1 ∧ bg = (fieldsAt s k).2) ∧ (s.size < k → goodTo s s.size ∧ fs = splitAll s)
theorem splitRel_start (s : ByteArray) : SplitRel s 0 [] 0 := ⟨fun _ => ⟨fun j hj => by omega, rfl, rfl⟩, fun h => by omega⟩
theorem splitRel_space (s : ByteArray) (k : Nat) (fs : List ByteArray) (bg : Nat) (h : k < s.size) (hr : SplitRel s k fs bg) (hc : s[k].toNat = 32) : SplitRel s (k + 1) (pushF s bg k fs) (k + 1) := by
  obtain ⟨hg, rfl, rfl⟩ := hr.1 (by omega)
  exact ⟨fun _ => ⟨goodTo_succ s k h hg (by omega), by rw [fieldsAt_space s k h hc], by rw [fieldsAt_space s k h hc]⟩, fun h2 => by omega⟩
theorem splitRel_other (s : ByteArray) (k : Nat) (fs : List ByteArray) (bg : Nat) (h : k < s.size) (hr : SplitRel s k fs bg) (hc : 32 ≤ s[k].toNat ∧ s[k].toNat ≤ 126) (hn : s[k].toNat ≠ 32) : SplitRel s (k + 1) fs bg := by
  obtain ⟨hg, rfl, rfl⟩ := hr.1 (by omega)
  exact ⟨fun _ => ⟨goodTo_succ s k h hg hc, by rw [fieldsAt_other s k h hn], by rw [fieldsAt_other s k h hn]⟩, fun h2 => by omega⟩
theorem splitRel_end (s : ByteArray) (fs : List ByteArray) (bg : Nat) (hr : SplitRel s s.size fs bg) (b2 : Nat) : SplitRel s (s.size + 1) (pushF s bg s.size fs) b2 := by
  obtain ⟨hg, rfl, rfl⟩ := hr.1 (Nat.le_refl _)
  exact ⟨fun h => by omega, fun _ => ⟨hg, rfl⟩⟩

end Go.Proofs.YtcflfpdcphkoeaaDoor
