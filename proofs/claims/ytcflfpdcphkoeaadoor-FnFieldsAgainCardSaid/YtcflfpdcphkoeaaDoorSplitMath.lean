/- The plain mathematics of splitting a line into fields. -/
import Derived.RowKit
namespace Go.Proofs.YtcflfpdcphkoeaaDoor

/-- A field is added unless it is empty. -/
def pushF (s : ByteArray) (b k : Nat) (fs : List ByteArray) : List ByteArray := if b < k then fs ++ [s.extract b k] else fs
/-- The fields that are closed before byte k, and where the open one begins. -/
def fieldsAt (s : ByteArray) : Nat → List ByteArray × Nat
  | 0 => ([], 0)
  | k + 1 => if (s.data.toList.getD k 0).toNat = 32 then (pushF s (fieldsAt s k).2 k (fieldsAt s k).1, k + 1) else fieldsAt s k
def goodTo (s : ByteArray) (k : Nat) : Prop := ∀ j, j < k → 32 ≤ (s.data.toList.getD j 0).toNat ∧ (s.data.toList.getD j 0).toNat ≤ 126
def splitAll (s : ByteArray) : List ByteArray := pushF s (fieldsAt s s.size).2 s.size (fieldsAt s s.size).1

instance (s : ByteArray) (k : Nat) : Decidable (goodTo s k) := by unfold goodTo; infer_instance
/-- Whether the line is accepted. -/
def splitB (s : ByteArray) : Bool := decide (s.size ≤ 600 ∧ goodTo s s.size ∧ (splitAll s).length ≤ 24)
def splitL (s : ByteArray) : List ByteArray := if splitB s = true then splitAll s else []

theorem fieldsAt_le (s : ByteArray) (k : Nat) : (fieldsAt s k).2 ≤ k := by
  induction k with
  | zero => exact Nat.le_refl _
  | succ k ih => rw [fieldsAt]; split; exact Nat.le_refl _; omega
theorem fieldsAt_length (s : ByteArray) (k : Nat) : (fieldsAt s k).1.length ≤ k := by
  induction k with
  | zero => exact Nat.le_refl _
  | succ k ih =>
    rw [fieldsAt]
    split
    · show (pushF s _ k _).length ≤ k + 1
      unfold pushF
      split
      · rw [List.length_append]; simp; omega
      · omega
    · omega
theorem byte_at (s : ByteArray) (k : Nat) (h : k < s.size) : s.data.toList.getD k 0 = s[k] := by
  rw [List.getD_eq_getElem?_getD, List.getElem?_eq_getElem (by simpa using h)]
  rfl
theorem fieldsAt_space (s : ByteArray) (k : Nat) (h : k < s.size) (hc : s[k].toNat = 32) : fieldsAt s (k + 1) = (pushF s (fieldsAt s k).2 k (fieldsAt s k).1, k + 1) := by
  rw [fieldsAt, byte_at s k h, if_pos hc]
theorem fieldsAt_other (s : ByteArray) (k : Nat) (h : k < s.size) (hc : s[k].toNat ≠ 32) : fieldsAt s (k + 1) = fieldsAt s k := by
  rw [fieldsAt, byte_at s k h, if_neg hc]
theorem goodTo_succ (s : ByteArray) (k : Nat) (h : k < s.size) (hg : goodTo s k) (hc : 32 ≤ s[k].toNat ∧ s[k].toNat ≤ 126) : goodTo s (k + 1) := by
  intro j hj
  by_cases hjk : j = k
  · subst hjk; rw [byte_at s j h]; exact hc
  · exact hg j (by omega)
theorem not_good (s : ByteArray) (k : Nat) (h : k < s.size) (hc : ¬ (32 ≤ s[k].toNat ∧ s[k].toNat ≤ 126)) : ¬ goodTo s s.size := fun hg => by
  have := hg k h
  rw [byte_at s k h] at this
  exact hc this
theorem split_long (s : ByteArray) (h : 600 < s.size) : splitB s = false ∧ splitL s = [] := by
  have hb : splitB s = false := by unfold splitB; rw [decide_eq_false_iff_not]; omega
  exact ⟨hb, by unfold splitL; rw [hb]; rfl⟩
theorem split_bad (s : ByteArray) (k : Nat) (h : k < s.size) (hc : ¬ (32 ≤ s[k].toNat ∧ s[k].toNat ≤ 126)) : splitB s = false ∧ splitL s = [] := by
  have hb : splitB s = false := by unfold splitB; rw [decide_eq_false_iff_not]; exact fun hh => not_good s k h hc hh.2.1
  exact ⟨hb, by unfold splitL; rw [hb]; rfl⟩
theorem split_many (s : ByteArray) (h : 24 < (splitAll s).length) : splitB s = false ∧ splitL s = [] := by
  have hb : splitB s = false := by unfold splitB; rw [decide_eq_false_iff_not]; omega
  exact ⟨hb, by unfold splitL; rw [hb]; rfl⟩
theorem split_ok (s : ByteArray) (h : s.size ≤ 600) (hg : goodTo s s.size) (hl : (splitAll s).length ≤ 24) : splitB s = true ∧ splitL s = splitAll s := by
  have hb : splitB s = true := by unfold splitB; rw [decide_eq_true_eq]; exact ⟨h, hg, hl⟩
  exact ⟨hb, by unfold splitL; rw [hb]; rfl⟩
theorem splitL_length (s : ByteArray) : (splitL s).length ≤ 24 := by
  unfold splitL
  split
  · rename_i h
    unfold splitB at h
    rw [decide_eq_true_eq] at h
    exact h.2.2
  · simp

end Go.Proofs.YtcflfpdcphkoeaaDoor
