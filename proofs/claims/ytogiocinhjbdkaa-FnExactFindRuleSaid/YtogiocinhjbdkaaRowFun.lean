/- The first element of a list with a property. -/
import Derived.Test.YtogiocinhjbdkaaRows2
namespace Go.Proofs.Ytogiocinhjbdkaa
def idxP {α : Type} (p : α → Bool) : List α → Nat → Int
  | [], _ => -1
  | x :: l, k => if p x = true then k else idxP p l (k + 1)
theorem idxP_skip {α : Type} (p : α → Bool) (l : List α) : ∀ (k m : Nat), k ≤ l.length → (∀ j, j < k → (h : j < l.length) → p l[j] = false) → idxP p l m = idxP p (l.drop k) (m + k) := by
  induction l with
  | nil => intro k m hk _; simp at hk; subst hk; rfl
  | cons x l ih =>
    intro k m hk h
    rcases k with _ | k
    · rfl
    · have h0 := h 0 (by omega) (by simp)
      rw [List.getElem_cons_zero] at h0
      rw [List.drop_succ_cons, idxP, if_neg (by rw [h0]; decide), ih k (m + 1) (by simpa using hk) (fun j hj hl => by have := h (j + 1) (by omega) (by simpa using hl); rwa [List.getElem_cons_succ] at this), show m + 1 + k = m + (k + 1) by omega]
theorem idxP_hit {α : Type} (p : α → Bool) (l : List α) (k : Nat) (hk : k < l.length) (h : ∀ j, j < k → (h : j < l.length) → p l[j] = false) (e : p l[k] = true) : idxP p l 0 = k := by
  rw [idxP_skip p l k 0 (by omega) h, List.drop_eq_getElem_cons hk, idxP, if_pos e, Nat.zero_add]
theorem idxP_none {α : Type} (p : α → Bool) (l : List α) (h : ∀ j, j < l.length → (h : j < l.length) → p l[j] = false) : idxP p l 0 = -1 := by
  rw [idxP_skip p l l.length 0 (Nat.le_refl _) h, List.drop_length]; rfl
theorem any_hit {α : Type} {p : α → Bool} {l : List α} {k : Nat} (hk : k < l.length) (e : p l[k] = true) : l.any p = true := List.any_eq_true.2 ⟨_, List.getElem_mem hk, e⟩
theorem any_none {α : Type} {p : α → Bool} {l : List α} (h : ∀ j, j < l.length → (h : j < l.length) → p l[j] = false) : l.any p = false := List.any_eq_false.2 fun x hx => by
  obtain ⟨j, hj, rfl⟩ := List.getElem_of_mem hx
  rw [h j hj hj]; decide
theorem all_stop {α : Type} {p : α → Bool} {l : List α} {k : Nat} (hk : k < l.length) (e : p l[k] = false) : l.all p = false := List.all_eq_false.2 ⟨_, List.getElem_mem hk, by rw [e]; decide⟩
theorem all_end {α : Type} {p : α → Bool} {l : List α} (h : ∀ j, j < l.length → (h : j < l.length) → p l[j] = true) : l.all p = true := List.all_eq_true.2 fun x hx => by
  obtain ⟨j, hj, rfl⟩ := List.getElem_of_mem hx
  exact h j hj hj
theorem idxP_any {α : Type} (p : α → Bool) (l : List α) (k : Nat) : decide (0 ≤ idxP p l k) = l.any p := by
  induction l generalizing k with
  | nil => rfl
  | cons x l ih =>
    rw [idxP, List.any_cons]
    by_cases h : p x = true
    · rw [if_pos h, h]; simp
    · rw [if_neg h, Bool.eq_false_iff.2 h, ih (k + 1), Bool.false_or]
theorem upto_step {α : Type} {q : α → Prop} {l : List α} {k : Nat} (hk : k < l.length) (H : ∀ j, j < k → (h : j < l.length) → q l[j]) (e : q l[k]) : ∀ j, j < k + 1 → (h : j < l.length) → q l[j] := fun j hj h => by
  rcases Nat.lt_succ_iff_lt_or_eq.1 hj with h1 | rfl
  · exact H j h1 h
  · exact e
end Go.Proofs.Ytogiocinhjbdkaa
