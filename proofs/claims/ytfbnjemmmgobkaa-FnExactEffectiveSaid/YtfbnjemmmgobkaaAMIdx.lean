/- The first place of a row with a property. -/
import Derived.Test.YtfbnjemmmgobkaaAM25
namespace Go.Proofs.Ytfbnjemmmgobkaa
open Go.RowKit AM
set_option linter.unusedVariables false
set_option linter.unusedSimpArgs false

def idxI {α : Type} (q : α → Bool) : List α → Int
  | [] => -1
  | e :: r => if q e then 0 else (if idxI q r = -1 then -1 else idxI q r + 1)
theorem idxI_lo {α : Type} (q : α → Bool) : ∀ l : List α, -1 ≤ idxI q l ∧ idxI q l < l.length
  | [] => by simp [idxI]
  | e :: r => by
    have := idxI_lo q r
    simp only [idxI, List.length_cons]
    split
    · omega
    · split <;> omega
theorem idxI_none {α : Type} (q : α → Bool) : ∀ l : List α, (∀ (j : Nat) e, j < l.length → l[j]? = some e → q e = false) → idxI q l = -1
  | [], _ => rfl
  | e :: r, h => by
    have h0 := h 0 e (by simp) rfl
    have h1 := idxI_none q r (fun j x hj hx => h (j + 1) x (by simpa using hj) (by simpa using hx))
    simp [idxI, h0, h1]
theorem idxI_found {α : Type} (q : α → Bool) : ∀ (l : List α) (i : Nat) (e : α), l[i]? = some e → q e = true → (∀ (j : Nat) x, j < i → l[j]? = some x → q x = false) → idxI q l = i
  | [], i, e, h, _, _ => by simp at h
  | x :: r, 0, e, h, hq, _ => by cases h; simp [idxI, hq]
  | x :: r, i + 1, e, h, hq, hb => by
    have h0 := hb 0 x (by omega) rfl
    have h1 := idxI_found q r i e (by simpa using h) hq (fun j y hj hy => hb (j + 1) y (by omega) (by simpa using hy))
    simp only [idxI, h0, h1, Bool.false_eq_true, if_false]
    rw [if_neg (by omega)]; omega
theorem idxI_at {α : Type} (q : α → Bool) : ∀ l : List α, (idxI q l = -1 ∧ l.find? q = none) ∨ ∃ (k : Nat) (e : α), idxI q l = k ∧ l[k]? = some e ∧ l.find? q = some e
  | [] => .inl ⟨rfl, rfl⟩
  | x :: r => by
    cases hq : q x with
    | true => exact .inr ⟨0, x, by simp [idxI, hq], rfl, by simp [List.find?, hq]⟩
    | false =>
      rcases idxI_at q r with ⟨h1, h2⟩ | ⟨k, e, h1, h2, h3⟩
      · exact .inl ⟨by simp [idxI, hq, h1], by simp [List.find?, hq, h2]⟩
      · refine .inr ⟨k + 1, e, ?_, by simpa using h2, by simp [List.find?, hq, h3]⟩
        simp only [idxI, hq, h1, Bool.false_eq_true, if_false]
        rw [if_neg (by omega)]; omega
theorem idxI_no {α : Type} (q : α → Bool) : ∀ (l : List α), idxI q l = -1 → ∀ (j : Nat) (x : α), l[j]? = some x → q x = false
  | [], _, j, x, hx => by simp at hx
  | y :: r, h, j, x, hx => by
    have hlo := (idxI_lo q r).1
    cases hq : q y with
    | true => simp [idxI, hq] at h
    | false =>
      have h1 : idxI q r = -1 := by
        simp only [idxI, hq, Bool.false_eq_true, if_false] at h
        split at h
        · assumption
        · omega
      match j with
      | 0 => simp at hx; subst hx; exact hq
      | j + 1 => exact idxI_no q r h1 j x (by simpa using hx)
theorem exp_rows_eq {α : Type} {h : Heap} {fr : Bool} {L : List α} {rows : List (List CV)} {cells : α → List CV} {pv : α → List PV} {T : TypeId} {m b n : Nat} (hb : h[b]? = some (some ⟨T, m, rows⟩)) (hr : rows = L.map cells) (hn : n = L.length) (hc : ∀ x, cells x = (pv x).map .p) (hf : ∀ x, ((pv x).all fun | .val _ => true | _ => false) = true) : ExpC fr h (.sl m b 0 n) (.p (.view m (L.map pv))) := by subst hr; exact exp_rows hb hn hc hf
theorem idxI_ge {α : Type} (q : α → Bool) (l : List α) : 0 ≤ idxI q l ↔ ∃ (j : Nat) (x : α), l[j]? = some x ∧ q x = true := by
  constructor
  · intro h
    rcases idxI_at q l with ⟨h1, _⟩ | ⟨k, e, h1, h2, h3⟩
    · omega
    · exact ⟨k, e, h2, by have := List.find?_some h3; exact this⟩
  · rintro ⟨j, x, h1, h2⟩
    have hlo := (idxI_lo q l).1
    rcases Int.lt_or_le (idxI q l) 0 with h | h
    · have := idxI_no q l (by omega) j x h1
      rw [h2] at this; cases this
    · exact h
theorem idxI_all {α : Type} (q : α → Bool) (l : List α) : idxI q l = -1 ↔ ∀ e ∈ l, q e = false := by
  constructor
  · intro h e he
    obtain ⟨j, hj⟩ := List.getElem?_of_mem he
    exact idxI_no q l h j e hj
  · intro h
    exact idxI_none q l (fun j e _ hj => h e (List.mem_of_getElem? hj))
end Go.Proofs.Ytfbnjemmmgobkaa
