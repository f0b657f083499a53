/- Rows of ints: the two ways to say what they hold. -/
import Derived.Test.YtogiocinhjbdkaaRowInt
import Derived.Test.YtogiocinhjbdkaaToInts
namespace Go.Proofs.Ytogiocinhjbdkaa
open Go.RowKit
theorem IntRow.of_row {W : World} {S : Nat → Prop} {v : Value} {l : List Int} (h : Row W S 3 1 v (l.map intrA)) : IntRow W 0 v l.length (fun j => l.getD j 0) := by
  rcases h with ⟨h, a, c, rfl⟩ | ⟨h0, g, c, cs, rfl, h2, h4, h5, h6⟩
  · have : l = [] := by simpa using h
    subst this
    exact .inl ⟨rfl, a, c, rfl⟩
  · rw [List.length_map] at h5 ⊢
    refine .inr ⟨by rcases l with _ | ⟨x, r⟩; exact absurd rfl h0; simp, g, c, cs, rfl, Nat.zero_le _, (Array.getElem?_eq_some_iff.1 h4).1, h4, ⟨by simpa using h5.1, h5.2⟩, fun j hj => ?_⟩
    have h := h6 j (intrA l[j]) (by simp [hj]) 0 (by omega)
    rw [Nat.mul_one, Nat.add_zero] at h
    rw [h]
    simp [intrA, hj]
theorem Row.of_introw {W : World} {S : Nat → Prop} {B n : Nat} {v : Value} {f : Nat → Int} {l : List Int} (h : IntRow W B v n f) (hl : l.length = n) (hf : ∀ (j : Nat) (h : j < l.length), f j = l[j]) (hS : ∀ g, B ≤ g → g < W.heap.size → S g) : Row W S 3 1 v (l.map intrA) := by
  subst hl
  rcases h with ⟨h, a, c, rfl⟩ | ⟨h0, g, c, cs, rfl, h2, h3, h4, h5, h6⟩
  · exact .inl ⟨by rw [List.eq_nil_of_length_eq_zero h]; rfl, a, c, rfl⟩
  · refine .inr ⟨fun e => by simp at e; rw [e] at h0; simp at h0, g, c, cs, by rw [List.length_map], hS g h2 h3, h4, by rw [List.length_map]; exact ⟨by simpa using h5.1, h5.2⟩, fun i x hx j hj => ?_⟩
    obtain rfl : j = 0 := by omega
    rw [List.getElem?_map] at hx
    obtain ⟨hi, hx2⟩ : ∃ h : i < l.length, intrA l[i] = x := by
      rcases Nat.lt_or_ge i l.length with h | h
      · rw [List.getElem?_eq_getElem h] at hx; exact ⟨h, by simpa using hx⟩
      · rw [List.getElem?_eq_none h] at hx; cases hx
    rw [Nat.mul_one, Nat.add_zero, h6 i hi, hf i hi, ← hx2]
    rfl
end Go.Proofs.Ytogiocinhjbdkaa
