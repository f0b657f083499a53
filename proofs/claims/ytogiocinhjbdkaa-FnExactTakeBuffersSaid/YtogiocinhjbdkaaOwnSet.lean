/- A cell of a row of the call's own is written. -/
import Derived.Test.YtogiocinhjbdkaaApp
namespace Go.Proofs.Ytogiocinhjbdkaa
open Go.RowKit
set_option linter.unusedVariables false
theorem flat_set {m : Nat} : ∀ (xs : List (Array Value)), (∀ x ∈ xs, x.size = m) → ∀ (i j : Nat) (x : Array Value) (u : Value), xs[i]? = some x → j < m → (xs.flatMap (·.toList)).set (i * m + j) u = (xs.set i (x.setIfInBounds j u)).flatMap (·.toList)
  | [], _, i, j, x, u, h, _ => by simp at h
  | y :: ys, hs, 0, j, x, u, h, hj => by
    obtain rfl : y = x := by simpa using h
    have h1 := hs y (by simp)
    rw [Nat.zero_mul, Nat.zero_add, List.flatMap_cons, List.set_append_left _ _ (by simpa [h1] using hj)]
    simp
  | y :: ys, hs, i + 1, j, x, u, h, hj => by
    have h1 := hs y (by simp)
    have h2 : y.toList.length = m := by simpa using h1
    have ih := flat_set ys (fun x hx => hs x (by simp [hx])) i j x u (by simpa using h) hj
    rw [List.flatMap_cons, List.set_append_right _ _ (by rw [h2, Nat.add_mul]; omega), h2, show (i + 1) * m + j - m = i * m + j by rw [Nat.add_mul]; omega, ih]
    simp
theorem Ownd.setAt {W : World} {B : Nat} {T : TypeId} {m : Nat} {v : Value} {xs : List (Array Value)} (h : Ownd W B T m v xs) (hs : ∀ x ∈ xs, x.size = m) {i j : Nat} {x : Array Value} (hi : xs[i]? = some x) (hj : j < m) :
    ∃ g c cur, v = .slice (some ⟨g, 0, none⟩) xs.length c ∧ B ≤ g ∧ W.heap[g]? = some (.cells cur T (0, 0)) ∧ (∃ old, W.cell? ⟨g, i * m + j, none⟩ = some old) ∧ W.frozen? ⟨g, i * m + j, none⟩ = false ∧
      ∀ u, Ownd (W.setCell ⟨g, i * m + j, none⟩ u) B T m v (xs.set i (x.setIfInBounds j u)) := by
  have hlt : i < xs.length := (List.getElem?_eq_some_iff.1 hi).1
  rcases h with ⟨hl, ⟨rfl, h⟩ | ⟨g, cap, cur, rfl, hb, hg, hc, hm, hsz, ht⟩⟩ | ⟨rfl, a, rfl⟩
  · omega
  · have hp : i * m + j < xs.length * m := row_at_lt hlt hj
    have hp2 : i * m + j < cur.size := by
      have := Nat.mul_le_mul_right m hc
      rw [hsz]; omega
    refine ⟨g, cap, cur, rfl, hb, hg, ⟨cur[i * m + j], by rw [cell_of_row W g _ cur T (0, 0) hg]; exact Array.getElem?_eq_getElem hp2⟩, frozen_of_row W g _ cur T hg, fun u => ?_⟩
    refine .inl ⟨?_, .inr ⟨g, cap, _, by simp, hb, heap_setCell_same W g (i * m + j) cur T u hg, by simpa using hc, hm, by simpa using hsz, ?_⟩⟩
    · rw [← flat_set xs hs i j x u hi hj]; simp [hl]
    · rw [← flat_set xs hs i j x u hi hj, Array.toList_setIfInBounds, List.length_set, List.take_set, ht]
  · simp at hi
theorem Row.setAt {W : World} {S : Nat → Prop} {T : TypeId} {m : Nat} {v : Value} {xs : List (Array Value)} (h : Row W S T m v xs) (hs : ∀ x ∈ xs, x.size = m) {i j : Nat} {x : Array Value} (hi : xs[i]? = some x) (hj : j < m) :
    ∃ g c cur, v = .slice (some ⟨g, 0, none⟩) xs.length c ∧ S g ∧ W.heap[g]? = some (.cells cur T (0, 0)) ∧ (∃ old, W.cell? ⟨g, i * m + j, none⟩ = some old) ∧ W.frozen? ⟨g, i * m + j, none⟩ = false ∧
      ∀ u, Row (W.setCell ⟨g, i * m + j, none⟩ u) S T m v (xs.set i (x.setIfInBounds j u)) := by
  have hlt : i < xs.length := (List.getElem?_eq_some_iff.1 hi).1
  rcases h with ⟨rfl, _⟩ | ⟨h0, g, c, cs, rfl, h2, h4, h5, h6⟩
  · simp at hi
  · have hp : i * m + j < xs.length * m := row_at_lt hlt hj
    have hp2 : i * m + j < cs.size := by omega
    refine ⟨g, c, cs, rfl, h2, h4, ⟨cs[i * m + j], by rw [cell_of_row W g _ cs T (0, 0) h4]; exact Array.getElem?_eq_getElem hp2⟩, frozen_of_row W g _ cs T h4, fun u => ?_⟩
    refine .inr ⟨fun e => h0 (by have h := congrArg List.length e; simp at h; exact h), g, c, _, by simp, h2, heap_setCell_same W g (i * m + j) cs T u h4, by simpa using h5, fun i' x' hx' j' hj' => ?_⟩
    rw [List.getElem?_set] at hx'
    by_cases e : i = i'
    · subst e
      simp only [hlt, if_true, Option.some.injEq] at hx'
      subst hx'
      by_cases ej : j = j'
      · subst ej
        have hxs : j < x.size := by rw [hs x (List.mem_of_getElem? hi)]; exact hj
        rw [Array.getElem?_setIfInBounds_self_of_lt hp2, Array.getElem?_setIfInBounds_self_of_lt hxs]
      · rw [Array.getElem?_setIfInBounds_ne (by omega), Array.getElem?_setIfInBounds_ne ej]
        exact h6 i x hi j' hj'
    · rw [if_neg e] at hx'
      have hi' : i' < xs.length := (List.getElem?_eq_some_iff.1 hx').1
      rw [Array.getElem?_setIfInBounds_ne (fun e2 => e (by
        have h1 : i = (i * m + j) / m := by rw [Nat.add_comm, Nat.add_mul_div_right _ _ (by omega), Nat.div_eq_of_lt hj, Nat.zero_add]
        have h2' : i' = (i' * m + j') / m := by rw [Nat.add_comm, Nat.add_mul_div_right _ _ (by omega), Nat.div_eq_of_lt hj', Nat.zero_add]
        rw [h1, e2, ← h2']))]
      exact h6 i' x' hx' j' hj'
theorem Box.apart {W : World} {g k : Nat} {vs cur : Array Value} {t T : TypeId} (h : Box W g vs t) (hk : W.heap[k]? = some (.cells cur T (0, 0))) (hT : (t == T) = false) : ¬ g = k := fun e => by
  subst e
  unfold Box at h
  rw [h] at hk
  cases hk
  simp at hT
theorem List.set_map_arr {α : Type} (f : α → Array Value) (l : List α) (i : Nat) (y : α) (h : ∀ (h : i < l.length), True) : (l.map f).set i (f y) = (l.set i y).map f := by
  rw [List.map_set]
end Go.Proofs.Ytogiocinhjbdkaa
