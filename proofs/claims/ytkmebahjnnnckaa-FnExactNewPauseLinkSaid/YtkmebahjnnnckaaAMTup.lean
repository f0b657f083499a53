/- The abstract machine: answers of several values with own memory. -/
import Derived.Test.YtkmebahjnnnckaaAM25
namespace Go.Proofs.Ytkmebahjnnnckaa
open Go.RowKit
set_option linter.unusedVariables false
set_option linter.unusedSimpArgs false
namespace AM
inductive Wk1s (ι : Nat → Nat) (n : Nat) : List A1 → List A1 → Prop
  | nil : Wk1s ι n [] []
  | cons {y x : A1} {r q : List A1} (hx : WkA ι n (.a y) (.a x)) (hr : Wk1s ι n r q) : Wk1s ι n (y :: r) (x :: q)
theorem Wk1s.at {ι : Nat → Nat} {n : Nat} {r q : List A1} (h : Wk1s ι n r q) : r.length = q.length ∧ ∀ (j : Nat) c, q[j]? = some c → ∃ y, r[j]? = some y ∧ WkA ι n (.a y) (.a c) := by
  induction h with
  | nil => exact ⟨rfl, fun j c hj => by simp at hj⟩
  | cons hx hr ih =>
    refine ⟨by simp [ih.1], fun j c hj => ?_⟩
    cases j with
    | zero => cases hj; exact ⟨_, rfl, hx⟩
    | succ j => exact ih.2 j c (by simpa using hj)
theorem wk_tup {ι : Nat → Nat} {n : Nat} {r q : List A1} (h : Wk1s ι n r q) : WkA ι n (.tup r) (.tup q) := fun v ρ w hx => by
  obtain ⟨k1, k2⟩ := h.at
  obtain ⟨vs, h1, h2, h3⟩ := hx
  refine ⟨vs, h1, by omega, fun j c hj => ?_⟩
  obtain ⟨y, h4, h5⟩ := k2 j c hj
  obtain ⟨u, h6, h7⟩ := h3 j y h4
  exact ⟨u, h6, h5 _ _ _ h7⟩
end AM
end Go.Proofs.Ytkmebahjnnnckaa
