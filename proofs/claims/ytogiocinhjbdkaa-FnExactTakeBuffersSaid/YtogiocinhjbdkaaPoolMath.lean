/- Pools: the plain mathematics. -/
import Derived.Test.YtogiocinhjbdkaaAllIn
namespace Go.Proofs.Ytogiocinhjbdkaa
def nodupB (f : Nat → Int) (n : Nat) : Bool := decide (∀ j : Nat, j < n → ∀ i : Nat, i < j → f i ≠ f j)
/-- Different numbers in a range of m are at most m. -/
theorem pigeon : ∀ (m n : Nat) (f : Nat → Int), (∀ j, j < n → 0 ≤ f j ∧ f j < m) → (∀ j, j < n → ∀ i, i < j → f i ≠ f j) → n ≤ m
  | 0, n, f, h, _ => by
    rcases Nat.eq_zero_or_pos n with h0 | h0
    · omega
    · have := h 0 h0; omega
  | m + 1, n, f, h, hd => by
    by_cases hx : ∃ i, i < n ∧ f i = m
    · obtain ⟨i, hi, he⟩ := hx
      obtain ⟨p, rfl⟩ : ∃ p, n = p + 1 := ⟨n - 1, by omega⟩
      have hne : ∀ a b, a < p + 1 → b < p + 1 → a ≠ b → f a ≠ f b := fun a b ha hb hab => by
        rcases Nat.lt_or_gt_of_ne hab with h1 | h1
        · exact hd b hb a h1
        · exact fun e => hd a ha b h1 e.symm
      have key := pigeon m p (fun j => if j < i then f j else f (j + 1)) (fun j hj => by
        have hb : ∀ q, q < p + 1 → q ≠ i → 0 ≤ f q ∧ f q < m := fun q hq hqi => by
          have h1 := h q hq
          have h2 := hne q i hq hi hqi
          rw [he] at h2
          omega
        split
        · exact hb j (by omega) (by omega)
        · exact hb (j + 1) (by omega) (by omega)) (fun j hj k hk => by
        split <;> split <;> exact hne _ _ (by omega) (by omega) (by omega))
      omega
    · have key := pigeon m n f (fun j hj => by
        have h1 := h j hj
        have h2 : f j ≠ m := fun e => hx ⟨j, hj, e⟩
        omega) hd
      omega
def poolB (ba si co : Int) (n : Nat) (f : Nat → Int) : Bool := decide (0 ≤ ba ∧ ba ≤ 130944) && decide (1 ≤ si ∧ si ≤ 512) && decide (0 ≤ co ∧ co ≤ 16) && allB f n 0 (co - 1) && nodupB f n
theorem poolB_long {ba si co : Int} {n : Nat} {f : Nat → Int} (h : ¬ (n : Int) ≤ co) (h0 : 0 ≤ co) : poolB ba si co n f = false := by
  unfold poolB
  by_cases h1 : allB f n 0 (co - 1) = true
  · by_cases h2 : nodupB f n = true
    · exfalso
      obtain ⟨m, rfl⟩ : ∃ m : Nat, co = m := ⟨co.toNat, by omega⟩
      have := pigeon m n f (fun j hj => by have := of_decide_eq_true h1 j hj; omega) (of_decide_eq_true h2)
      omega
    · rw [Bool.eq_false_iff.2 h2, Bool.and_false]
  · rw [Bool.eq_false_iff.2 h1, Bool.and_false]; rfl
theorem poolB_head {ba si co : Int} {n : Nat} {f : Nat → Int} (h : (decide (0 ≤ ba ∧ ba ≤ 130944) && decide (1 ≤ si ∧ si ≤ 512) && decide (0 ≤ co ∧ co ≤ 16)) = false) : poolB ba si co n f = false := by unfold poolB; rw [h]; rfl
theorem poolB_tail {ba si co : Int} {n : Nat} {f : Nat → Int} (h : (decide (0 ≤ ba ∧ ba ≤ 130944) && decide (1 ≤ si ∧ si ≤ 512) && decide (0 ≤ co ∧ co ≤ 16)) = true) : poolB ba si co n f = (allB f n 0 (co - 1) && nodupB f n) := by unfold poolB; rw [h]; rfl
end Go.Proofs.Ytogiocinhjbdkaa
