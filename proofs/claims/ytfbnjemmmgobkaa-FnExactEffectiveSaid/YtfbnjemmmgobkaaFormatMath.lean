/- The plain mathematics of decimal numerals. -/
import Derived.Lib.ItoaNum
import Derived.RowKit
namespace Go.Proofs.Ytfbnjemmmgobkaa
open Go.Lib (decDigits itoa)

/-- The digits of a number; none for 0. -/
def decD (u : Nat) : List UInt8 := if u = 0 then [] else decDigits u
theorem decD_zero : decD 0 = [] := rfl
theorem decD_step (u : Nat) (h : u ≠ 0) : decD u = decD (u / 10) ++ [UInt8.ofNat (48 + u % 10)] := by
  unfold decD
  rw [if_neg h, decDigits]
  by_cases h1 : u < 10
  · rw [dif_pos h1, if_pos (by omega), Nat.mod_eq_of_lt h1]; rfl
  · rw [dif_neg h1, if_neg (by omega)]
theorem decD_pos (u : Nat) (h : u ≠ 0) : decD u = decDigits u := by unfold decD; rw [if_neg h]
theorem decDigits_ne (u : Nat) : decDigits u ≠ [] := by
  rw [decDigits]; split <;> simp
theorem decD_length_le (u k : Nat) (h : u < 10 ^ k) : (decD u).length ≤ k := by
  induction k generalizing u with
  | zero => have : u = 0 := by simpa using h
            subst this; simp [decD]
  | succ k ih =>
    by_cases h0 : u = 0
    · subst h0; simp [decD]
    · rw [decD_step u h0]
      have := ih (u / 10) (by rw [Nat.pow_succ] at h; omega)
      simp; omega
theorem itoa_of_decD (n : Int) (h : n ≠ 0) : itoa n = if n < 0 then 45 :: decD n.natAbs else decD n.natAbs := by
  unfold itoa
  rw [decD_pos _ (by omega)]
  split
  · rfl
  · congr 1; omega
/-- The state of the loop: what is left to write, what has been written. -/
def FmtRel (u m : Nat) (s : ByteArray) : Prop := decD m ++ s.data.toList = decD u ∧ s.size ≤ 20
theorem fmt_step (u m : Nat) (s : ByteArray) (h : FmtRel u m s) (hm : m ≠ 0) (hu : u < 10 ^ 19) : FmtRel u (m / 10) (⟨#[UInt8.ofNat (48 + m % 10)]⟩ ++ s) := by
  obtain ⟨h1, h2⟩ := h
  rw [decD_step m hm] at h1
  have hl := decD_length_le u 19 hu
  have h3 : decD (m / 10) ++ ((⟨#[UInt8.ofNat (48 + m % 10)]⟩ : ByteArray) ++ s).data.toList = decD u := by
    rw [← h1]; simp
  refine ⟨h3, ?_⟩
  have h4 := congrArg List.length h3
  generalize UInt8.ofNat (48 + m % 10) = x at h4 ⊢
  have h5 : ((⟨#[x]⟩ : ByteArray) ++ s).data.toList.length = ((⟨#[x]⟩ : ByteArray) ++ s).size := by simp only [Array.length_toList]; rfl
  rw [List.length_append, h5] at h4
  omega

end Go.Proofs.Ytfbnjemmmgobkaa
