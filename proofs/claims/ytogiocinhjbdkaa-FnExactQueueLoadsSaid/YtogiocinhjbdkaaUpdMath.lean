/- What a changed word does to the sum: the updated checksum is the one of the changed data, unless these are all zero. -/
import Derived.Test.YtogiocinhjbdkaaSumMath
namespace Go.Proofs.Ytogiocinhjbdkaa

/-- The plain sum of the 16-bit numbers of a list. -/
def tot : List UInt8 → Nat
  | a :: b :: r => a.toNat * 256 + b.toNat + tot r
  | [a] => a.toNat * 256
  | [] => 0
/-- The ones' complement form of a sum. -/
def rep (n : Nat) : Nat := if n = 0 then 0 else (n - 1) % 65535 + 1
theorem rep_pos (n : Nat) (h : n ≠ 0) : rep n = (n - 1) % 65535 + 1 := by unfold rep; rw [if_neg h]
theorem rep_small (n : Nat) (h : n ≤ 65535) : rep n = n := by
  by_cases h0 : n = 0
  · subst h0; rfl
  · rw [rep_pos n h0]; omega
theorem rep_le (n : Nat) : rep n ≤ 65535 := by unfold rep; split <;> omega
theorem rep_add (x m : Nat) (hx : x ≤ 65535) : addS (rep m : Nat) (x : Nat) = (rep (m + x) : Nat) := by
  have hm := rep_le m
  unfold addS
  rw [if_pos (by omega)]
  by_cases h0 : m = 0
  · subst h0
    rw [show rep 0 = 0 from rfl, Nat.zero_add, rep_small x hx, if_neg (by omega)]
    omega
  · rw [rep_pos m h0, rep_pos (m + x) (by omega)]
    split <;> omega
theorem sum_rep : ∀ (l : List UInt8) (m : Nat), sumL (rep m : Nat) l = (rep (m + tot l) : Nat)
  | [], m => rfl
  | [a], m => by
    have ha := UInt8.toNat_lt a
    simp only [sumL, tot]
    rw [show (a.toNat : Int) * 256 = ((a.toNat * 256 : Nat) : Int) from by omega, rep_add _ _ (by omega)]
  | a :: b :: l, m => by
    have ha := UInt8.toNat_lt a
    have hb := UInt8.toNat_lt b
    simp only [sumL, tot]
    rw [show (a.toNat : Int) * 256 + (b.toNat : Int) = ((a.toNat * 256 + b.toNat : Nat) : Int) from by omega, rep_add _ _ (by omega), sum_rep l, Nat.add_assoc]
theorem sumW_rep (s : ByteArray) : sumW s = (rep (tot s.data.toList) : Nat) := by
  have := sum_rep s.data.toList 0
  rw [Nat.zero_add] at this
  exact this
theorem tot_app : ∀ (l r : List UInt8), l.length % 2 = 0 → tot (l ++ r) = tot l + tot r
  | [], r, _ => by simp [tot]
  | [a], r, h => by simp at h
  | a :: b :: l, r, h => by simp [tot, tot_app l r (by simp at h; omega)]; omega
theorem rep_zero (n : Nat) : rep n = 0 ↔ n = 0 := by unfold rep; split <;> omega
/-- The law of the update, on plain sums: one word b of the sum becomes a. -/
theorem upd_rep (n b a : Nat) (hb : b ≤ 65535) (ha : a ≤ 65535) (hn : b ≤ n) (h0 : n - b + a ≠ 0) :
    65535 - addS (addS (65535 - (65535 - (rep n : Nat))) (65535 - (b : Nat))) (a : Nat) = 65535 - ((rep (n - b + a) : Nat) : Int) := by
  have hr := rep_le n
  rw [show (65535 : Int) - (65535 - (rep n : Nat)) = (rep n : Nat) from by omega, show (65535 : Int) - (b : Nat) = ((65535 - b : Nat) : Int) from by omega, rep_add _ _ (by omega), rep_add _ _ ha]
  have e : rep (n + (65535 - b) + a) = rep (n - b + a) := by
    rw [rep_pos _ h0, rep_pos _ (by omega)]
    omega
  rw [e]

end Go.Proofs.Ytogiocinhjbdkaa
