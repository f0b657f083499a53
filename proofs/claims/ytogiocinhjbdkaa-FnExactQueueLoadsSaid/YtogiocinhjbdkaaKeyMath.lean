/- Windows of a key: the plain mathematics. -/
import Derived.Test.YtogiocinhjbdkaaBytesMath
import Derived.Test.YtogiocinhjbdkaaCrcMath
namespace Go.Proofs.Ytogiocinhjbdkaa
set_option linter.unusedSimpArgs false
set_option linter.unusedVariables false
/-- Bit i of a string, the first one being the highest of its byte. -/
def bitI (s : ByteArray) (i : Nat) : Int := byteI s (i / 8) / (2 ^ (7 - i % 8) : Nat) % 2
def kwN (s : ByteArray) (b : Nat) : Nat → Int
  | 0 => 0
  | k + 1 => 2 * kwN s b k + bitI s (b + k)
theorem bitI_bd (s : ByteArray) (i : Nat) : 0 ≤ bitI s i ∧ bitI s i ≤ 1 := by unfold bitI; omega
theorem kwN_bd (s : ByteArray) (b : Nat) : ∀ k, 0 ≤ kwN s b k ∧ kwN s b k < (2 ^ k : Nat)
  | 0 => by simp [kwN]
  | k + 1 => by
    have h := kwN_bd s b k
    have h2 := bitI_bd s (b + k)
    simp only [kwN]
    rw [Nat.pow_succ]
    omega
/-- Five bytes as one number. -/
def five (B0 B1 B2 B3 B4 : Nat) : Nat := (((B0 * 256 + B1) * 256 + B2) * 256 + B3) * 256 + B4
theorem five_bit (B0 B1 B2 B3 B4 m : Nat) (h0 : B0 < 256) (h1 : B1 < 256) (h2 : B2 < 256) (h3 : B3 < 256) (h4 : B4 < 256) (hm : m < 40) :
    five B0 B1 B2 B3 B4 / 2 ^ (39 - m) % 2 = (match m / 8 with | 0 => B0 | 1 => B1 | 2 => B2 | 3 => B3 | _ => B4) / 2 ^ (7 - m % 8) % 2 := by
  unfold five
  rcases (show m = 0 ∨ m = 1 ∨ m = 2 ∨ m = 3 ∨ m = 4 ∨ m = 5 ∨ m = 6 ∨ m = 7 ∨ m = 8 ∨ m = 9 ∨ m = 10 ∨ m = 11 ∨ m = 12 ∨ m = 13 ∨ m = 14 ∨ m = 15 ∨ m = 16 ∨ m = 17 ∨ m = 18 ∨ m = 19 ∨ m = 20 ∨ m = 21 ∨ m = 22 ∨ m = 23 ∨ m = 24 ∨ m = 25 ∨ m = 26 ∨ m = 27 ∨ m = 28 ∨ m = 29 ∨ m = 30 ∨ m = 31 ∨ m = 32 ∨ m = 33 ∨ m = 34 ∨ m = 35 ∨ m = 36 ∨ m = 37 ∨ m = 38 ∨ m = 39 by omega) with
    rfl | rfl | rfl | rfl | rfl | rfl | rfl | rfl | rfl | rfl | rfl | rfl | rfl | rfl | rfl | rfl | rfl | rfl | rfl | rfl | rfl | rfl | rfl | rfl | rfl | rfl | rfl | rfl | rfl | rfl | rfl | rfl | rfl | rfl | rfl | rfl | rfl | rfl | rfl | rfl <;> simp only [Nat.reduceDiv, Nat.reduceMod, Nat.reduceSub, Nat.reducePow] <;> omega
theorem mod_step (N m k : Nat) : N / 2 ^ m % 2 ^ (k + 1) = 2 * (N / 2 ^ (m + 1) % 2 ^ k) + N / 2 ^ m % 2 := by
  rw [Nat.pow_succ', Nat.mod_mul, Nat.pow_succ, ← Nat.div_div_eq_div_mul]
  omega
/-- The window is a cut of the five bytes that it touches. -/
theorem kwN_five (s : ByteArray) (b : Nat) (B0 B1 B2 B3 B4 : Nat) (h0 : B0 < 256) (h1 : B1 < 256) (h2 : B2 < 256) (h3 : B3 < 256) (h4 : B4 < 256)
    (e0 : byteI s (b / 8) = B0) (e1 : byteI s (b / 8 + 1) = B1) (e2 : byteI s (b / 8 + 2) = B2) (e3 : byteI s (b / 8 + 3) = B3) (e4 : b % 8 ≠ 0 → byteI s (b / 8 + 4) = B4) :
    ∀ k, k ≤ 32 → kwN s b k = ((five B0 B1 B2 B3 B4 / 2 ^ (40 - (b % 8 + k)) % 2 ^ k : Nat) : Int)
  | 0, _ => by simp [kwN, Nat.mod_one]
  | k + 1, hk => by
    have ih := kwN_five s b B0 B1 B2 B3 B4 h0 h1 h2 h3 h4 e0 e1 e2 e3 e4 k (by omega)
    have hs := mod_step (five B0 B1 B2 B3 B4) (39 - (b % 8 + k)) k
    have hb := five_bit B0 B1 B2 B3 B4 (b % 8 + k) h0 h1 h2 h3 h4 (by omega)
    rw [show 39 - (b % 8 + k) + 1 = 40 - (b % 8 + k) by omega] at hs
    rw [show 40 - (b % 8 + (k + 1)) = 39 - (b % 8 + k) by omega, hs]
    simp only [kwN]
    rw [ih, hb]
    have hi : (b + k) / 8 = b / 8 + (b % 8 + k) / 8 := by omega
    have hj : (b + k) % 8 = (b % 8 + k) % 8 := by omega
    unfold bitI
    rw [hi, hj]
    have hq : (b % 8 + k) / 8 = 0 ∨ (b % 8 + k) / 8 = 1 ∨ (b % 8 + k) / 8 = 2 ∨ (b % 8 + k) / 8 = 3 ∨ ((b % 8 + k) / 8 = 4 ∧ b % 8 ≠ 0) := by omega
    rcases hq with q | q | q | q | ⟨q, hne⟩ <;> rw [q] <;> simp only [Nat.add_zero] <;> first | rw [e0] | rw [e1] | rw [e2] | rw [e3] | rw [e4 hne]
    all_goals simp
end Go.Proofs.Ytogiocinhjbdkaa
