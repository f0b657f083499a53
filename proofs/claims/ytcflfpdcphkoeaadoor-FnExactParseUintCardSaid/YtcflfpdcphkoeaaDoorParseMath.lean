/- The plain mathematics of reading decimal numerals. -/
import Derived.Test.YtcflfpdcphkoeaaDoorFormatMath
import Derived.Lib.AtoiAll
namespace Go.Proofs.YtcflfpdcphkoeaaDoor
open Go.Lib (decDigits itoa atoiAll parseUint10 parseMag)

def valF (a : Nat) (l : List UInt8) : Nat := l.foldl (fun a c => 10 * a + (c.toNat - 48)) a
def AllD (l : List UInt8) : Prop := ∀ c ∈ l, 48 ≤ c.toNat ∧ c.toNat ≤ 57
theorem valF_snoc (a : Nat) (l : List UInt8) (c : UInt8) : valF a (l ++ [c]) = 10 * valF a l + (c.toNat - 48) := by simp [valF]
theorem valF_le (l : List UInt8) (a : Nat) : a ≤ valF a l := by
  induction l generalizing a with
  | nil => exact Nat.le_refl _
  | cons c r ih => have := ih (10 * a + (c.toNat - 48)); simp only [valF, List.foldl_cons] at *; omega
theorem ofNat_dig (k : Nat) (h : k < 10) : (UInt8.ofNat (48 + k)).toNat = 48 + k := by rw [UInt8.toNat_ofNat']; omega
theorem dig_both : ∀ (b u : Nat), u < b → AllD (decDigits u) ∧ valF 0 (decDigits u) = u
  | 0, u, h => by omega
  | b + 1, u, h => by
    rw [decDigits]
    by_cases h1 : u < 10
    · rw [dif_pos h1]
      refine ⟨fun c hc => ?_, ?_⟩
      · have : c = UInt8.ofNat (48 + u) := by simpa using hc
        rw [this, ofNat_dig u h1]; omega
      · simp only [valF, List.foldl_cons, List.foldl_nil, ofNat_dig u h1]; omega
    · rw [dif_neg h1]
      obtain ⟨ha, hv⟩ := dig_both b (u / 10) (by omega)
      refine ⟨fun c hc => ?_, ?_⟩
      · rcases List.mem_append.1 hc with h2 | h2
        · exact ha c h2
        · have : c = UInt8.ofNat (48 + u % 10) := by simpa using h2
          rw [this, ofNat_dig _ (by omega)]; omega
      · rw [valF_snoc, hv, ofNat_dig _ (by omega)]; omega
theorem dig_all (u : Nat) : AllD (decDigits u) := (dig_both (u + 1) u (by omega)).1
theorem dig_val (u : Nat) : valF 0 (decDigits u) = u := (dig_both (u + 1) u (by omega)).2
theorem dig_len (u : Nat) (h : u ≤ 1000000000) : (decDigits u).length ≤ 10 := by
  by_cases h0 : u = 0
  · subst h0; rw [Lib.decDigits_one (by omega)]; simp
  · rw [← decD_pos u h0]; exact decD_length_le u 10 (by omega)
theorem puint (l : List UInt8) (a : Nat) (hd : AllD l) (hv : valF a l ≤ 1000000000) : parseUint10 a l = .ok (valF a l) := by
  induction l generalizing a with
  | nil => rfl
  | cons c r ih =>
    have hc := hd c (by simp)
    have e : valF a (c :: r) = valF (10 * a + (c.toNat - 48)) r := rfl
    have hle := valF_le r (10 * a + (c.toNat - 48))
    rw [e] at hv ⊢
    rw [parseUint10, if_pos hc, if_neg (by omega), if_neg (by omega), show a * 10 + (c.toNat - 48) = 10 * a + (c.toNat - 48) from by omega]
    exact ih _ (fun x hx => hd x (by simp [hx])) hv
theorem atoi_dig (n : Nat) (h : n ≤ 1000000000) : atoiAll (decDigits n) = .ok (n : Int) := by
  have ha := dig_all n
  have hv := dig_val n
  have hne := decDigits_ne n
  generalize decDigits n = l at ha hv hne
  cases l with
  | nil => exact absurd rfl hne
  | cons c r =>
    have hc := ha c (by simp)
    have e : parseMag (c :: r) = .ok n := by
      unfold parseMag
      rw [if_neg (by simp), puint _ 0 ha (by omega), hv]
    simp only [atoiAll]
    rw [if_neg (by omega), e]
    simp only [show ¬ c.toNat = 45 from by omega, if_false, false_and, not_false_iff, true_and]
    rw [if_neg (by omega)]
theorem val_lt (l : List UInt8) (k : Nat) (hd : AllD l) (hk : l.length ≤ k) : valF 0 l < 10 ^ k := by
  suffices h : ∀ (l : List UInt8) (a : Nat), AllD l → valF a l < (a + 1) * 10 ^ l.length by
    have := h l 0 hd
    have h2 : 10 ^ l.length ≤ 10 ^ k := Nat.pow_le_pow_right (by omega) hk
    omega
  intro l
  induction l with
  | nil => intro a _; simp [valF]
  | cons c r ih =>
    intro a hd
    have hc := hd c (by simp)
    have := ih (10 * a + (c.toNat - 48)) (fun x hx => hd x (by simp [hx]))
    have e : valF a (c :: r) = valF (10 * a + (c.toNat - 48)) r := rfl
    rw [e, List.length_cons, Nat.pow_succ]
    calc valF (10 * a + (c.toNat - 48)) r < (10 * a + (c.toNat - 48) + 1) * 10 ^ r.length := this
      _ ≤ ((a + 1) * 10) * 10 ^ r.length := Nat.mul_le_mul_right _ (by omega)
      _ = (a + 1) * (10 ^ r.length * 10) := by rw [Nat.mul_assoc, Nat.mul_comm 10]
theorem itoa_nat (n : Nat) : itoa (n : Int) = decDigits n := by unfold itoa; rw [if_neg (by omega)]; simp
theorem val_take (s : ByteArray) (k : Nat) (h : k < s.size) : valF 0 (s.data.toList.take (k + 1)) = 10 * valF 0 (s.data.toList.take k) + (s[k].toNat - 48) := by
  rw [List.take_succ_eq_append_getElem (by simpa using h), valF_snoc]; rfl
theorem allD_take (s : ByteArray) (k : Nat) (h : k < s.size) (ha : AllD (s.data.toList.take k)) (hc : 48 ≤ s[k].toNat ∧ s[k].toNat ≤ 57) : AllD (s.data.toList.take (k + 1)) := by
  rw [List.take_succ_eq_append_getElem (by simpa using h)]
  intro c hm
  rcases List.mem_append.1 hm with h1 | h1
  · exact ha c h1
  · have : c = s[k] := (by simpa using h1 : c = s.data[k])
    rw [this]; exact hc
theorem not_allD (s : ByteArray) (k : Nat) (h : k < s.size) (hc : ¬ (48 ≤ s[k].toNat ∧ s[k].toNat ≤ 57)) : ¬ AllD s.data.toList := fun ha =>
  hc (ha s[k] (by show s.data[k] ∈ _; simp))

/-- The numeral of a number within the limit. -/
def IsNum (s : ByteArray) (n : Nat) : Prop := n ≤ 1000000000 ∧ s = ⟨(decDigits n).toArray⟩
theorem IsNum.list {s : ByteArray} {n : Nat} (h : IsNum s n) : s.data.toList = decDigits n := by rw [h.2]
theorem IsNum.all {s : ByteArray} {n : Nat} (h : IsNum s n) : AllD s.data.toList := by rw [h.list]; exact dig_all n
theorem IsNum.val {s : ByteArray} {n : Nat} (h : IsNum s n) : valF 0 s.data.toList = n := by rw [h.list]; exact dig_val n
theorem IsNum.len {s : ByteArray} {n : Nat} (h : IsNum s n) : s.size ≤ 10 := by
  have := dig_len n h.1
  rw [← h.list] at this
  simpa using this
theorem IsNum.atoi {s : ByteArray} {n : Nat} (h : IsNum s n) : atoiAll s.data.toList = .ok (n : Int) := by rw [h.list]; exact atoi_dig n h.1

end Go.Proofs.YtcflfpdcphkoeaaDoor
