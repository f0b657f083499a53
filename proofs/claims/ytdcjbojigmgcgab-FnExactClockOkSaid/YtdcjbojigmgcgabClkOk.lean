/- Clocks: models. -/
import Derived.Test.YtdcjbojigmgcgabFlatMath
namespace Go.Proofs.Ytdcjbojigmgcgab
def ClockM.Ok (e : ClockM) : Prop := (0 ≤ e.xTime ∧ e.xTime ≤ 1125899906842624) ∧ (0 ≤ e.xFraction ∧ e.xFraction ≤ 1048575) ∧ (0 ≤ e.xRate ∧ e.xRate ≤ 67108864) ∧ (0 ≤ e.xDebt ∧ e.xDebt ≤ 1099511627776)
instance (e : ClockM) : Decidable e.Ok := by unfold ClockM.Ok; infer_instance
def ClockM.ifOk (o e : ClockM) : ClockM := if o.Ok then o else e
def ClockM.rated (e : ClockM) (n : Int) : ClockM := ⟨e.xTime, e.xFraction, e.xRate + Int.tdiv (e.xRate * n) 1000000, e.xDebt⟩
def ClockM.trim (e : ClockM) (n : Int) : ClockM := if e.Ok ∧ (-1000000 ≤ n ∧ n ≤ 1000000) then (e.rated n).ifOk e else e
theorem tdiv_bd {x : Int} (h1 : -67108864000000 ≤ x) (h2 : x ≤ 67108864000000) : -67108864 ≤ Int.tdiv x 1000000 ∧ Int.tdiv x 1000000 ≤ 67108864 := by
  rcases Int.le_total 0 x with h | h
  · rw [Int.tdiv_eq_ediv_of_nonneg h]; omega
  · have e : Int.tdiv x 1000000 = -(Int.tdiv (-x) 1000000) := by rw [Int.neg_tdiv, Int.neg_neg]
    rw [e, Int.tdiv_eq_ediv_of_nonneg (by omega)]; omega
theorem trim_bd {a n : Int} (h0 : 0 ≤ a) (h1 : a ≤ 67108864) (h2 : -1000000 ≤ n) (h3 : n ≤ 1000000) : -67108864000000 ≤ a * n ∧ a * n ≤ 67108864000000 ∧ -67108864 ≤ Int.tdiv (a * n) 1000000 ∧ Int.tdiv (a * n) 1000000 ≤ 67108864 := by
  have h4 : a * n ≤ 67108864 * 1000000 := Int.le_trans (Int.mul_le_mul_of_nonneg_left h3 h0) (Int.mul_le_mul_of_nonneg_right h1 (by decide))
  have h5 : a * (-1000000) ≤ a * n := Int.mul_le_mul_of_nonneg_left h2 h0
  rw [Int.mul_neg] at h5
  have h6 : -67108864000000 ≤ a * n := by omega
  exact ⟨h6, by omega, tdiv_bd h6 (by omega)⟩
end Go.Proofs.Ytdcjbojigmgcgab
