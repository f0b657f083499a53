/- Reading hexadecimal text gives the bytes back. -/
import Derived.Test.YtcflfpdcphkoeaaDoorHexMath
import Derived.Test.YtcflfpdcphkoeaaDoorDecMath
namespace Go.Proofs.YtcflfpdcphkoeaaDoor

theorem val_fig : ∀ n : Fin 16, valB (figB n.val) = (n.val : Int) := by decide +kernel
theorem val_figB (n : Nat) (h : n < 16) : valB (figB n) = n := val_fig ⟨n, h⟩
theorem round_hex : ∀ l : List UInt8, goodL (hexL l) = true ∧ decL (hexL l) = l
  | [] => ⟨rfl, rfl⟩
  | b :: l => by
    obtain ⟨h1, h2⟩ := round_hex l
    have hb : b.toNat < 256 := UInt8.toNat_lt _
    have v1 := val_figB (b.toNat / 16) (by omega)
    have v2 := val_figB (b.toNat % 16) (by omega)
    have hg : goodB (figB (b.toNat / 16)) (figB (b.toNat % 16)) = true := by
      simp only [goodB, v1, v2, Bool.and_eq_true, decide_eq_true_eq]; omega
    have hd : decB (figB (b.toNat / 16)) (figB (b.toNat % 16)) = b := by
      unfold decB
      rw [v1, v2, show (16 * ((b.toNat / 16 : Nat) : Int) + ((b.toNat % 16 : Nat) : Int)).toNat = b.toNat from by omega]
      exact UInt8.ofNat_toNat
    simp [hexL, hexB, goodL, decL, hg, hd, h1, h2]
theorem dec_of_hex (s : ByteArray) : decS ⟨(hexL s.data.toList).toArray⟩ = s ∧ decOk ⟨(hexL s.data.toList).toArray⟩ = true := by
  obtain ⟨h1, h2⟩ := round_hex s.data.toList
  have e : (⟨(hexL s.data.toList).toArray⟩ : ByteArray).data.toList = hexL s.data.toList := rfl
  unfold decS decOk
  rw [e, h1, if_pos rfl, h2]
  exact ⟨rfl, rfl⟩
theorem hex_size (s : ByteArray) : (⟨(hexL s.data.toList).toArray⟩ : ByteArray).size = 2 * s.size := by
  show (hexL s.data.toList).toArray.size = _
  simp [hexL_length]

end Go.Proofs.YtcflfpdcphkoeaaDoor
