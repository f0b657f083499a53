/- Contracts of the model's frame check. -/
import Derived.Test.YtfbnjemmmgobkaaBytesSpec
import Derived.Test.YtfbnjemmmgobkaaCrcMath
namespace Go.Proofs.Ytfbnjemmmgobkaa
open Go.RowKit

set_option maxHeartbeats 2000000 in
set_option maxRecDepth 100000 in
theorem spec_crc (s : ByteArray) (w : World) (hs : s.size ≤ 4194304) :
    Calls Try.prog 178 #[.string s] w fun e w' => e = .returned (.int .i64 (crc s : Nat)) ∧ w = w' := by
  go_enter Try.func178, Try.ntmps178
  go_wp2
  go_loop [3, 4, 5] (fun t i _ => ∃ k : Nat, k ≤ s.size ∧ i = .int .i64 k ∧ ∃ n : Nat, t = .int .i64 n ∧ n < 4294967296 ∧ Hid (n = crcL 4294967295 (s.data.toList.take k))) (fun _ i _ => s.size - (intOf i).toNat)
  case atStart => exact ⟨0, Nat.zero_le _, rfl, 4294967295, rfl, by omega, Lib.hid rfl⟩
  case round =>
    obtain ⟨k, hk, rfl, n, rfl, hn, HN⟩ := hrel
    by_cases hlt : k < s.size
    · have b1 : s[k].toNat < 256 := UInt8.toNat_lt _
      have ex : bits .xor .i64 (n : Int) (s[k].toNat : Int) = ((n ^^^ s[k].toNat : Nat) : Int) := xor64 _ _ (by omega) (by omega)
      have hx : n ^^^ s[k].toNat < 4294967296 := Nat.xor_lt_two_pow (n := 32) hn (by omega)
      have HB : Hid (crcN (n ^^^ s[k].toNat) 8 = crcL 4294967295 (s.data.toList.take (k + 1))) := Lib.hid (by rw [crcL_take s k hlt, ← HN.out]; rfl)
      generalize n ^^^ s[k].toNat = c at ex hx HB
      go_wp2
      go_loop [3, 5] (fun t j => ∃ m : Nat, m ≤ 8 ∧ j = .int .i64 m ∧ ∃ x : Nat, t = .int .i64 x ∧ x < 4294967296 ∧ Hid (x = crcN c m)) (fun _ j => 8 - (intOf j).toNat)
      case atStart => exact ⟨0, by omega, rfl, c, rfl, hx, Lib.hid rfl⟩
      case round =>
        clear ex
        obtain ⟨m, hm, rfl, x, rfl, hx2, HX⟩ := hrel
        by_cases hm8 : m < 8
        · have hm8' : (m : Int) < 8 := by omega
          have HS : Hid (crcStep x = crcN c (m + 1)) := Lib.hid (by rw [HX.out]; rfl)
          have HL : Hid (crcStep x < 4294967296) := Lib.hid (crcStep_lt x hx2)
          by_cases hodd : x % 2 = 1
          · have ea : bits .and .i64 (x : Int) 1 = 1 := by
              rw [show (1 : Int) = ((1 : Nat) : Int) from rfl, and64 x 1 (by omega) (by omega), nat_mask1, hodd]
            have ey : bits .xor .i64 ((x : Int) / 2) 3988292384 = ((crcStep x : Nat) : Int) := by
              unfold crcStep
              rw [if_pos hodd, show (x : Int) / 2 = ((x / 2 : Nat) : Int) from by omega]
              exact xor64 (x / 2) poly (by omega) (by decide)
            clear hodd
            go_wp2
            go_round
            case rel => exact ⟨m + 1, by omega, by go_num, crcStep x, rfl, HL.out, HS⟩
            case measure => simp [intOf] <;> omega
          · have ea : bits .and .i64 (x : Int) 1 = 0 := by
              rw [show (1 : Int) = ((1 : Nat) : Int) from rfl, and64 x 1 (by omega) (by omega), nat_mask1, show x % 2 = 0 from by omega]
              rfl
            have HY : Hid ((x : Int) / 2 = ((crcStep x : Nat) : Int)) := Lib.hid (by unfold crcStep; rw [if_neg hodd]; omega)
            clear hodd
            go_wp2
            go_round
            case rel => exact ⟨m + 1, by omega, by go_num, crcStep x, by rw [HY.out], HL.out, HS⟩
            case measure => simp [intOf] <;> omega
        · have hm9 : m = 8 := by omega
          have HC : Hid (x = crcL 4294967295 (s.data.toList.take (k + 1))) := Lib.hid (by rw [HX.out, hm9]; exact HB.out)
          have hm8' : ¬ (m : Int) < 8 := by omega
          clear hm9
          go_wp2
          go_round
          case rel => exact ⟨k + 1, by omega, by go_num, x, rfl, hx2, HC⟩
          case measure => simp [intOf] <;> omega
    · have HE : Hid ((4294967295 : Int) - n = ((crc s : Nat) : Int)) := Lib.hid (by
        have h1 := HN.out
        rw [List.take_of_length_le (by simp; omega)] at h1
        unfold crc
        rw [← h1]
        omega)
      go_wp2
      go_ret
      exact ⟨ret_int HE.out, rfl⟩

theorem fcs_conv (s : ByteArray) : (⟨#[UInt8.ofNat ((crc s : Int) % 256).toNat, UInt8.ofNat ((crc s : Int) / 256 % 256).toNat, UInt8.ofNat ((crc s : Int) / 65536 % 256).toNat, UInt8.ofNat ((crc s : Int) / 16777216).toNat]⟩ : ByteArray) = fcs s := by
  have := crc_lt s
  unfold fcs low
  rw [show (crc s : Int) / 16777216 % 256 = (crc s : Int) / 16777216 from by omega]

end Go.Proofs.Ytfbnjemmmgobkaa
