/- Contracts of the program's frame check: making it. -/
import Derived.Test.YtfbnjemmmgobkaaWordsImpl
import Derived.Test.YtfbnjemmmgobkaaCrcMake
import Derived.Test.YtfbnjemmmgobkaaKit
import Derived.Laws.Cover3
import Derived.Laws.IdiomArrays
import Derived.Deep.RegionHeld3
import Derived.Deep.RegionWith
import Derived.BigRegion
import Derived.Laws.DeepStrings4
import Derived.ChangeKeysEq
namespace Go.Proofs.Ytfbnjemmmgobkaa
open Go.RowKit

theorem ofInt32 (a : Nat) (ha : a < 4294967296) : (BitVec.ofInt 32 (a : Int)).toNat = a := by
  rw [BitVec.ofInt_natCast, BitVec.toNat_ofNat]; exact Nat.mod_eq_of_lt (by omega)
theorem xor32 (a b : Nat) (ha : a < 4294967296) (hb : b < 4294967296) : bits .xor .u32 (a : Int) (b : Int) = ((a ^^^ b : Nat) : Int) := by
  have hx : a ^^^ b < 2 ^ 32 := Nat.xor_lt_two_pow (by omega) (by omega)
  show IntKind.u32.wrap ((BitVec.ofInt 32 (a : Int) ^^^ BitVec.ofInt 32 (b : Int)).toNat : Int) = _
  rw [BitVec.toNat_xor, ofInt32 a ha, ofInt32 b hb, IntKind.wrap_u32]
  omega

set_option maxHeartbeats 2000000 in
set_option maxRecDepth 100000 in
theorem impl_crc (s : ByteArray) (w : World) (hs : s.size ≤ 4194304) :
    Calls Try.prog 181 #[.string s] w fun e w' => e = .returned (.int .i64 (crc s : Nat)) ∧ w = w' := by
  go_enter Try.func181, Try.ntmps181
  go_wp2
  go_loop [3, 8] (fun t i => ∃ k : Nat, k ≤ s.size ∧ i = .int .i64 k ∧ ∃ n : Nat, t = .int .u32 n ∧ n < 4294967296 ∧ Hid (n = crcL 4294967295 (s.data.toList.take k))) (fun _ i => s.size - (intOf i).toNat)
  case atStart => exact ⟨0, Nat.zero_le _, rfl, 4294967295, rfl, by omega, Lib.hid rfl⟩
  case round =>
    obtain ⟨k, hk, rfl, n, rfl, hn, HN⟩ := hrel
    by_cases hlt : k < s.size
    · have b1 : s[k].toNat < 256 := UInt8.toNat_lt _
      have ex : bits .xor .u32 (n : Int) (s[k].toNat : Int) = ((n ^^^ s[k].toNat : Nat) : Int) := xor32 _ _ (by omega) (by omega)
      have hx : n ^^^ s[k].toNat < 4294967296 := Nat.xor_lt_two_pow (n := 32) hn (by omega)
      have HB : Hid (crcN (n ^^^ s[k].toNat) 8 = crcL 4294967295 (s.data.toList.take (k + 1))) := Lib.hid (by rw [crcL_take s k hlt, ← HN.out]; rfl)
      generalize n ^^^ s[k].toNat = c at ex hx HB
      go_wp2
      go_loop [3, 17] (fun t j => ∃ m : Nat, m ≤ 8 ∧ j = .int .i64 m ∧ ∃ x : Nat, t = .int .u32 x ∧ x < 4294967296 ∧ Hid (x = crcN c m)) (fun _ j => 8 - (intOf j).toNat)
      case atStart => exact ⟨0, by omega, rfl, c, rfl, hx, Lib.hid rfl⟩
      case round =>
        clear ex
        obtain ⟨m, hm, rfl, x, rfl, hx2, HX⟩ := hrel
        by_cases hm8 : m < 8
        · have hm8' : (m : Int) < 8 := by omega
          have HS : Hid (crcStep x = crcN c (m + 1)) := Lib.hid (by rw [HX.out]; rfl)
          have HL : Hid (crcStep x < 4294967296) := Lib.hid (crcStep_lt x hx2)
          by_cases hodd : x % 2 = 1
          · have ey : bits .xor .u32 ((x : Int) / 2) 3988292384 = ((crcStep x : Nat) : Int) := by
              unfold crcStep
              rw [if_pos hodd, show (x : Int) / 2 = ((x / 2 : Nat) : Int) from by omega]
              exact xor32 (x / 2) poly (by omega) (by decide)
            have e1 : ((x : Int) % 2 != 0) = true := by rw [show (x : Int) % 2 = 1 from by omega]; rfl
            clear hodd
            go_wp2
            go_round
            case rel => exact ⟨m + 1, by omega, by go_num, crcStep x, rfl, HL.out, HS⟩
            case measure => simp [intOf] <;> omega
          · have e1 : ((x : Int) % 2 != 0) = false := by rw [show (x : Int) % 2 = 0 from by omega]; rfl
            have HY : Hid ((x : Int) / 2 = ((crcStep x : Nat) : Int)) := Lib.hid (by unfold crcStep; rw [if_neg hodd]; omega)
            clear hodd
            go_wp2
            go_round
            case rel => exact ⟨m + 1, by omega, by go_num, crcStep x, by rw [HY.out], HL.out, HS⟩
            case measure => simp [intOf] <;> omega
        · have hm9 : m = 8 := by omega
          have HC : Hid (x = crcL 4294967295 (s.data.toList.take (k + 1))) := Lib.hid (by rw [HX.out, hm9]; exact HB.out)
          have hm8' : ¬ (m : Int) < 8 := by omega
          clear hm9
          go_wp2
          go_round
          case rel => exact ⟨k + 1, by omega, by go_num, x, rfl, hx2, HC⟩
          case measure => simp [intOf] <;> omega
    · have HE : Hid ((4294967295 : Int) - n = ((crc s : Nat) : Int)) := Lib.hid (by
        have h1 := HN.out
        rw [List.take_of_length_le (by simp; omega)] at h1
        unfold crc
        rw [← h1]
        omega)
      go_wp2
      go_ret
      exact ⟨ret_int HE.out, rfl⟩

/-- 'string(b)' of four bytes that lie in a block of whatever type. -/
theorem conv_four_at (t : TypeId) (a b c d : Int) (ha : 0 ≤ a ∧ a < 256) (hb : 0 ≤ b ∧ b < 256) (hc : 0 ≤ c ∧ c < 256) (hd : 0 ≤ d ∧ d < 256) (W : World) :
    (convert 224 9 (.slice (some ⟨W.heap.size, 0, none⟩) 4 4)).run Try.prog (W.alloc (.cells #[.int .u8 a, .int .u8 b, .int .u8 c, .int .u8 d] t)) =
    .ok (.string ⟨#[UInt8.ofNat a.toNat, UInt8.ofNat b.toNat, UInt8.ofNat c.toNat, UInt8.ofNat d.toNat]⟩) (W.alloc (.cells #[.int .u8 a, .int .u8 b, .int .u8 c, .int .u8 d] t)) := by
  have h0 := run_convert_bytes_back (P := Try.prog) (W.alloc (.cells #[.int .u8 a, .int .u8 b, .int .u8 c, .int .u8 d] t)) 224 9 5 ⟨W.heap.size, 0, none⟩ 4 [UInt8.ofNat a.toNat, UInt8.ofNat b.toNat, UInt8.ofNat c.toNat, UInt8.ofNat d.toNat]
    Try.underlying224 Try.underlying5 Try.underlying9 (fun j hj => by
      have hadd : (⟨W.heap.size, 0, none⟩ : Addr).add j = ⟨W.heap.size, j, none⟩ := by unfold Addr.add; split <;> simp_all
      rw [hadd, cell_of_row _ _ j _ _ _ (heap_alloc_new W _)]
      have hj' : j < 4 := hj
      rcases (show j = 0 ∨ j = 1 ∨ j = 2 ∨ j = 3 by omega) with rfl | rfl | rfl | rfl <;> simp [UInt8.toNat_ofNat'] <;> omega)
  exact h0

end Go.Proofs.Ytfbnjemmmgobkaa
