/- Contracts of the model's changes of byte strings, and of its sums. -/
import Derived.Test.YthjajgpejfoghaaWordsSpec
import Derived.Test.YthjajgpejfoghaaBytesMath
import Derived.Deep.QuietTactic
import Derived.BigQuiet
namespace Go.Proofs.Ythjajgpejfoghaa
open Go.RowKit

theorem spec_add (a b : Int) (w : World) (ha : -9223372036854775808 ≤ a ∧ a ≤ 9223372036854775807) (hb : -9223372036854775808 ≤ b ∧ b ≤ 9223372036854775807) :
    Calls Try.prog 126 #[.int .i64 a, .int .i64 b] w fun e w' => e = .returned (.int .i64 (addS a b)) ∧ w = w' := by
  by_cases h1 : 0 ≤ a
  · by_cases h2 : a ≤ 65535
    · by_cases h3 : 0 ≤ b
      · by_cases h4 : b ≤ 65535
        · by_cases h5 : 65535 < a + b
          all_goals
            go_enter Try.func126, Try.ntmps126
            go_wp2
            go_ret
            exact ⟨ret_int (by unfold addS; rw [if_pos ⟨h1, h2, h3, h4⟩]; first | rw [if_pos (by omega)] | rw [if_neg (by omega)]), rfl⟩
        · go_enter Try.func126, Try.ntmps126
          go_wp2
          go_ret
          exact ⟨ret_int (by unfold addS; rw [if_neg (by omega)]), rfl⟩
      · go_enter Try.func126, Try.ntmps126
        go_wp2
        go_ret
        exact ⟨ret_int (by unfold addS; rw [if_neg (by omega)]), rfl⟩
    · go_enter Try.func126, Try.ntmps126
      go_wp2
      go_ret
      exact ⟨ret_int (by unfold addS; rw [if_neg (by omega)]), rfl⟩
  · go_enter Try.func126, Try.ntmps126
    go_wp2
    go_ret
    exact ⟨ret_int (by unfold addS; rw [if_neg (by omega)]), rfl⟩

theorem spec_put (s t : ByteArray) (p : Int) (w : World) (hs : s.size ≤ 4194304) (ht : t.size ≤ 4194304) (hp : -9223372036854775808 ≤ p ∧ p ≤ 9223372036854775807) :
    Calls Try.prog 78 #[.string s, .int .i64 p, .string t] w fun e w' => e = .returned (.string (put s p t)) ∧ ∃ m, w' = w.drewN m := by
  by_cases h : 0 ≤ p ∧ p + t.size ≤ s.size
  · obtain ⟨n, rfl⟩ : ∃ n : Nat, p = n := ⟨p.toNat, by omega⟩
    have h1 : n + t.size ≤ s.size := by omega
    have HG : Hid (put s n t = s.extract 0 n ++ t ++ s.extract (n + t.size) s.size) := Lib.hid (by unfold put; rw [if_pos h]; rfl)
    have z1 : (s.extract 0 n).size = n := by rw [ByteArray.size_extract]; omega
    have z2 : (s.extract 0 n ++ t).size ≤ 8388608 := by rw [ByteArray.size_append]; omega
    have z3 : (s.extract (n + t.size) s.size).size ≤ 4194304 := by rw [ByteArray.size_extract]; omega
    have Z1 : (s.extract 0 n).size ≤ 4194304 := by omega
    have c1 : (n : Int) ≤ (s.size : Int) := by omega
    have c2 : (t.size : Int) ≤ (s.size : Int) - (n : Int) := by omega
    clear z1
    go_enter Try.func78, Try.ntmps78
    go_wp2_with go_in
    go_quiet (fail)
    go_wp2
    go_ret
    exact ⟨by rw [HG.out]; rfl, _, rfl⟩
  · have HG : Hid (put s p t = s) := Lib.hid (by unfold put; rw [if_neg h])
    by_cases h0 : 0 ≤ p
    · by_cases h1 : p ≤ (s.size : Int)
      · have h2 : ¬ (t.size : Int) ≤ (s.size : Int) - p := by omega
        clear h
        go_enter Try.func78, Try.ntmps78
        go_wp2
        go_ret
        exact ⟨by rw [HG.out]; rfl, 0, rfl⟩
      · clear h
        go_enter Try.func78, Try.ntmps78
        go_wp2
        go_ret
        exact ⟨by rw [HG.out]; rfl, 0, rfl⟩
    · clear h
      go_enter Try.func78, Try.ntmps78
      go_wp2
      go_ret
      exact ⟨by rw [HG.out]; rfl, 0, rfl⟩

theorem spec_sum (s : ByteArray) (w : World) (hs : s.size ≤ 4194304) :
    Calls Try.prog 117 #[.string s] w fun e w' => e = .returned (.int .i64 (sumW s)) ∧ w = w' := by
  go_enter Try.func117, Try.ntmps117
  go_wp2
  go_loop [3, 4] (fun t i => ∃ m : Nat, i = .int .i64 m ∧ m % 2 = 0 ∧ m ≤ s.size + 1 ∧ ∃ a : Int, t = .int .i64 a ∧ 0 ≤ a ∧ a ≤ 65535 ∧ Hid (a = sumL 0 (s.data.toList.take m))) (fun _ i => s.size + 2 - (intOf i).toNat)
  case atStart => exact ⟨0, rfl, rfl, by omega, 0, rfl, by omega, by omega, Lib.hid rfl⟩
  case round =>
    obtain ⟨m, rfl, he, hm, a, rfl, a0, a1, HA⟩ := hrel
    have HE := Lib.hid he
    clear he
    by_cases hlt : m < s.size
    · have b1 : s[m].toNat < 256 := UInt8.toNat_lt _
      by_cases h2 : m + 1 < s.size
      · have b2 : s[m + 1].toNat < 256 := UInt8.toNat_lt _
        have HS : Hid (addS a ((s[m].toNat : Int) * 256 + (s[m + 1].toNat : Int)) = sumL 0 (s.data.toList.take (m + 2))) := Lib.hid (by
          rw [sum_two s m h2 HE.out, ← HA.out, byteI_at s m hlt, byteI_at s (m + 1) h2])
        have hb := addS_in a ((s[m].toNat : Int) * 256 + (s[m + 1].toNat : Int)) ⟨a0, a1, by omega, by omega⟩
        go_wp2_with (go_at_call 126; refine (spec_add _ _ _ (by omega) (by omega)).mono ?_; rintro e w' ⟨rfl, rfl⟩)
        go_round
        case rel => exact ⟨m + 2, by go_num, by have := HE.out; omega, by omega, _, rfl, hb.1, hb.2, HS⟩
        case measure => simp [intOf] <;> omega
      · have h2' : m + 1 = s.size := by omega
        have HS : Hid (addS a ((s[m].toNat : Int) * 256) = sumL 0 (s.data.toList.take (m + 2))) := Lib.hid (by
          rw [List.take_of_length_le (by simp; omega), sum_one s m h2' HE.out, ← HA.out, byteI_at s m hlt])
        have hb := addS_in a ((s[m].toNat : Int) * 256) ⟨a0, a1, by omega, by omega⟩
        clear h2'
        go_wp2_with (go_at_call 126; refine (spec_add _ _ _ (by omega) (by omega)).mono ?_; rintro e w' ⟨rfl, rfl⟩)
        go_round
        case rel => exact ⟨m + 2, by go_num, by have := HE.out; omega, by omega, _, rfl, hb.1, hb.2, HS⟩
        case measure => simp [intOf] <;> omega
    · have HS : Hid (a = sumW s) := Lib.hid (by have := HA.out; rw [List.take_of_length_le (by simp; omega)] at this; exact this)
      go_wp2
      go_ret
      exact ⟨ret_int HS.out, rfl⟩

theorem spec_checksum (s : ByteArray) (w : World) (hs : s.size ≤ 4194304) :
    Calls Try.prog 109 #[.string s] w fun e w' => e = .returned (.int .i64 (65535 - sumW s)) ∧ w = w' := by
  have hb := sumW_bd s
  obtain ⟨b0, b1⟩ := hb
  go_enter Try.func109, Try.ntmps109
  go_wp2_with (go_at_call 117; refine (spec_sum s _ hs).mono ?_; rintro e w' ⟨rfl, rfl⟩)
  go_ret
  exact ⟨rfl, rfl⟩

end Go.Proofs.Ythjajgpejfoghaa
