/- The contract of DecodeHex in the model. -/
import Derived.Test.YtcflfpdcphkoeaaHexWalks
import Derived.Test.YtcflfpdcphkoeaaDecMath
namespace Go.Proofs.Ytcflfpdcphkoeaa
open Go.RowKit

theorem value_any (b : UInt8) (w : World) :
    Calls Try.prog 26 #[.int .u8 b.toNat] w fun e w' => e = .returned (.int .i64 (valB b)) ∧ w = w' := by
  have hb : b.toNat < 256 := UInt8.toNat_lt _
  obtain ⟨c, hc⟩ : ∃ c : Int, c = (b.toNat : Int) := ⟨_, rfl⟩
  have h0 : 0 ≤ c := by omega
  have h1 : c < 256 := by omega
  have HV : Hid (valB b = if 48 ≤ c ∧ c ≤ 57 then c - 48 else if 97 ≤ c ∧ c ≤ 102 then c - 87 else -1) := Lib.hid (by rw [hc]; rfl)
  rw [← hc]
  clear hc hb
  by_cases h2 : 48 ≤ c
  · by_cases h3 : c ≤ 57
    · go_enter Try.func26, Try.ntmps26
      go_wp2
      go_ret
      exact ⟨ret_int (by rw [HV.out, if_pos ⟨h2, h3⟩]), rfl⟩
    · by_cases h4 : 97 ≤ c
      · by_cases h5 : c ≤ 102
        · go_enter Try.func26, Try.ntmps26
          go_wp2
          go_ret
          exact ⟨ret_int (by rw [HV.out, if_neg (by omega), if_pos (by omega)]; omega), rfl⟩
        · go_enter Try.func26, Try.ntmps26
          go_wp2
          go_ret
          exact ⟨ret_int (by rw [HV.out, if_neg (by omega), if_neg (by omega)]), rfl⟩
      · go_enter Try.func26, Try.ntmps26
        go_wp2
        go_ret
        exact ⟨ret_int (by rw [HV.out, if_neg (by omega), if_neg (by omega)]), rfl⟩
  · have h4 : ¬ 97 ≤ c := by omega
    go_enter Try.func26, Try.ntmps26
    go_wp2
    go_ret
    exact ⟨ret_int (by rw [HV.out, if_neg (by omega), if_neg (by omega)]), rfl⟩

theorem spec_decode_over (s : ByteArray) (w : World) (hs : s.size ≤ maxLen) (h : 40000 < s.size ∨ s.size % 2 = 1) :
    Calls Try.prog 13 #[.string s] w fun e w' => e = .returned (.tuple #[.string ⟨#[]⟩, .bool false]) ∧ w = w' := by
  unfold maxLen at hs
  by_cases h1 : 40000 < s.size
  · go_enter Try.func13, Try.ntmps13
    go_wp2
    go_ret2
    exact ⟨rfl, rfl⟩
  · have h2 : (s.size : Int) % 2 = 1 := by omega
    have h3 : (((s.size : Int) % 2) == 0) = false := by rw [h2]; rfl
    clear h
    go_enter Try.func13, Try.ntmps13
    go_wp2
    go_ret2
    exact ⟨rfl, rfl⟩

set_option maxHeartbeats 1000000 in
theorem spec_decode_even (s : ByteArray) (w : World) (h : s.size ≤ 40000) (he : s.size % 2 = 0) :
    Calls Try.prog 13 #[.string s] w fun e w' => e = .returned (.tuple #[.string (decS s), .bool (decOk s)]) ∧ Below w.heap.size w w' := by
  have h' : ¬ 40000 < s.size := by omega
  have h2 : (s.size : Int) % 2 = 0 := by omega
  go_enter Try.func13, Try.ntmps13
  go_wp2
  clear h2
  go_loopw [4, 5] (fun v i wr => ∃ m : Nat, m ≤ s.size ∧ m % 2 = 0 ∧ i = .int .i64 m ∧ Hid (goodL (s.data.toList.take m) = true) ∧ wr.ownsRow w.heap.size 5 1 v (m / 2) (u8s (decL (s.data.toList.take m))) ∧ Below w.heap.size w wr)
    (fun _ i _ => s.size - (intOf i).toNat)
  case atStart => exact ⟨0, Nat.zero_le _, rfl, rfl, Lib.hid rfl, World.ownsRow_lit w #[] 0 (Nat.le_refl _) (by unfold maxLen; omega) rfl, (Below.refl _ _).alloc (Nat.le_refl _) _⟩
  case round =>
    obtain ⟨m, hm, hev, rfl, hgood, hown, hb⟩ := hrel
    have HE : Hid (m % 2 = 0) := Lib.hid hev
    have HS : Hid (s.size % 2 = 0) := Lib.hid he
    by_cases hlt : m < s.size
    · have hlt2 : m + 1 < s.size := by omega
      clear hev
      have v1 := valB_bd s[m]
      have v2 := valB_bd s[m + 1]
      by_cases hg : goodB s[m] s[m + 1] = true
      · have hg2 : 0 ≤ valB s[m] ∧ 0 ≤ valB s[m + 1] := by simpa [goodB] using hg
        obtain ⟨g1, g2⟩ := hg2
        have g1' : ¬ valB s[m] < 0 := by omega
        have g2' : ¬ valB s[m + 1] < 0 := by omega
        have HB := Lib.hid (step_good s m hlt2 HE.out hgood.out hg)
        have HX : Hid (u8s (decL (s.data.toList.take m)) ++ [.int .u8 (16 * valB s[m] + valB s[m + 1])] = u8s (decL (s.data.toList.take (m + 2)))) := Lib.hid (by rw [HB.out.2, u8s_append]; simp [u8s, decB_toNat _ _ hg])
        clear hg
        have hz : w.heap.size ≤ wr.heap.size + 1 := by have := hb.size; omega
        have m1 : m / 2 + 1 ≤ maxLen := by unfold maxLen; omega
        have m2 : (m / 2 + 1) * 1 ≤ 140737488355328 := by omega
        go_wp2_with (first
          | (at_builtin; with_reducible refine wpList_push rfl (.tmp 39) (.tmp 45) 22 rfl w.heap.size elem8 rfl (hown.alloc _) _ 1 1 [.int .u8 (16 * valB s[m] + valB s[m + 1])] rfl (heap_alloc_new _ _) rfl (by simp [Value.oneCell']) (by decide) m1 m2 (by simpa using hz) ?_; intro g cap w1 hown1 hgrow1)
          | (go_at_call 26; with_reducible refine (value_any s[m] _).mono ?_; rintro e w' ⟨rfl, rfl⟩)
          | (go_at_call 26; with_reducible refine (value_any s[m + 1] _).mono ?_; rintro e w' ⟨rfl, rfl⟩))
        have hev2 : (m + 2) % 2 = 0 := by have := HE.out; omega
        have hh : (m + 2) / 2 = m / 2 + 1 := by omega
        rw [HX.out] at hown1
        go_roundw
        case rel => exact ⟨m + 2, by omega, hev2, by go_num, Lib.hid HB.out.1, by rw [hh]; exact hown1, below_push hb hb.size hown _ hgrow1⟩
        case measure => simp [intOf]; omega
      · have hg' : goodB s[m] s[m + 1] = false := by simpa using hg
        have HF := Lib.hid (step_bad s m hlt2 HE.out hg')
        clear hg
        by_cases g1 : valB s[m] < 0
        · clear hg'
          go_wp2_with (first
            | (go_at_call 26; with_reducible refine (value_any s[m] _).mono ?_; rintro e w' ⟨rfl, rfl⟩)
            | (go_at_call 26; with_reducible refine (value_any s[m + 1] _).mono ?_; rintro e w' ⟨rfl, rfl⟩))
          go_ret2
          exact ⟨dec_bad s HF.out, hb⟩
        · have g2 : valB s[m + 1] < 0 := by
            simp [goodB] at hg'
            omega
          clear hg'
          go_wp2_with (first
            | (go_at_call 26; with_reducible refine (value_any s[m] _).mono ?_; rintro e w' ⟨rfl, rfl⟩)
            | (go_at_call 26; with_reducible refine (value_any s[m + 1] _).mono ?_; rintro e w' ⟨rfl, rfl⟩))
          go_ret2
          exact ⟨dec_bad s HF.out, hb⟩
    · obtain rfl : m = s.size := by omega
      have hgo := hgood.out
      rw [List.take_of_length_le (by simp)] at hown hgo
      have HG := Lib.hid hgo
      clear hgood hgo hev
      have hs := run_string_own (P := Try.prog) (dst := 9) Try.underlying22 Try.underlying5 Try.underlying9 hown
      go_wp2
      go_ret2
      exact ⟨dec_good s HG.out, hb⟩

end Go.Proofs.Ytcflfpdcphkoeaa
