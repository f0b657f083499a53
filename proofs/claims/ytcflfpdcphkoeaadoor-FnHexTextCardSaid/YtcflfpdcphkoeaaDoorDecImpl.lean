/- The contract of DecodeHex in the program. -/
import Derived.Test.YtcflfpdcphkoeaaDoorHexCommon
import Derived.Test.YtcflfpdcphkoeaaDoorDecMath
import Derived.Test.YtcflfpdcphkoeaaDoorShelfB
import Derived.Laws.BitsAllLaws
import Derived.Laws.BitsLemmas
namespace Go.Proofs.YtcflfpdcphkoeaaDoor
open Go.RowKit

theorem ofInt_i64 (a : Nat) (ha : a < 9223372036854775808) : (BitVec.ofInt 64 (a : Int)).toNat = a := by
  rw [BitVec.ofInt_natCast, BitVec.toNat_ofNat]; exact Nat.mod_eq_of_lt (by omega)
theorem i64_or_nat (a b : Nat) (ha : a < 9223372036854775808) (hb : b < 9223372036854775808) : bits .or .i64 (a : Int) (b : Int) = ((a ||| b : Nat) : Int) := by
  have hx : a ||| b < 2 ^ 63 := Nat.or_lt_two_pow (by omega) (by omega)
  show IntKind.i64.wrap ((BitVec.ofInt 64 (a : Int) ||| BitVec.ofInt 64 (b : Int)).toNat : Int) = _
  rw [BitVec.toNat_or, ofInt_i64 a ha, ofInt_i64 b hb, IntKind.wrap_i64]
  omega
theorem i64_or_digits (a b : Int) (h0 : 0 ≤ a) (h1 : a ≤ 15) (h2 : 0 ≤ b) (h3 : b ≤ 15) : bits .or .i64 (a * 16) b = 16 * a + b := by
  obtain ⟨x, rfl⟩ : ∃ x : Nat, a = x := ⟨a.toNat, by omega⟩
  obtain ⟨y, rfl⟩ : ∃ y : Nat, b = y := ⟨b.toNat, by omega⟩
  rw [show (x : Int) * 16 = ((x * 16 : Nat) : Int) from by omega, i64_or_nat _ _ (by omega) (by omega), nat_join 4 (x * 16) y (by omega) (by omega)]
  omega

theorem index_any (b : UInt8) (w : World) :
    Calls Tryd.prog 27 #[.string ⟨#[48, 49, 50, 51, 52, 53, 54, 55, 56, 57, 97, 98, 99, 100, 101, 102]⟩, .int .u8 b.toNat] w fun e w' => e = .returned (.int .i64 (valB b)) ∧ w = w' := by
  refine (Tryd.strings_IndexByte ⟨#[48, 49, 50, 51, 52, 53, 54, 55, 56, 57, 97, 98, 99, 100, 101, 102]⟩ (b.toNat : Int) w).mono ?_
  rintro e w' ⟨rfl, rfl⟩
  exact ⟨ret_int (by rw [← index_val b]; simp), rfl⟩

theorem impl_decode_over (s : ByteArray) (w : World) (hs : s.size ≤ maxLen) (h : 40000 < s.size ∨ s.size % 2 = 1) :
    Calls Tryd.prog 12 #[.string s] w fun e w' => e = .returned (.tuple #[.string ⟨#[]⟩, .bool false]) ∧ w = w' := by
  unfold maxLen at hs
  by_cases h1 : s.size % 2 = 1
  · have h2 : (s.size : Int) % 2 = 1 := by omega
    have h3 : (((s.size : Int) % 2) == 0) = false := by rw [h2]; rfl
    clear h h1
    go_enter Tryd.func12, Tryd.ntmps12
    go_wp2
    go_ret2
    exact ⟨rfl, rfl⟩
  · have h2 : (s.size : Int) % 2 = 0 := by omega
    have h3 : 20000 < (s.size : Int) / 2 := by omega
    clear h h1
    go_enter Tryd.func12, Tryd.ntmps12
    go_wp2
    go_ret2
    exact ⟨rfl, rfl⟩

set_option maxHeartbeats 1000000 in
theorem impl_decode_even (s : ByteArray) (w : World) (h : s.size ≤ 40000) (he : s.size % 2 = 0) :
    Calls Tryd.prog 12 #[.string s] w fun e w' => e = .returned (.tuple #[.string (decS s), .bool (decOk s)]) ∧ Below w.heap.size w w' := by
  have h' : ¬ 40000 < s.size := by omega
  have h2 : (s.size : Int) % 2 = 0 := by omega
  have h3 : (s.size : Int) / 2 ≤ 20000 := by omega
  have h4 : ¬ 20000 < (s.size : Int) / 2 := by omega
  obtain ⟨i0, hi, hz0, hz1, hz2⟩ := info_parts Tryd.info8
  go_enter Tryd.func12, Tryd.ntmps12
  go_wp2_with (at_make; refine wpList_make_own _ rfl _ _ 22 rfl w.heap.size 5 i0 (.int .u8 0) 1 Tryd.underlying22 hi hz0 hz1 .i64 .i64 _ (s.size / 2) rfl rfl (by first | rfl | (simp; omega) | simp) (by rw [hz2]; omega) (by unfold maxLen; omega) (Nat.le_refl _) ?_; intro w0 hown0 hgrow0)
  have hb0 : Below w.heap.size w w0 := (Below.refl _ _).grown hgrow0 (Nat.le_refl _) (by intro k hk; cases hk)
  clear h2 h3 h4
  go_loopw [4, 5] (fun v i wr => ∃ m : Nat, m ≤ s.size ∧ m % 2 = 0 ∧ i = .int .i64 m ∧ Hid (goodL (s.data.toList.take m) = true) ∧ wr.ownsRow w.heap.size 5 1 v (m / 2) (u8s (decL (s.data.toList.take m))) ∧ Below w.heap.size w wr)
    (fun _ i _ => s.size - (intOf i).toNat)
  case atStart => exact ⟨0, Nat.zero_le _, rfl, rfl, Lib.hid rfl, by simpa [decL, u8s] using hown0, hb0⟩
  case round =>
    clear hown0 hgrow0 hb0
    obtain ⟨m, hm, hev, rfl, hgood, hown, hb⟩ := hrel
    have HE : Hid (m % 2 = 0) := Lib.hid hev
    have HS : Hid (s.size % 2 = 0) := Lib.hid he
    by_cases hlt : m < s.size
    · have hlt2 : m + 1 < s.size := by omega
      clear hev
      have v1 := valB_bd s[m]
      have v2 := valB_bd s[m + 1]
      by_cases hg : goodB s[m] s[m + 1] = true
      · have hg2 : 0 ≤ valB s[m] ∧ 0 ≤ valB s[m + 1] := by simpa [goodB] using hg
        obtain ⟨g1, g2⟩ := hg2
        have g1' : ¬ valB s[m] < 0 := by omega
        have g2' : ¬ valB s[m + 1] < 0 := by omega
        have HB := Lib.hid (step_good s m hlt2 HE.out hgood.out hg)
        have HX : Hid (u8s (decL (s.data.toList.take m)) ++ [.int .u8 (16 * valB s[m] + valB s[m + 1])] = u8s (decL (s.data.toList.take (m + 2)))) := Lib.hid (by rw [HB.out.2, u8s_append]; simp [u8s, decB_toNat _ _ hg])
        clear hg
        have hz : w.heap.size ≤ wr.heap.size + 1 := by have := hb.size; omega
        have m1 : m / 2 + 1 ≤ maxLen := by unfold maxLen; omega
        have m2 : (m / 2 + 1) * 1 ≤ 140737488355328 := by omega
        have e6 : bits .or .i64 (valB s[m] * 16) (valB s[m + 1]) = 16 * valB s[m] + valB s[m + 1] := i64_or_digits _ _ (by omega) (by omega) (by omega) (by omega)
        go_wp2_with (first
          | (at_builtin; with_reducible refine wpList_push rfl (.tmp 43) (.tmp 49) 22 rfl w.heap.size elem8 rfl (hown.alloc _) _ 1 1 [.int .u8 (16 * valB s[m] + valB s[m + 1])] rfl (heap_alloc_new _ _) rfl (by simp [Value.oneCell']) (by decide) m1 m2 (by simpa using hz) ?_; intro g cap w1 hown1 hgrow1)
          | (go_at_call 27; with_reducible refine (index_any s[m] _).mono ?_; rintro e w' ⟨rfl, rfl⟩)
          | (go_at_call 27; with_reducible refine (index_any s[m + 1] _).mono ?_; rintro e w' ⟨rfl, rfl⟩))
        clear e6
        have hev2 : (m + 2) % 2 = 0 := by have := HE.out; omega
        have hh : (m + 2) / 2 = m / 2 + 1 := by omega
        rw [HX.out] at hown1
        go_roundw
        case rel => exact ⟨m + 2, by omega, hev2, by go_num, Lib.hid HB.out.1, by rw [hh]; exact hown1, below_push hb hb.size hown _ hgrow1⟩
        case measure => simp [intOf]; omega
      · have hg' : goodB s[m] s[m + 1] = false := by simpa using hg
        have HF := Lib.hid (step_bad s m hlt2 HE.out hg')
        clear hg
        by_cases g1 : valB s[m] < 0
        · clear hg'
          go_wp2_with (first
            | (go_at_call 27; with_reducible refine (index_any s[m] _).mono ?_; rintro e w' ⟨rfl, rfl⟩)
            | (go_at_call 27; with_reducible refine (index_any s[m + 1] _).mono ?_; rintro e w' ⟨rfl, rfl⟩))
          go_ret2
          exact ⟨dec_bad s HF.out, hb⟩
        · have g2 : valB s[m + 1] < 0 := by
            simp [goodB] at hg'
            omega
          clear hg'
          go_wp2_with (first
            | (go_at_call 27; with_reducible refine (index_any s[m] _).mono ?_; rintro e w' ⟨rfl, rfl⟩)
            | (go_at_call 27; with_reducible refine (index_any s[m + 1] _).mono ?_; rintro e w' ⟨rfl, rfl⟩))
          go_ret2
          exact ⟨dec_bad s HF.out, hb⟩
    · obtain rfl : m = s.size := by omega
      have hgo := hgood.out
      rw [List.take_of_length_le (by simp)] at hown hgo
      have HG := Lib.hid hgo
      clear hgood hgo hev
      have hs := run_string_own (P := Tryd.prog) (dst := 9) Tryd.underlying22 Tryd.underlying5 Tryd.underlying9 hown
      go_wp2
      go_ret2
      exact ⟨dec_good s HG.out, hb⟩

end Go.Proofs.YtcflfpdcphkoeaaDoor
