/- The contract of FormatInt in the model: the decimal numeral. -/
import Derived.Test.YtcflfpdcphkoeaaDoorBase
import Derived.Test.YtcflfpdcphkoeaaDoorHexMath
import Derived.Test.YtcflfpdcphkoeaaDoorFormatMath
namespace Go.Proofs.YtcflfpdcphkoeaaDoor
open Go.RowKit

theorem itoa_zero : Lib.itoa 0 = [48] := by
  unfold Lib.itoa
  rw [if_neg (by omega)]
  exact Lib.decDigits_one (by omega)
theorem ret_cat (l : List UInt8) (s : ByteArray) : Ending.returned (.string (⟨l.toArray⟩ ++ s)) = .returned (.string ⟨(l ++ s.data.toList).toArray⟩) := by
  congr 2

theorem figure_dec (n : Int) (w : World) (h0 : 0 ≤ n) (h : n < 10) :
    Calls Tryd.prog 32 #[.int .i64 n] w fun e w' => e = .returned (.int .u8 (48 + n)) ∧ w = w' := by
  go_enter Tryd.func32, Tryd.ntmps32
  go_wp2
  go_ret
  exact ⟨rfl, rfl⟩

set_option maxHeartbeats 1000000 in
set_option maxRecDepth 100000 in
theorem spec_format (n : Int) (w : World) (h0 : -9223372036854775808 ≤ n) (h1 : n ≤ 9223372036854775807) :
    Calls Tryd.prog 19 #[.int .i64 n] w fun e w' => e = .returned (.string ⟨(Lib.itoa n).toArray⟩) ∧ Below w.heap.size w w' := by
  by_cases hz : n = 0
  · subst hz
    go_enter Tryd.func19, Tryd.ntmps19
    go_wp2
    go_ret
    exact ⟨by rw [itoa_zero]; rfl, Below.refl _ _⟩
  · have hz' : (n == 0) = false := by simpa using hz
    have HN := Lib.hid hz
    clear hz
    go_enter Tryd.func19, Tryd.ntmps19
    go_wp2
    go_loopw [0, 4] (fun v t wr => ∃ m : Int, -9223372036854775808 ≤ m ∧ m ≤ 9223372036854775807 ∧ v = .int .i64 m ∧ ∃ s : ByteArray, t = .string s ∧ Hid (FmtRel n.natAbs m.natAbs s) ∧ Below w.heap.size w wr)
      (fun v _ _ => (intOf v).natAbs)
    case atStart => exact ⟨n, h0, h1, rfl, _, rfl, Lib.hid ⟨by simp, by decide⟩, Below.refl _ _⟩
    case round =>
      obtain ⟨m, m0, m1, rfl, s, rfl, hrel, hb⟩ := hrel
      have hs : s.size ≤ 20 := hrel.out.2
      by_cases hm : m = 0
      · subst hm
        have hr := hrel.out.1
        by_cases hneg : n < 0
        · have HI : Hid (Lib.itoa n = 45 :: s.data.toList) := Lib.hid (by rw [itoa_of_decD n HN.out, if_pos hneg, ← hr]; rfl)
          clear hr hrel
          go_wp2
          go_ret
          exact ⟨by rw [HI.out]; exact ret_cat [45] s, hb⟩
        · have HI : Hid (Lib.itoa n = s.data.toList) := Lib.hid (by rw [itoa_of_decD n HN.out, if_neg hneg, ← hr]; rfl)
          clear hr hrel
          go_wp2
          go_ret
          exact ⟨by rw [HI.out]; rfl, hb⟩
      · have hm' : (m == 0) = false := by simpa using hm
        have hmn : m.natAbs ≠ 0 := by omega
        have HM := Lib.hid hmn
        have HR0 := fmt_step _ _ s hrel.out hmn (by omega)
        obtain ⟨d, hd⟩ : ∃ d : Int, d = ((m.natAbs % 10 : Nat) : Int) := ⟨_, rfl⟩
        have d0 : 0 ≤ d := by omega
        have d9 : d < 10 := by omega
        have HB0 : (((UInt8.ofNat (48 + m.natAbs % 10)).toNat : Nat) : Int) = 48 + d := by rw [UInt8.toNat_ofNat', hd]; omega
        generalize UInt8.ofNat (48 + m.natAbs % 10) = c at HR0 HB0
        have HR := Lib.hid HR0
        have HB := Lib.hid HB0
        clear HR0 HB0
        have hconv : ∀ W : World, (convert 22 9 (.slice (some ⟨W.heap.size, 0, none⟩) 1 1)).run Tryd.prog (W.alloc (.cells #[.int .u8 (48 + d)] 5)) = .ok (.string ⟨#[c]⟩) (W.alloc (.cells #[.int .u8 (48 + d)] 5)) := fun W =>
          run_convert_bytes_back (P := Tryd.prog) (W.alloc (.cells #[.int .u8 (48 + d)] 5)) _ _ _ ⟨W.heap.size, 0, none⟩ 1 [c] Tryd.underlying22 Tryd.underlying5 Tryd.underlying9 (fun j hj => by
            have hj0 : j = 0 := by simpa using hj
            subst hj0
            have hc := cell_of_row (W.alloc (.cells #[.int .u8 (48 + d)] 5)) W.heap.size 0 _ _ _ (heap_alloc_new W (.cells #[.int .u8 (48 + d)] 5))
            rw [show (⟨W.heap.size, 0, none⟩ : Addr).add 0 = ⟨W.heap.size, 0, none⟩ from rfl, hc]
            simp [HB.out])
        by_cases hneg : m < 0
        · obtain ⟨q, hq⟩ : ∃ q : Int, m.tdiv 10 = q := ⟨_, rfl⟩
          have hq1 : q = -((m.natAbs / 10 : Nat) : Int) := by
            rw [← hq, show m = -((m.natAbs : Nat) : Int) from by omega, Int.neg_tdiv, Int.tdiv_eq_ediv_of_nonneg (by omega), Int.natAbs_neg, Int.natAbs_natCast]
            omega
          have hr1 : m.tmod 10 = -d := by
            rw [hd, show m = -((m.natAbs : Nat) : Int) from by omega, Int.neg_tmod, Int.tmod_eq_emod_of_nonneg (by omega), Int.natAbs_neg, Int.natAbs_natCast]
            omega
          have q0 : -9223372036854775808 ≤ q := by omega
          have q1 : q ≤ 0 := by omega
          have HQ : Hid (q.natAbs = m.natAbs / 10) := Lib.hid (by omega)
          clear hq1 hmn hd hm
          by_cases hd0 : d = 0
          · subst hd0
            simp only [Int.add_zero] at hconv
            simp only [Int.neg_zero] at hr1
            go_wp2_with (go_at_call 32; refine (figure_dec _ _ (by omega) (by omega)).mono ?_; rintro e w' ⟨rfl, rfl⟩)
            go_roundw
            case rel => exact ⟨q, q0, by omega, rfl, _, rfl, by rw [show q.natAbs = m.natAbs / 10 from HQ.out]; exact HR, hb.alloc hb.size _⟩
            case measure => simp [intOf]; have := HQ.out; have := HM.out; omega
          · have hd1 : 0 < d := by omega
            go_wp2_with (go_at_call 32; refine (figure_dec _ _ (by omega) (by omega)).mono ?_; rintro e w' ⟨rfl, rfl⟩)
            go_roundw
            case rel => exact ⟨q, q0, by omega, rfl, _, rfl, by rw [show q.natAbs = m.natAbs / 10 from HQ.out]; exact HR, hb.alloc hb.size _⟩
            case measure => simp [intOf]; have := HQ.out; have := HM.out; omega
        · have hp : 0 ≤ m := by omega
          have hr1 : m % 10 = d := by omega
          have HQ : Hid ((m / 10).natAbs = m.natAbs / 10) := Lib.hid (by omega)
          clear hmn hd hm
          go_wp2_with (go_at_call 32; refine (figure_dec _ _ (by omega) (by omega)).mono ?_; rintro e w' ⟨rfl, rfl⟩)
          go_roundw
          case rel => exact ⟨m / 10, by omega, by omega, rfl, _, rfl, by rw [show (m / 10).natAbs = m.natAbs / 10 from HQ.out]; exact HR, hb.alloc hb.size _⟩
          case measure => simp [intOf]; have := HQ.out; have := HM.out; omega

end Go.Proofs.YtcflfpdcphkoeaaDoor
