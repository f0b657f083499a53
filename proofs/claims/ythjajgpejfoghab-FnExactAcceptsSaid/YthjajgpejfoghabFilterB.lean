/- FilterOk of both sides. -/
import Derived.Test.YthjajgpejfoghabAllIn
import Derived.Test.YthjajgpejfoghabInYN
import Derived.Test.YthjajgpejfoghabToInts
namespace Go.Proofs.Ythjajgpejfoghab
open Go.RowKit
set_option linter.unusedSimpArgs false
set_option linter.unusedVariables false

def ascB (f : Nat → Int) (n : Nat) : Bool := decide (∀ j : Nat, j < n - 1 → f j < f (j + 1))
def filterB (ma : Int) (n : Nat) (f : Nat → Int) : Bool := decide (0 ≤ ma ∧ ma ≤ 281474976710654) && decide (n ≤ 8) && allB f n 0 4095 && ascB f n

set_option maxHeartbeats 4000000 in
set_option maxRecDepth 100000 in
theorem impl_asc (w : World) (a : Option Addr) (g n c : Nat) (f : Nat → Int) (hn : n ≤ 4194304) (ha : 0 < n → a = some ⟨g, 0, none⟩) (h : ∀ j, j < n → w.cell? ⟨g, j, none⟩ = some (.int .i64 (f j))) :
    Calls Try.prog 81 #[.slice a n c] w fun e w' => e = .returned (.bool (ascB f n)) ∧ Below w.heap.size w w' := by
  have H := Lib.hid h
  have HA := Lib.hid ha
  clear h ha
  by_cases hn1 : n ≤ 1
  case pos =>
    have hb : ascB f n = true := decide_eq_true fun j hj => by omega
    rw [hb]
    have e1 : ¬ (0 : Int) < (n : Int) - 1 := by omega
    clear hb
    go_enter Try.func81, Try.ntmps81
    go_wp2
    go_loop [7] (fun i => i = .int .i64 0) (fun _ => 0)
    case atStart => rfl
    case round =>
      subst hrel
      go_wp2
      go_ret
      exact ⟨rfl, Below.refl _ _⟩
  have ea := HA.out (by omega)
  subst ea
  obtain ⟨m, rfl⟩ : ∃ m, n = m + 1 := ⟨n - 1, by omega⟩
  have em : ((m + 1 : Nat) : Int) - 1 = (m : Int) := by omega
  have HM := Lib.hid em
  clear em
  go_enter Try.func81, Try.ntmps81
  go_wp2
  go_loopw [7] (fun i wr => ∃ k : Nat, k ≤ m ∧ i = .int .i64 k ∧ (∃ d, wr = w.drewN d) ∧ Hid (∀ j : Nat, j < k → f j < f (j + 1))) (fun i _ => m + 1 - (intOf i).toNat)
  case atStart => exact ⟨0, by omega, rfl, ⟨0, rfl⟩, Lib.hid fun j hj => by omega⟩
  case round =>
    obtain ⟨k, hk, rfl, ⟨d, rfl⟩, HK⟩ := hrel
    by_cases hlt : k < m
    · have d1 : (w.drewN d).cell? ⟨g, k, none⟩ = some (.int .i64 (f k)) := H.out k (by omega)
      have d2 : (w.drewN d).cell? ⟨g, k + 1, none⟩ = some (.int .i64 (f (k + 1))) := H.out (k + 1) (by omega)
      have d3 : w.cell? ⟨g, k, none⟩ = some (.int .i64 (f k)) := H.out k (by omega)
      have d4 : w.cell? ⟨g, k + 1, none⟩ = some (.int .i64 (f (k + 1))) := H.out (k + 1) (by omega)
      have e1 : (k : Int) < (m : Int) := by omega
      have e0 : (0 : Int) ≤ (k : Int) := by omega
      have e2 : (k : Int) < (m : Int) + 1 := by omega
      have e3 : (k : Int) + 1 < (m : Int) + 1 := by omega
      have e4 : (0 : Int) ≤ (k : Int) + 1 := by omega
      have e5 : IntKind.i64.wrap ((k : Int) + 1) = (k : Int) + 1 := wrap_in _ (by omega) (by omega)
      have e6 : ((k : Int) + 1).toNat = k + 1 := by omega
      by_cases hg : f k < f (k + 1)
      · have HK2 : Hid (∀ j : Nat, j < k + 1 → f j < f (j + 1)) := Lib.hid fun j hj => by
          rcases Nat.lt_succ_iff_lt_or_eq.1 hj with h | h
          · exact HK.out j h
          · exact h ▸ hg
        have hg2 : ¬ f (k + 1) ≤ f k := by omega
        go_wp2
        go_quiet (fail)
        go_wp2
        clear e5
        go_roundw
        case rel => exact ⟨k + 1, by omega, by go_num, ⟨_, rfl⟩, HK2⟩
        case measure => simp [intOf]; omega
      · have hb : ascB f (m + 1) = false := decide_eq_false fun hh => hg (hh k (by omega))
        have HB := Lib.hid hb
        have hg2 : f (k + 1) ≤ f k := by omega
        clear hb
        go_wp2
        go_quiet (fail)
        go_wp2
        go_ret
        exact ⟨ret_bool HB.out.symm, by first | exact below_drewM _ | exact below_comp (below_drewM _) (below_drewM _)⟩
    · obtain rfl : k = m := by omega
      have hb : ascB f (k + 1) = true := decide_eq_true fun j hj => HK.out j (by omega)
      have HB := Lib.hid hb
      clear hb
      go_wp2
      go_ret
      exact ⟨ret_bool HB.out.symm, below_drewM _⟩

set_option maxHeartbeats 4000000 in
set_option maxRecDepth 100000 in
theorem impl_filterok (ma : Int) (pr : Bool) (v : Value) (n B : Nat) (f : Nat → Int) (w : World) (hn : n ≤ 4194304) (R : IntRow w B v n f) :
    Calls Try.prog 36 #[.agg #[.int .i64 ma, .bool pr, v]] w fun e w' => e = .returned (.bool (filterB ma n f)) ∧ Below w.heap.size w w' := by
  obtain ⟨a, g, c, rfl, ha, hcell⟩ := R.open
  have HA := Lib.hid ha
  have HX := Lib.hid hcell
  clear R ha hcell
  by_cases c0 : 0 ≤ ma ∧ ma ≤ 281474976710654
  case neg =>
    rw [show filterB ma n f = false by unfold filterB; rw [decide_eq_false c0]; rfl]
    have HQ := Lib.hid fun W => impl_in_no ma 0 281474976710654 W c0
    clear c0
    go_enter Try.func36, Try.ntmps36
    go_wp2_with (first | (go_at_call 74; refine (HQ.out _).mono ?_; rintro e w' ⟨rfl, rfl⟩))
    go_ret
    exact ⟨rfl, below_new _⟩
  have HQ := Lib.hid fun W => impl_in_yes ma 0 281474976710654 W c0
  by_cases c1 : n ≤ 8
  case neg =>
    rw [show filterB ma n f = false by unfold filterB; rw [decide_eq_false c1, Bool.and_false]; rfl]
    have c1' : ¬ (n : Int) ≤ 8 := by omega
    clear c0 c1
    go_enter Try.func36, Try.ntmps36
    go_wp2_with (first | (go_at_call 74; refine (HQ.out _).mono ?_; rintro e w' ⟨rfl, rfl⟩))
    go_ret
    exact ⟨rfl, below_new _⟩
  have c1' : (n : Int) ≤ 8 := by omega
  have HL : Hid (∀ W, Below w.heap.size w W → Calls Try.prog 76 #[.slice a n c, .int .i64 0, .int .i64 4095] W fun e w' => e = .returned (.bool (allB f n 0 4095)) ∧ Below W.heap.size W w') := Lib.hid fun W hb => impl_allin W a g n c f 0 4095 hn HA.out (fun j hj => by
    have hg := block_lt_of_cell (HX.out j hj)
    rw [hb.cell (p := ⟨g, j, none⟩) hg]; exact HX.out j hj)
  have HS : Hid (∀ W, Below w.heap.size w W → Calls Try.prog 81 #[.slice a n c] W fun e w' => e = .returned (.bool (ascB f n)) ∧ Below W.heap.size W w') := Lib.hid fun W hb => impl_asc W a g n c f hn HA.out (fun j hj => by
    have hg := block_lt_of_cell (HX.out j hj)
    rw [hb.cell (p := ⟨g, j, none⟩) hg]; exact HX.out j hj)
  rw [show filterB ma n f = (allB f n 0 4095 && ascB f n) by unfold filterB; rw [decide_eq_true c0, decide_eq_true c1]; rfl]
  generalize allB f n 0 4095 = B1 at HL ⊢
  generalize ascB f n = B2 at HS ⊢
  clear c0 c1
  cases B1
  · go_enter Try.func36, Try.ntmps36
    go_wp2_with (first | (go_at_call 74; refine (HQ.out _).mono ?_; rintro e w' ⟨rfl, rfl⟩) | (go_at_call 76; refine (HL.out _ (by first | exact below_new _ | exact below_comp (below_new _) hb1)).mono ?_; rintro e w1 ⟨rfl, hb1⟩; obtain ⟨hc, hf, _⟩ := bcell hb1))
    go_ret
    exact ⟨rfl, below_comp (below_new _) hb1⟩
  · go_enter Try.func36, Try.ntmps36
    go_wp2_with (first | (go_at_call 74; refine (HQ.out _).mono ?_; rintro e w' ⟨rfl, rfl⟩) | (go_at_call 76; refine (HL.out _ (by first | exact below_new _ | exact below_comp (below_new _) hb1)).mono ?_; rintro e w1 ⟨rfl, hb1⟩; obtain ⟨hc, hf, _⟩ := bcell hb1) | (go_at_call 81; refine (HS.out _ (by first | exact below_new _ | exact below_comp (below_new _) hb1)).mono ?_; rintro e w2 ⟨rfl, hb2⟩; obtain ⟨hc, hf, _⟩ := bcell hb2))
    go_ret
    exact ⟨by simp, below_comp (below_comp (below_new _) hb1) hb2⟩

theorem quiet_sum {P : Program} {fn : FuncId} {args : Array Value} {v : Value} (h : ∀ W : World, Calls P fn args W fun e w' => e = .returned v ∧ W = w') (w : World) (a n : Nat) :
    Calls P fn args (w.drewN (a + n)) fun e w'' => e = .returned v ∧ ∃ m, w'' = w.drewN (a + m) := (h _).mono fun _ _ hh => ⟨hh.1, n, hh.2.symm⟩
theorem quiet_two {P : Program} {fn : FuncId} {args : Array Value} {v : Value} (h : ∀ W : World, Calls P fn args W fun e w' => e = .returned v ∧ W = w') (w : World) (a n : Nat) :
    Calls P fn args ((w.drewN a).drewN n) fun e w'' => e = .returned v ∧ ∃ m, w'' = (w.drewN a).drewN m := (h _).mono fun _ _ hh => ⟨hh.1, n, hh.2.symm⟩

theorem filterB_bad {ma : Int} {n : Nat} {f : Nat → Int} {k : Nat} (hk : k < n) (h : ¬ (0 ≤ f k ∧ f k ≤ 4095)) : filterB ma n f = false := by
  have hb : allB f n 0 4095 = false := decide_eq_false fun hh => h (hh k hk)
  unfold filterB; rw [hb, Bool.and_false]; rfl
theorem filterB_asc {ma : Int} {n : Nat} {f : Nat → Int} {k : Nat} (hk : k + 1 < n) (h : ¬ f k < f (k + 1)) : filterB ma n f = false := by
  have hb : ascB f n = false := decide_eq_false fun hh => h (hh k (by omega))
  unfold filterB; rw [hb, Bool.and_false]
theorem filterB_end {ma : Int} {n : Nat} {f : Nat → Int} (h : ∀ j : Nat, j < n → (0 ≤ f j ∧ f j ≤ 4095) ∧ (j + 1 < n → f j < f (j + 1))) : filterB ma n f = (decide (0 ≤ ma ∧ ma ≤ 281474976710654) && decide (n ≤ 8)) := by
  have h1 : allB f n 0 4095 = true := decide_eq_true fun j hj => (h j hj).1
  have h2 : ascB f n = true := decide_eq_true fun j hj => (h j (by omega)).2 (by omega)
  unfold filterB; rw [h1, h2, Bool.and_true, Bool.and_true]

set_option maxHeartbeats 4000000 in
set_option maxRecDepth 100000 in
theorem spec_filterok (ma : Int) (pr : Bool) (v : Value) (n B : Nat) (f : Nat → Int) (w : World) (hn : n ≤ 4194304) (R : IntRow w B v n f) :
    Calls Try.prog 34 #[.agg #[.int .i64 ma, .bool pr, v]] w fun e w' => e = .returned (.bool (filterB ma n f)) ∧ Below w.heap.size w w' := by
  obtain ⟨a, g, c, rfl, ha, hcell⟩ := R.open
  have HA := Lib.hid ha
  have HX := Lib.hid hcell
  clear R ha hcell
  obtain ⟨W0, hW0⟩ : ∃ W0, W0 = w.alloc (.cells #[.int .i64 ma, .bool pr, .slice a n c] 53) := ⟨_, rfl⟩
  have HW := Lib.hid hW0
  have K := Lib.hid (show Box W0 w.heap.size #[.int .i64 ma, .bool pr, .slice a n c] 53 from hW0 ▸ Box.new w _ _)
  have HB0 := Lib.hid (show Below w.heap.size w W0 from hW0 ▸ below_new _)
  have H2 : Hid (∀ j, j < n → W0.cell? ⟨g, j, none⟩ = some (.int .i64 (f j))) := Lib.hid fun j hj => by
    have hg := block_lt_of_cell (HX.out j hj)
    rw [HB0.out.cell (p := ⟨g, j, none⟩) hg]; exact HX.out j hj
  have k0 : W0.cell? ⟨w.heap.size, 0, none⟩ = some (.int .i64 ma) := K.out.cell 0 (by simp)
  have k2 : W0.cell? ⟨w.heap.size, 2, none⟩ = some (.slice a n c) := K.out.cell 2 (by simp)
  clear hW0
  go_enter Try.func34, Try.ntmps34
  go_wp2_with fail
  rw [← HW.out]
  go_loopw [3] (fun i wr => ∃ k : Nat, k ≤ n ∧ i = .int .i64 k ∧ (∃ d, wr = W0.drewN d) ∧ Hid (∀ j : Nat, j < k → (0 ≤ f j ∧ f j ≤ 4095) ∧ (j + 1 < k → f j < f (j + 1)))) (fun i _ => n + 1 - (intOf i).toNat)
  case atStart => exact ⟨0, by omega, rfl, ⟨0, rfl⟩, Lib.hid fun j hj => by omega⟩
  case round =>
    obtain ⟨k, hk, rfl, ⟨d, rfl⟩, HK⟩ := hrel
    by_cases hlt : k < n
    · have ea := HA.out (by omega)
      subst ea
      have d1 : W0.cell? ⟨g, k, none⟩ = some (.int .i64 (f k)) := H2.out k hlt
      have e1 : (k : Int) < (n : Int) := by omega
      have e0 : (0 : Int) ≤ (k : Int) := by omega
      by_cases hin : 0 ≤ f k ∧ f k ≤ 4095
      case neg =>
        have HG := Lib.hid fun W => spec_in_no (f k) 0 4095 W hin
        have HB := Lib.hid (filterB_bad (ma := ma) hlt hin)
        clear hin
        go_wp2
        go_quiet ((go_at_call 71; first | exact quiet_sum HG.out _ _ _ | exact quiet_two HG.out _ _ _))
        go_wp2
        go_ret
        exact ⟨ret_bool HB.out.symm, by repeat (first | with_reducible exact HB0.out | with_reducible exact below_new _ | with_reducible exact below_drewM _ | (with_reducible apply below_comp; rotate_left; with_reducible exact below_drewM _))⟩
      have HG := Lib.hid fun W => spec_in_yes (f k) 0 4095 W hin
      rcases Nat.eq_zero_or_pos k with rfl | hpos
      · have HK2 : Hid (∀ j : Nat, j < 0 + 1 → (0 ≤ f j ∧ f j ≤ 4095) ∧ (j + 1 < 0 + 1 → f j < f (j + 1))) := Lib.hid fun j hj => by
          obtain rfl : j = 0 := by omega
          exact ⟨hin, fun h => by omega⟩
        clear hin
        go_wp2
        go_quiet ((go_at_call 71; first | exact quiet_sum HG.out _ _ _ | exact quiet_two HG.out _ _ _))
        go_wp2
        go_roundw
        case rel => exact ⟨1, by omega, by go_num, ⟨_, rfl⟩, HK2⟩
        case measure => simp [intOf] <;> omega
      obtain ⟨m, rfl⟩ : ∃ m, k = m + 1 := ⟨k - 1, by omega⟩
      have d2 : W0.cell? ⟨g, m, none⟩ = some (.int .i64 (f m)) := H2.out m (by omega)
      have e2 : (m : Int) < (n : Int) := by omega
      have e3 : (0 : Int) ≤ (m : Int) := by omega
      have e4 : (0 : Int) < (m : Int) + 1 := by omega
      have e5 : (m : Int) + 1 < (n : Int) := by omega
      have e6 : (0 : Int) ≤ (m : Int) + 1 := by omega
      have e7 : IntKind.i64.wrap ((m : Int) + 1 - 1) = (m : Int) := by rw [show (m : Int) + 1 - 1 = m by omega]; exact wrap_in _ (by omega) (by omega)
      have e8 : ((m : Int) + 1).toNat = m + 1 := by omega
      by_cases hg : f m < f (m + 1)
      · have hg2 : ¬ f (m + 1) ≤ f m := by omega
        have HK2 : Hid (∀ j : Nat, j < m + 1 + 1 → (0 ≤ f j ∧ f j ≤ 4095) ∧ (j + 1 < m + 1 + 1 → f j < f (j + 1))) := Lib.hid fun j hj => by
          rcases Nat.lt_succ_iff_lt_or_eq.1 hj with h | h
          · refine ⟨(HK.out j h).1, fun _ => ?_⟩
            rcases Nat.lt_succ_iff_lt_or_eq.1 h with h3 | h3
            · exact (HK.out j h).2 (by omega)
            · exact h3 ▸ hg
          · exact ⟨h ▸ hin, fun h => by omega⟩
        clear hin hg
        go_wp2
        go_quiet ((go_at_call 71; first | exact quiet_sum HG.out _ _ _ | exact quiet_two HG.out _ _ _))
        go_wp2
        go_roundw
        case rel => exact ⟨m + 2, by omega, by go_num, ⟨_, rfl⟩, HK2⟩
        case measure => simp [intOf] <;> omega
      · have hg2 : f (m + 1) ≤ f m := by omega
        have HB := Lib.hid (filterB_asc (ma := ma) (n := n) (f := f) (k := m) (by omega) hg)
        clear hin hg
        go_wp2
        go_quiet ((go_at_call 71; first | exact quiet_sum HG.out _ _ _ | exact quiet_two HG.out _ _ _))
        go_wp2
        go_ret
        exact ⟨ret_bool HB.out.symm, by repeat (first | with_reducible exact HB0.out | with_reducible exact below_new _ | with_reducible exact below_drewM _ | (with_reducible apply below_comp; rotate_left; with_reducible exact below_drewM _))⟩
    · obtain rfl : k = n := by omega
      have HB := Lib.hid (filterB_end (ma := ma) HK.out)
      have e1 : ¬ (k : Int) < (k : Int) := by omega
      by_cases c0 : 0 ≤ ma ∧ ma ≤ 281474976710654
      · have HG := Lib.hid fun W => spec_in_yes ma 0 281474976710654 W c0
        have HC0 := Lib.hid c0
        clear c0
        go_wp2_with (first | (go_at_call 71; refine (HG.out _).mono ?_; rintro e w' ⟨rfl, rfl⟩))
        go_ret
        exact ⟨ret_bool (by rw [HB.out, decide_eq_true HC0.out, Bool.true_and]; exact decide_eq_decide.2 (by omega)), below_comp HB0.out (below_drewM _)⟩
      · have HG := Lib.hid fun W => spec_in_no ma 0 281474976710654 W c0
        have HC0 := Lib.hid c0
        clear c0
        go_wp2_with (first | (go_at_call 71; refine (HG.out _).mono ?_; rintro e w' ⟨rfl, rfl⟩))
        go_ret
        exact ⟨ret_bool (by rw [HB.out, decide_eq_false HC0.out]; rfl), below_comp HB0.out (below_drewM _)⟩

end Go.Proofs.Ythjajgpejfoghab
