/- OffsetOf, DelayOf of both sides. -/
import Derived.Test.YtdcjbojigmgcgabAllIn
import Derived.Test.YtdcjbojigmgcgabInYN
namespace Go.Proofs.Ytdcjbojigmgcgab
open Go.RowKit
set_option linter.unusedSimpArgs false
set_option linter.unusedVariables false

def four (a b c d : Int) (j : Nat) : Int := [a, b, c, d].getD j 0
def timesB (a b c d : Int) : Bool := allB (four a b c d) 4 0 1125899906842624
theorem times_iff (a b c d : Int) (h : timesB a b c d = true) : (0 ≤ a ∧ a ≤ 1125899906842624) ∧ (0 ≤ b ∧ b ≤ 1125899906842624) ∧ (0 ≤ c ∧ c ≤ 1125899906842624) ∧ (0 ≤ d ∧ d ≤ 1125899906842624) := by
  have h := of_decide_eq_true h
  exact ⟨h 0 (by omega), h 1 (by omega), h 2 (by omega), h 3 (by omega)⟩
theorem four_cells {w : World} {g : Nat} {a b c d : Int} {T : TypeId} (h : Box w g #[.int .i64 a, .int .i64 b, .int .i64 c, .int .i64 d] T) (j : Nat) (hj : j < 4) : w.cell? ⟨g, j, none⟩ = some (.int .i64 (four a b c d j)) := by
  have := h.cell j (by simpa using hj)
  rw [this]
  match j, hj with
  | 0, _ => rfl
  | 1, _ => rfl
  | 2, _ => rfl
  | 3, _ => rfl
def offsetV (a b c d : Int) : Int := if timesB a b c d = true then Int.tdiv (b - a - d + c) 2 else 0
def delayV (a b c d : Int) : Int := if timesB a b c d = true then Int.tdiv (d - a - c + b) 2 else 0

set_option maxHeartbeats 4000000 in
set_option maxRecDepth 100000 in
theorem impl_times (a b c d : Int) (w : World) (g : Nat) (T : TypeId) (h : Box w g #[.int .i64 a, .int .i64 b, .int .i64 c, .int .i64 d] T) :
    Calls Try.prog 42 #[.slice (some ⟨g, 0, none⟩) 4 4] w fun e w' => e = .returned (.bool (timesB a b c d)) ∧ Below w.heap.size w w' := by
  have HA := Lib.hid (impl_allin w (some ⟨g, 0, none⟩) g 4 4 (four a b c d) 0 1125899906842624 (by decide) (fun _ => rfl) (four_cells h))
  rw [show allB (four a b c d) 4 0 1125899906842624 = timesB a b c d from rfl] at HA
  generalize timesB a b c d = B at HA ⊢
  clear h
  go_enter Try.func42, Try.ntmps42
  go_wp2_with (first | (go_at_call 50; refine HA.out.mono ?_; rintro e w1 ⟨rfl, hb1⟩))
  go_ret
  exact ⟨rfl, hb1⟩

set_option maxHeartbeats 4000000 in
set_option maxRecDepth 100000 in
theorem spec_times (a b c d : Int) (w : World) (g : Nat) (T : TypeId) (h : Box w g #[.int .i64 a, .int .i64 b, .int .i64 c, .int .i64 d] T) :
    Calls Try.prog 41 #[.slice (some ⟨g, 0, none⟩) 4 4] w fun e w' => e = .returned (.bool (timesB a b c d)) ∧ Below w.heap.size w w' := by
  obtain ⟨f, hf⟩ : ∃ f, f = four a b c d := ⟨_, rfl⟩
  have H : Hid (∀ j, j < 4 → w.cell? ⟨g, j, none⟩ = some (.int .i64 (f j))) := Lib.hid (hf ▸ four_cells h)
  rw [show timesB a b c d = allB f 4 0 1125899906842624 by rw [hf]; rfl]
  clear h hf
  go_enter Try.func41, Try.ntmps41
  go_wp2
  go_loopw [3] (fun i wr => ∃ k : Nat, k ≤ 4 ∧ i = .int .i64 k ∧ (∃ m, wr = w.drewN m) ∧ Hid (∀ j : Nat, j < k → 0 ≤ f j ∧ f j ≤ 1125899906842624)) (fun i _ => 5 - (intOf i).toNat)
  case atStart => exact ⟨0, by omega, rfl, ⟨0, rfl⟩, Lib.hid fun j hj => by omega⟩
  case round =>
    obtain ⟨k, hk, rfl, ⟨m, rfl⟩, HK⟩ := hrel
    by_cases hlt : k < 4
    · have d1 : (w.drewN m).cell? ⟨g, k, none⟩ = some (.int .i64 (f k)) := H.out k hlt
      have e1 : (k : Int) < 4 := by omega
      have e0 : (0 : Int) ≤ (k : Int) := by omega
      by_cases hg : 0 ≤ f k ∧ f k ≤ 1125899906842624
      · have HG := Lib.hid fun W => spec_in_yes (f k) 0 1125899906842624 W hg
        have HK2 : Hid (∀ j : Nat, j < k + 1 → 0 ≤ f j ∧ f j ≤ 1125899906842624) := Lib.hid fun j hj => by
          rcases Nat.lt_succ_iff_lt_or_eq.1 hj with h | h
          · exact HK.out j h
          · exact h ▸ hg
        clear hg
        go_wp2_with (first | (go_at_call 36; refine (HG.out _).mono ?_; rintro e w' ⟨rfl, rfl⟩))
        go_roundw
        case rel => exact ⟨k + 1, by omega, by go_num, ⟨_, rfl⟩, HK2⟩
        case measure => simp [intOf]; omega
      · have HG := Lib.hid fun W => spec_in_no (f k) 0 1125899906842624 W hg
        have hb : allB f 4 0 1125899906842624 = false := decide_eq_false fun hh => hg (hh k hlt)
        have HB := Lib.hid hb
        clear hg hb
        go_wp2_with (first | (go_at_call 36; refine (HG.out _).mono ?_; rintro e w' ⟨rfl, rfl⟩))
        go_ret
        exact ⟨ret_bool HB.out.symm, below_drewM m⟩
    · obtain rfl : k = 4 := by omega
      have hb : allB f 4 0 1125899906842624 = true := decide_eq_true HK.out
      have HB := Lib.hid hb
      clear hb
      go_wp2
      go_ret
      exact ⟨ret_bool HB.out.symm, below_drewM m⟩

set_option maxHeartbeats 4000000 in
set_option maxRecDepth 100000 in
theorem spec_offsetV (a b c d : Int) (w : World) :
    Calls Try.prog 23 #[.int .i64 a, .int .i64 b, .int .i64 c, .int .i64 d] w fun e w' => e = .returned (.int .i64 (offsetV a b c d)) ∧ Below w.heap.size w w' := by
  have HT := Lib.hid fun (W : World) (g : Nat) (T : TypeId) => spec_times a b c d W g T
  by_cases h : timesB a b c d = true
  case neg =>
    rw [show offsetV a b c d = 0 from if_neg h]
    rw [Bool.eq_false_iff.2 h] at HT
    clear h
    go_enter Try.func23, Try.ntmps23
    go_wp2_with (first | (go_at_call 41; refine (HT.out _ _ _ (Box.new _ _ _)).mono ?_; rintro e w1 ⟨rfl, hb1⟩))
    go_ret
    exact ⟨rfl, below_comp (below_new _) hb1⟩
  rw [show offsetV a b c d = _ from if_pos h]
  rw [h] at HT
  obtain ⟨⟨a1, a2⟩, ⟨b1, b2⟩, ⟨c1, c2⟩, ⟨d1, d2⟩⟩ := times_iff a b c d h
  clear h
  go_enter Try.func23, Try.ntmps23
  go_wp2_with (first | (go_at_call 41; refine (HT.out _ _ _ (Box.new _ _ _)).mono ?_; rintro e w1 ⟨rfl, hb1⟩))
  go_ret
  exact ⟨rfl, below_comp (below_new _) hb1⟩

set_option maxHeartbeats 4000000 in
set_option maxRecDepth 100000 in
theorem spec_delayV (a b c d : Int) (w : World) :
    Calls Try.prog 25 #[.int .i64 a, .int .i64 b, .int .i64 c, .int .i64 d] w fun e w' => e = .returned (.int .i64 (delayV a b c d)) ∧ Below w.heap.size w w' := by
  have HT := Lib.hid fun (W : World) (g : Nat) (T : TypeId) => spec_times a b c d W g T
  by_cases h : timesB a b c d = true
  case neg =>
    rw [show delayV a b c d = 0 from if_neg h]
    rw [Bool.eq_false_iff.2 h] at HT
    clear h
    go_enter Try.func25, Try.ntmps25
    go_wp2_with (first | (go_at_call 41; refine (HT.out _ _ _ (Box.new _ _ _)).mono ?_; rintro e w1 ⟨rfl, hb1⟩))
    go_ret
    exact ⟨rfl, below_comp (below_new _) hb1⟩
  rw [show delayV a b c d = _ from if_pos h]
  rw [h] at HT
  obtain ⟨⟨a1, a2⟩, ⟨b1, b2⟩, ⟨c1, c2⟩, ⟨d1, d2⟩⟩ := times_iff a b c d h
  clear h
  go_enter Try.func25, Try.ntmps25
  go_wp2_with (first | (go_at_call 41; refine (HT.out _ _ _ (Box.new _ _ _)).mono ?_; rintro e w1 ⟨rfl, hb1⟩))
  go_ret
  exact ⟨rfl, below_comp (below_new _) hb1⟩

set_option maxHeartbeats 4000000 in
set_option maxRecDepth 100000 in
theorem impl_offsetV (a b c d : Int) (w : World) :
    Calls Try.prog 24 #[.int .i64 a, .int .i64 b, .int .i64 c, .int .i64 d] w fun e w' => e = .returned (.int .i64 (offsetV a b c d)) ∧ Below w.heap.size w w' := by
  have HT := Lib.hid fun (W : World) (g : Nat) (T : TypeId) => impl_times a b c d W g T
  by_cases h : timesB a b c d = true
  case neg =>
    rw [show offsetV a b c d = 0 from if_neg h]
    rw [Bool.eq_false_iff.2 h] at HT
    clear h
    go_enter Try.func24, Try.ntmps24
    go_wp2_with (first | (go_at_call 42; refine (HT.out _ _ _ (Box.new _ _ _)).mono ?_; rintro e w1 ⟨rfl, hb1⟩))
    go_ret
    exact ⟨rfl, below_comp (below_new _) hb1⟩
  rw [show offsetV a b c d = _ from if_pos h]
  rw [h] at HT
  obtain ⟨⟨a1, a2⟩, ⟨b1, b2⟩, ⟨c1, c2⟩, ⟨d1, d2⟩⟩ := times_iff a b c d h
  clear h
  go_enter Try.func24, Try.ntmps24
  go_wp2_with (first | (go_at_call 42; refine (HT.out _ _ _ (Box.new _ _ _)).mono ?_; rintro e w1 ⟨rfl, hb1⟩))
  go_ret
  exact ⟨rfl, below_comp (below_new _) hb1⟩

set_option maxHeartbeats 4000000 in
set_option maxRecDepth 100000 in
theorem impl_delayV (a b c d : Int) (w : World) :
    Calls Try.prog 26 #[.int .i64 a, .int .i64 b, .int .i64 c, .int .i64 d] w fun e w' => e = .returned (.int .i64 (delayV a b c d)) ∧ Below w.heap.size w w' := by
  have HT := Lib.hid fun (W : World) (g : Nat) (T : TypeId) => impl_times a b c d W g T
  by_cases h : timesB a b c d = true
  case neg =>
    rw [show delayV a b c d = 0 from if_neg h]
    rw [Bool.eq_false_iff.2 h] at HT
    clear h
    go_enter Try.func26, Try.ntmps26
    go_wp2_with (first | (go_at_call 42; refine (HT.out _ _ _ (Box.new _ _ _)).mono ?_; rintro e w1 ⟨rfl, hb1⟩))
    go_ret
    exact ⟨rfl, below_comp (below_new _) hb1⟩
  rw [show delayV a b c d = _ from if_pos h]
  rw [h] at HT
  obtain ⟨⟨a1, a2⟩, ⟨b1, b2⟩, ⟨c1, c2⟩, ⟨d1, d2⟩⟩ := times_iff a b c d h
  clear h
  go_enter Try.func26, Try.ntmps26
  go_wp2_with (first | (go_at_call 42; refine (HT.out _ _ _ (Box.new _ _ _)).mono ?_; rintro e w1 ⟨rfl, hb1⟩))
  go_ret
  exact ⟨rfl, below_comp (below_new _) hb1⟩

end Go.Proofs.Ytdcjbojigmgcgab
