/- SpreadOk of both sides. -/
import Derived.Test.YtogiocinhjbdkaaAllIn
import Derived.Test.YtogiocinhjbdkaaPow1
import Derived.Test.YtogiocinhjbdkaaToInts
namespace Go.Proofs.Ytogiocinhjbdkaa
open Go.RowKit
set_option linter.unusedSimpArgs false
set_option linter.unusedVariables false

def spreadB (key : ByteArray) (n : Nat) (f : Nat → Int) (q : Int) : Bool := decide (1 ≤ q ∧ q ≤ 4) && decide (key.size = 16) && decide (Pow1to16 n) && allB f n 0 (q - 1)
theorem spreadB_q {key : ByteArray} {n : Nat} {f : Nat → Int} {q : Int} (h : ¬ (1 ≤ q ∧ q ≤ 4)) : spreadB key n f q = false := by unfold spreadB; rw [decide_eq_false h]; rfl
theorem spreadB_k {key : ByteArray} {n : Nat} {f : Nat → Int} {q : Int} (h : ¬ key.size = 16) : spreadB key n f q = false := by unfold spreadB; rw [decide_eq_false h, Bool.and_false]; rfl
theorem spreadB_n {key : ByteArray} {n : Nat} {f : Nat → Int} {q : Int} (h : ¬ Pow1to16 n) : spreadB key n f q = false := by unfold spreadB; rw [decide_eq_false h, Bool.and_false]; rfl
theorem spreadB_all {key : ByteArray} {n : Nat} {f : Nat → Int} {q : Int} (h1 : 1 ≤ q ∧ q ≤ 4) (h2 : key.size = 16) (h3 : Pow1to16 n) : spreadB key n f q = allB f n 0 (q - 1) := by
  unfold spreadB; rw [decide_eq_true h1, decide_eq_true h2, decide_eq_true h3]; rfl

set_option maxHeartbeats 4000000 in
set_option maxRecDepth 100000 in
theorem impl_spreadok (key : ByteArray) (v : Value) (n B : Nat) (f : Nat → Int) (q : Int) (w : World) (hk : key.size ≤ 4194304) (hn : n ≤ 4194304) (R : IntRow w B v n f) :
    Calls Try.prog 118 #[.agg #[.string key, v], .int .i64 q] w fun e w' => e = .returned (.bool (spreadB key n f q)) ∧ Below w.heap.size w w' := by
  obtain ⟨a, g, c, rfl, ha, hcell⟩ := R.open
  have HA := Lib.hid ha
  have HX := Lib.hid hcell
  clear R ha hcell
  by_cases c0 : 1 ≤ q ∧ q ≤ 4
  case neg =>
    rw [spreadB_q c0]
    have HQ := Lib.hid fun W => impl_in_no q 1 4 W c0
    clear c0
    go_enter Try.func118, Try.ntmps118
    go_wp2_with (first | (go_at_call_of 86 (Value.int IntKind.i64 q); refine (HQ.out _).mono ?_; rintro e w' ⟨rfl, rfl⟩))
    go_ret
    exact ⟨rfl, below_new _⟩
  have HQ := Lib.hid fun W => impl_in_yes q 1 4 W c0
  by_cases c1 : key.size = 16
  case neg =>
    rw [spreadB_k c1]
    have c1' : ¬ (key.size : Int) = 16 := by omega
    clear c0 c1
    go_enter Try.func118, Try.ntmps118
    go_wp2_with (first | (go_at_call_of 86 (Value.int IntKind.i64 q); refine (HQ.out _).mono ?_; rintro e w' ⟨rfl, rfl⟩))
    go_ret
    exact ⟨rfl, below_new _⟩
  have c1' : (key.size : Int) = 16 := by omega
  by_cases c2 : Pow1to16 n
  case neg =>
    rw [spreadB_n c2]
    have HN : Hid (∀ W, _) := Lib.hid fun W => impl_pow1 n W
    rw [decide_eq_false c2] at HN
    clear c0 c1 c2
    go_enter Try.func118, Try.ntmps118
    go_wp2_with (first | (go_at_call_of 86 (Value.int IntKind.i64 q); refine (HQ.out _).mono ?_; rintro e w' ⟨rfl, rfl⟩) | (go_at_call 158; refine (HN.out _).mono ?_; rintro e w' ⟨rfl, rfl⟩))
    go_ret
    exact ⟨rfl, below_new _⟩
  have HN : Hid (∀ W, _) := Lib.hid fun W => impl_pow1 n W
  rw [decide_eq_true c2] at HN
  have hn16 : n ≤ 16 := by rcases c2 with h | h | h | h | h <;> omega
  rw [spreadB_all c0 c1 c2]
  have q1 := c0.1
  have q2 := c0.2
  clear c0 c1 c2
  have HL : Hid (∀ W, Below w.heap.size w W → Calls Try.prog 148 #[.slice a n c, .int .i64 0, .int .i64 (q - 1)] W fun e w' => e = .returned (.bool (allB f n 0 (q - 1))) ∧ Below W.heap.size W w') := Lib.hid fun W hb => impl_allin W a g n c f 0 (q - 1) hn HA.out (fun j hj => by
    have hg := block_lt_of_cell (HX.out j hj)
    rw [hb.cell (p := ⟨g, j, none⟩) hg]; exact HX.out j hj)
  generalize allB f n 0 (q - 1) = B1 at HL ⊢
  go_enter Try.func118, Try.ntmps118
  go_wp2_with (first | (go_at_call_of 86 (Value.int IntKind.i64 q); refine (HQ.out _).mono ?_; rintro e w' ⟨rfl, rfl⟩) | (go_at_call 158; refine (HN.out _).mono ?_; rintro e w' ⟨rfl, rfl⟩) | (go_at_call 148; refine (HL.out _ (by first | exact below_new _ | exact Below.refl _ _)).mono ?_; rintro e w1 ⟨rfl, hb1⟩))
  go_ret
  exact ⟨rfl, below_comp (below_new _) hb1⟩

set_option maxHeartbeats 4000000 in
set_option maxRecDepth 100000 in
theorem spec_spreadok (key : ByteArray) (v : Value) (n B : Nat) (f : Nat → Int) (q : Int) (w : World) (hk : key.size ≤ 4194304) (hn : n ≤ 4194304) (R : IntRow w B v n f) :
    Calls Try.prog 115 #[.agg #[.string key, v], .int .i64 q] w fun e w' => e = .returned (.bool (spreadB key n f q)) ∧ Below w.heap.size w w' := by
  obtain ⟨a, g, c, rfl, ha, hcell⟩ := R.open
  have HA := Lib.hid ha
  have HX := Lib.hid hcell
  clear R ha hcell
  by_cases c0 : 1 ≤ q ∧ q ≤ 4
  case neg =>
    rw [spreadB_q c0]
    have HQ := Lib.hid fun W => spec_in_no q 1 4 W c0
    clear c0
    go_enter Try.func115, Try.ntmps115
    go_wp2_with (first | (go_at_call_of 82 (Value.int IntKind.i64 q); refine (HQ.out _).mono ?_; rintro e w' ⟨rfl, rfl⟩))
    go_ret
    exact ⟨rfl, below_new _⟩
  have HQ := Lib.hid fun W => spec_in_yes q 1 4 W c0
  by_cases c1 : key.size = 16
  case neg =>
    rw [spreadB_k c1]
    have c1' : ¬ (key.size : Int) = 16 := by omega
    clear c0 c1
    go_enter Try.func115, Try.ntmps115
    go_wp2_with (first | (go_at_call_of 82 (Value.int IntKind.i64 q); refine (HQ.out _).mono ?_; rintro e w' ⟨rfl, rfl⟩))
    go_ret
    exact ⟨rfl, below_new _⟩
  have c1' : (key.size : Int) = 16 := by omega
  by_cases c2 : Pow1to16 n
  case neg =>
    rw [spreadB_n c2]
    have HN : Hid (∀ W, _) := Lib.hid fun W => spec_size1 n W
    rw [decide_eq_false c2] at HN
    clear c0 c1 c2
    go_enter Try.func115, Try.ntmps115
    go_wp2_with (first | (go_at_call_of 82 (Value.int IntKind.i64 q); refine (HQ.out _).mono ?_; rintro e w' ⟨rfl, rfl⟩) | (go_at_call 156; refine (HN.out _).mono ?_; rintro e w' ⟨rfl, rfl⟩))
    go_ret
    exact ⟨rfl, below_new _⟩
  have HN : Hid (∀ W, _) := Lib.hid fun W => spec_size1 n W
  rw [decide_eq_true c2] at HN
  have hn16 : n ≤ 16 := by rcases c2 with h | h | h | h | h <;> omega
  rw [spreadB_all c0 c1 c2]
  have q1 := c0.1
  have q2 := c0.2
  clear c0 c1 c2
  have H2 : Hid (∀ j, j < n → (w.alloc (.cells #[.string key, .slice a n c] 68)).cell? ⟨g, j, none⟩ = some (.int .i64 (f j))) := Lib.hid fun j hj => by
    have hg := block_lt_of_cell (HX.out j hj)
    rw [(below_new _).cell (p := ⟨g, j, none⟩) hg]; exact HX.out j hj
  go_enter Try.func115, Try.ntmps115
  go_wp2_with (first | (go_at_call_of 82 (Value.int IntKind.i64 q); refine (HQ.out _).mono ?_; rintro e w' ⟨rfl, rfl⟩) | (go_at_call 156; refine (HN.out _).mono ?_; rintro e w' ⟨rfl, rfl⟩))
  go_loop [5] (fun i => ∃ k : Nat, k ≤ n ∧ i = .int .i64 k ∧ Hid (∀ j : Nat, j < k → 0 ≤ f j ∧ f j ≤ q - 1)) (fun i => n + 1 - (intOf i).toNat)
  case atStart => exact ⟨0, by omega, rfl, Lib.hid fun j hj => by omega⟩
  case round =>
    obtain ⟨k, hk, rfl, HK⟩ := hrel
    by_cases hlt : k < n
    · have ea := HA.out (by omega)
      subst ea
      have d1 := H2.out k hlt
      have e1 : (k : Int) < (n : Int) := by omega
      have e0 : (0 : Int) ≤ (k : Int) := by omega
      by_cases hg : 0 ≤ f k ∧ f k ≤ q - 1
      · have HG := Lib.hid fun W => spec_in_yes (f k) 0 (q - 1) W hg
        have HK2 : Hid (∀ j : Nat, j < k + 1 → 0 ≤ f j ∧ f j ≤ q - 1) := Lib.hid fun j hj => by
          rcases Nat.lt_succ_iff_lt_or_eq.1 hj with h | h
          · exact HK.out j h
          · exact h ▸ hg
        clear hg
        go_wp2_with (first | (go_at_call 82; refine (HG.out _).mono ?_; rintro e w' ⟨rfl, rfl⟩))
        go_round
        case rel => exact ⟨k + 1, by omega, by go_num, HK2⟩
        case measure => simp [intOf]; omega
      · have HG := Lib.hid fun W => spec_in_no (f k) 0 (q - 1) W hg
        have hb : allB f n 0 (q - 1) = false := decide_eq_false fun hh => hg (hh k hlt)
        have HB := Lib.hid hb
        clear hg hb
        go_wp2_with (first | (go_at_call 82; refine (HG.out _).mono ?_; rintro e w' ⟨rfl, rfl⟩))
        go_ret
        exact ⟨ret_bool HB.out.symm, below_new _⟩
    · obtain rfl : k = n := by omega
      have hb : allB f k 0 (q - 1) = true := decide_eq_true HK.out
      have HB := Lib.hid hb
      clear hb
      go_wp2
      go_ret
      exact ⟨ret_bool HB.out.symm, below_new _⟩

end Go.Proofs.Ytogiocinhjbdkaa
