/- PoolOk, BufferAddress of both sides. -/
import Derived.Test.YtogiocinhjbdkaaIndexB
import Derived.Test.YtogiocinhjbdkaaAllIn
import Derived.Test.YtogiocinhjbdkaaInYN
import Derived.Test.YtogiocinhjbdkaaToInts
import Derived.Test.YtogiocinhjbdkaaPoolMath
namespace Go.Proofs.Ytogiocinhjbdkaa
open Go.RowKit
set_option linter.unusedSimpArgs false
set_option linter.unusedVariables false

set_option maxHeartbeats 4000000 in
set_option maxRecDepth 100000 in
theorem impl_distinct (w : World) (a : Option Addr) (g n c : Nat) (f : Nat → Int) (hn : n ≤ 4194304) (hc : n ≤ c) (ha : 0 < n → a = some ⟨g, 0, none⟩) (h : ∀ j, j < n → w.cell? ⟨g, j, none⟩ = some (.int .i64 (f j))) :
    Calls Try.prog 149 #[.slice a n c] w fun e w' => e = .returned (.bool (nodupB f n)) ∧ Below w.heap.size w w' := by
  have H := Lib.hid h
  have HA := Lib.hid ha
  clear h ha
  go_enter Try.func149, Try.ntmps149
  go_wp2
  go_loopw [7] (fun i wr => ∃ k : Nat, k ≤ n ∧ i = .int .i64 k ∧ Hid (Below w.heap.size w wr) ∧ Hid (∀ j : Nat, j < k → ∀ i : Nat, i < j → f i ≠ f j)) (fun i _ => n + 1 - (intOf i).toNat)
  case atStart => exact ⟨0, by omega, rfl, Lib.hid (Below.refl _ _), Lib.hid fun j hj => by omega⟩
  case round =>
    obtain ⟨k, hk, rfl, HB, HK⟩ := hrel
    by_cases hlt : k < n
    · have ea := HA.out (by omega)
      subst ea
      have hX : ∀ j, j < n → wr.cell? ⟨g, j, none⟩ = some (.int .i64 (f j)) := fun j hj => by
        have hg := block_lt_of_cell (H.out j hj)
        rw [HB.out.cell (p := ⟨g, j, none⟩) hg]; exact H.out j hj
      have d1 := hX k hlt
      have e1 : (k : Int) < (n : Int) := by omega
      have e0 : (0 : Int) ≤ (k : Int) := by omega
      have e2 : (k : Int) ≤ (c : Int) := by omega
      have HC := Lib.hid (contains_free wr (some ⟨g, 0, none⟩) g k c f (f k) (by omega) (fun _ => rfl) (fun j hj => hX j (by omega)))
      clear hX
      by_cases hg : hasB f k (f k) = true
      · rw [hg] at HC
        have HR := Lib.hid (show nodupB f n = false from decide_eq_false fun hh => by
          obtain ⟨i, hi, e⟩ := of_decide_eq_true hg
          exact hh k hlt i hi e)
        clear hg
        go_wp2_with (first | (go_at_call 169; refine HC.out.mono ?_; rintro e w1 ⟨rfl, hb1⟩))
        go_ret
        exact ⟨ret_bool HR.out.symm, below_comp HB.out hb1⟩
      · rw [Bool.eq_false_iff.2 hg] at HC
        have HK2 : Hid (∀ j : Nat, j < k + 1 → ∀ i : Nat, i < j → f i ≠ f j) := Lib.hid fun j hj i hi => by
          rcases Nat.lt_succ_iff_lt_or_eq.1 hj with h | h
          · exact HK.out j h i hi
          · subst h; exact fun e => hg (decide_eq_true ⟨i, hi, e⟩)
        clear hg
        go_wp2_with (first | (go_at_call 169; refine HC.out.mono ?_; rintro e w1 ⟨rfl, hb1⟩))
        go_roundw
        case rel => exact ⟨k + 1, by omega, by go_num, Lib.hid (below_comp HB.out hb1), HK2⟩
        case measure => simp [intOf]; omega
    · obtain rfl : k = n := by omega
      have HR := Lib.hid (show nodupB f k = true from decide_eq_true HK.out)
      go_wp2
      go_ret
      exact ⟨ret_bool HR.out.symm, HB.out⟩

set_option maxHeartbeats 4000000 in
set_option maxRecDepth 100000 in
theorem impl_poolok (ba si co : Int) (v : Value) (n B : Nat) (f : Nat → Int) (w : World) (hn : n ≤ 4194304) (R : IntRow w B v n f) :
    Calls Try.prog 102 #[.agg #[.int .i64 ba, .int .i64 si, .int .i64 co, v]] w fun e w' => e = .returned (.bool (poolB ba si co n f)) ∧ Below w.heap.size w w' := by
  obtain ⟨a, g, c, rfl, ha, hcell⟩ := R.open
  have R0c := Lib.hid (R.cap_le c rfl)
  have HA := Lib.hid ha
  have HX := Lib.hid hcell
  clear R ha hcell
  have H1 := Lib.hid fun W => impl_in ba 0 130944 W
  have H2 := Lib.hid fun W => impl_in si 1 512 W
  have H3 := Lib.hid fun W => impl_in co 0 16 W
  by_cases hh : (decide (0 ≤ ba ∧ ba ≤ 130944) && decide (1 ≤ si ∧ si ≤ 512) && decide (0 ≤ co ∧ co ≤ 16)) = true
  case neg =>
    have hp := poolB_head (n := n) (f := f) (Bool.eq_false_iff.2 hh)
    rw [hp]
    clear hp
    have HH := Lib.hid (Bool.eq_false_iff.2 hh)
    generalize decide (0 ≤ ba ∧ ba ≤ 130944) = B1 at H1 HH
    generalize decide (1 ≤ si ∧ si ≤ 512) = B2 at H2 HH
    generalize decide (0 ≤ co ∧ co ≤ 16) = B3 at H3 HH
    clear hh
    have HY : ¬ (B1 = true ∧ B2 = true ∧ B3 = true) := fun ⟨x, y, z⟩ => by have := HH.out; rw [x, y, z] at this; cases this
    have HZ := Lib.hid HY
    clear HY
    cases B1
    · go_enter Try.func102, Try.ntmps102
      go_wp2_with (first | (go_at_call_of 86 (Value.int IntKind.i64 ba); refine (H1.out _).mono ?_; rintro e w' ⟨rfl, rfl⟩) | (go_at_call_of 86 (Value.int IntKind.i64 si); refine (H2.out _).mono ?_; rintro e w' ⟨rfl, rfl⟩) | (go_at_call_of 86 (Value.int IntKind.i64 co); refine (H3.out _).mono ?_; rintro e w' ⟨rfl, rfl⟩))
      go_ret
      exact ⟨rfl, below_new _⟩
    cases B2
    · go_enter Try.func102, Try.ntmps102
      go_wp2_with (first | (go_at_call_of 86 (Value.int IntKind.i64 ba); refine (H1.out _).mono ?_; rintro e w' ⟨rfl, rfl⟩) | (go_at_call_of 86 (Value.int IntKind.i64 si); refine (H2.out _).mono ?_; rintro e w' ⟨rfl, rfl⟩) | (go_at_call_of 86 (Value.int IntKind.i64 co); refine (H3.out _).mono ?_; rintro e w' ⟨rfl, rfl⟩))
      go_ret
      exact ⟨rfl, below_new _⟩
    cases B3
    · go_enter Try.func102, Try.ntmps102
      go_wp2_with (first | (go_at_call_of 86 (Value.int IntKind.i64 ba); refine (H1.out _).mono ?_; rintro e w' ⟨rfl, rfl⟩) | (go_at_call_of 86 (Value.int IntKind.i64 si); refine (H2.out _).mono ?_; rintro e w' ⟨rfl, rfl⟩) | (go_at_call_of 86 (Value.int IntKind.i64 co); refine (H3.out _).mono ?_; rintro e w' ⟨rfl, rfl⟩))
      go_ret
      exact ⟨rfl, below_new _⟩
    exact absurd ⟨rfl, rfl, rfl⟩ HZ.out
  have hq := hh
  simp only [Bool.and_eq_true, decide_eq_true_eq] at hq
  obtain ⟨⟨q1, q2⟩, q3⟩ := hq
  rw [decide_eq_true q1] at H1
  rw [decide_eq_true q2] at H2
  rw [decide_eq_true q3] at H3
  obtain ⟨q4, q5⟩ := q3
  clear q1 q2
  by_cases hl : (n : Int) ≤ co
  case neg =>
    rw [poolB_long hl q4]
    clear hh
    go_enter Try.func102, Try.ntmps102
    go_wp2_with (first | (go_at_call_of 86 (Value.int IntKind.i64 ba); refine (H1.out _).mono ?_; rintro e w' ⟨rfl, rfl⟩) | (go_at_call_of 86 (Value.int IntKind.i64 si); refine (H2.out _).mono ?_; rintro e w' ⟨rfl, rfl⟩) | (go_at_call_of 86 (Value.int IntKind.i64 co); refine (H3.out _).mono ?_; rintro e w' ⟨rfl, rfl⟩))
    go_ret
    exact ⟨rfl, below_new _⟩
  rw [poolB_tail hh]
  clear hh
  have hc : n ≤ c := R0c.out
  have HL : Hid (∀ W, Below w.heap.size w W → Calls Try.prog 148 #[.slice a n c, .int .i64 0, .int .i64 (co - 1)] W fun e w' => e = .returned (.bool (allB f n 0 (co - 1))) ∧ Below W.heap.size W w') := Lib.hid fun W hb => impl_allin W a g n c f 0 (co - 1) hn HA.out (fun j hj => by
    have hg := block_lt_of_cell (HX.out j hj)
    rw [hb.cell (p := ⟨g, j, none⟩) hg]; exact HX.out j hj)
  have HS : Hid (∀ W, Below w.heap.size w W → Calls Try.prog 149 #[.slice a n c] W fun e w' => e = .returned (.bool (nodupB f n)) ∧ Below W.heap.size W w') := Lib.hid fun W hb => impl_distinct W a g n c f hn hc HA.out (fun j hj => by
    have hg := block_lt_of_cell (HX.out j hj)
    rw [hb.cell (p := ⟨g, j, none⟩) hg]; exact HX.out j hj)
  generalize allB f n 0 (co - 1) = B1 at HL ⊢
  generalize nodupB f n = B2 at HS ⊢
  cases B1
  · go_enter Try.func102, Try.ntmps102
    go_wp2_with (first | (go_at_call_of 86 (Value.int IntKind.i64 ba); refine (H1.out _).mono ?_; rintro e w' ⟨rfl, rfl⟩) | (go_at_call_of 86 (Value.int IntKind.i64 si); refine (H2.out _).mono ?_; rintro e w' ⟨rfl, rfl⟩) | (go_at_call_of 86 (Value.int IntKind.i64 co); refine (H3.out _).mono ?_; rintro e w' ⟨rfl, rfl⟩) | (go_at_call 148; refine (HL.out _ (by first | exact below_new _ | exact below_comp (below_new _) hb1)).mono ?_; rintro e w1 ⟨rfl, hb1⟩; obtain ⟨hc, hf, _⟩ := bcell hb1))
    go_ret
    exact ⟨rfl, below_comp (below_new _) hb1⟩
  · go_enter Try.func102, Try.ntmps102
    go_wp2_with (first | (go_at_call_of 86 (Value.int IntKind.i64 ba); refine (H1.out _).mono ?_; rintro e w' ⟨rfl, rfl⟩) | (go_at_call_of 86 (Value.int IntKind.i64 si); refine (H2.out _).mono ?_; rintro e w' ⟨rfl, rfl⟩) | (go_at_call_of 86 (Value.int IntKind.i64 co); refine (H3.out _).mono ?_; rintro e w' ⟨rfl, rfl⟩) | (go_at_call 148; refine (HL.out _ (by first | exact below_new _ | exact below_comp (below_new _) hb1)).mono ?_; rintro e w1 ⟨rfl, hb1⟩; obtain ⟨hc, hf, _⟩ := bcell hb1) | (go_at_call 149; refine (HS.out _ (by first | exact below_new _ | exact below_comp (below_new _) hb1)).mono ?_; rintro e w2 ⟨rfl, hb2⟩; obtain ⟨hc, hf, _⟩ := bcell hb2))
    go_ret
    exact ⟨by simp, below_comp (below_comp (below_new _) hb1) hb2⟩

theorem Try.infoB : (Try.prog.info? 4).map (fun i => (i.zero, i.size, i.bytes)) = some (some (.bool false), 1, 1) := by kernel_rfl
theorem quiet_sum {P : Program} {fn : FuncId} {args : Array Value} {v : Value} (h : ∀ W : World, Calls P fn args W fun e w' => e = .returned v ∧ W = w') (w : World) (a n : Nat) :
    Calls P fn args (w.drewN (a + n)) fun e w'' => e = .returned v ∧ ∃ m, w'' = w.drewN (a + m) := (h _).mono fun _ _ hh => ⟨hh.1, n, hh.2.symm⟩
theorem quiet_two {P : Program} {fn : FuncId} {args : Array Value} {v : Value} (h : ∀ W : World, Calls P fn args W fun e w' => e = .returned v ∧ W = w') (w : World) (a n : Nat) :
    Calls P fn args ((w.drewN a).drewN n) fun e w'' => e = .returned v ∧ ∃ m, w'' = (w.drewN a).drewN m := (h _).mono fun _ _ hh => ⟨hh.1, n, hh.2.symm⟩
theorem quiet_sum' {P : Program} {fn : FuncId} {args : Array Value} {v : Value} (h : ∀ W : World, Calls P fn args W fun e w' => e = .returned v ∧ W = w') (w : World) (n : Nat) :
    Calls P fn args (w.drewN n) fun e w'' => e = .returned v ∧ ∃ m, w'' = w.drewN m := (h _).mono fun _ _ hh => ⟨hh.1, n, hh.2.symm⟩
theorem quiet_zero {P : Program} {fn : FuncId} {args : Array Value} {v : Value} (h : ∀ W : World, Calls P fn args W fun e w' => e = .returned v ∧ W = w') (w : World) :
    Calls P fn args w fun e w'' => e = .returned v ∧ ∃ m, w'' = w.drewN m := (h _).mono fun _ _ hh => ⟨hh.1, 0, hh.2.symm⟩
theorem nodupB_no {f : Nat → Int} {n k : Nat} (hk : k < n) {i : Nat} (hi : i < k) (e : f i = f k) : nodupB f n = false := decide_eq_false fun hh => hh k hk i hi e
theorem allB_no {f : Nat → Int} {n k : Nat} {lo hi : Int} (hk : k < n) (h : ¬ (lo ≤ f k ∧ f k ≤ hi)) : allB f n lo hi = false := decide_eq_false fun hh => h (hh k hk)
/-- The marks of what has been seen. -/
def Seen (W : World) (g m : Nat) (f : Nat → Int) (k : Nat) : Prop := ∃ cs : Array Value, W.heap[g]? = some (.cells cs 4 (0, 0)) ∧ cs.size = m ∧ ∀ j : Nat, j < m → cs[j]? = some (.bool (hasB f k j))
theorem Seen.set {W : World} {g m : Nat} {f : Nat → Int} {k q : Nat} (h : Seen W g m f k) (hq : q < m) (e : f k = q) : Seen (W.setCell ⟨g, q, none⟩ (.bool true)) g m f (k + 1) := by
  obtain ⟨cs, h1, h2, h3⟩ := h
  refine ⟨_, heap_setCell_same W g q cs _ _ h1, by simpa using h2, fun j hj => ?_⟩
  by_cases hj2 : j = q
  · subst hj2
    rw [Array.getElem?_setIfInBounds_self_of_lt (by omega)]
    rw [show hasB f (k + 1) j = true from decide_eq_true ⟨k, by omega, e⟩]
  · rw [Array.getElem?_setIfInBounds_ne (Ne.symm hj2), h3 j hj, hasB_succ f k j (by omega)]

set_option maxHeartbeats 4000000 in
set_option maxRecDepth 100000 in
theorem spec_poolok (ba si co : Int) (v : Value) (n B : Nat) (f : Nat → Int) (w : World) (hn : n ≤ 4194304) (R : IntRow w B v n f) :
    Calls Try.prog 101 #[.agg #[.int .i64 ba, .int .i64 si, .int .i64 co, v]] w fun e w' => e = .returned (.bool (poolB ba si co n f)) ∧ Below w.heap.size w w' := by
  obtain ⟨a, g, c, rfl, ha, hcell⟩ := R.open
  have HA := Lib.hid ha
  have HX := Lib.hid hcell
  clear R ha hcell
  have H1 := Lib.hid fun W => spec_in ba 0 130944 W
  have H2 := Lib.hid fun W => spec_in si 1 512 W
  have H3 := Lib.hid fun W => spec_in co 0 16 W
  by_cases hh : (decide (0 ≤ ba ∧ ba ≤ 130944) && decide (1 ≤ si ∧ si ≤ 512) && decide (0 ≤ co ∧ co ≤ 16)) = true
  case neg =>
    have hp := poolB_head (n := n) (f := f) (Bool.eq_false_iff.2 hh)
    rw [hp]
    clear hp
    have HH := Lib.hid (Bool.eq_false_iff.2 hh)
    generalize decide (0 ≤ ba ∧ ba ≤ 130944) = B1 at H1 HH
    generalize decide (1 ≤ si ∧ si ≤ 512) = B2 at H2 HH
    generalize decide (0 ≤ co ∧ co ≤ 16) = B3 at H3 HH
    clear hh
    have HY : ¬ (B1 = true ∧ B2 = true ∧ B3 = true) := fun ⟨x, y, z⟩ => by have := HH.out; rw [x, y, z] at this; cases this
    have HZ := Lib.hid HY
    clear HY
    cases B1
    · go_enter Try.func101, Try.ntmps101
      go_wp2_with (first | (go_at_call_of 82 (Value.int IntKind.i64 ba); refine (H1.out _).mono ?_; rintro e w' ⟨rfl, rfl⟩) | (go_at_call_of 82 (Value.int IntKind.i64 si); refine (H2.out _).mono ?_; rintro e w' ⟨rfl, rfl⟩) | (go_at_call_of 82 (Value.int IntKind.i64 co); refine (H3.out _).mono ?_; rintro e w' ⟨rfl, rfl⟩))
      go_ret
      exact ⟨rfl, below_new _⟩
    cases B2
    · go_enter Try.func101, Try.ntmps101
      go_wp2_with (first | (go_at_call_of 82 (Value.int IntKind.i64 ba); refine (H1.out _).mono ?_; rintro e w' ⟨rfl, rfl⟩) | (go_at_call_of 82 (Value.int IntKind.i64 si); refine (H2.out _).mono ?_; rintro e w' ⟨rfl, rfl⟩) | (go_at_call_of 82 (Value.int IntKind.i64 co); refine (H3.out _).mono ?_; rintro e w' ⟨rfl, rfl⟩))
      go_ret
      exact ⟨rfl, below_new _⟩
    cases B3
    · go_enter Try.func101, Try.ntmps101
      go_wp2_with (first | (go_at_call_of 82 (Value.int IntKind.i64 ba); refine (H1.out _).mono ?_; rintro e w' ⟨rfl, rfl⟩) | (go_at_call_of 82 (Value.int IntKind.i64 si); refine (H2.out _).mono ?_; rintro e w' ⟨rfl, rfl⟩) | (go_at_call_of 82 (Value.int IntKind.i64 co); refine (H3.out _).mono ?_; rintro e w' ⟨rfl, rfl⟩))
      go_ret
      exact ⟨rfl, below_new _⟩
    exact absurd ⟨rfl, rfl, rfl⟩ HZ.out
  have hq := hh
  simp only [Bool.and_eq_true, decide_eq_true_eq] at hq
  obtain ⟨⟨q1, q2⟩, q3⟩ := hq
  rw [decide_eq_true q1] at H1
  rw [decide_eq_true q2] at H2
  rw [decide_eq_true q3] at H3
  rw [poolB_tail hh]
  clear q1 q2 hh
  obtain ⟨m, rfl⟩ : ∃ m : Nat, co = m := ⟨co.toNat, by omega⟩
  have hm : m ≤ 16 := by omega
  clear q3
  obtain ⟨i0, hi, hz0, hz1, hz2⟩ := info_parts Try.infoB
  go_enter Try.func101, Try.ntmps101
  go_wp2_with (first
    | (go_at_call_of 82 (Value.int IntKind.i64 ba); refine (H1.out _).mono ?_; rintro e w' ⟨rfl, rfl⟩) | (go_at_call_of 82 (Value.int IntKind.i64 si); refine (H2.out _).mono ?_; rintro e w' ⟨rfl, rfl⟩) | (go_at_call_of 82 (Value.int IntKind.i64 (m : Int)); refine (H3.out _).mono ?_; rintro e w' ⟨rfl, rfl⟩)
    | (at_make; refine wpList_make_full _ rfl _ _ 184 rfl (w.heap.size + 1) 4 i0 (.bool false) 1 Try.underlying184 hi hz0 hz1 .i64 .i64 _ _ m rfl rfl rfl rfl (by rw [hz2]; omega) (by unfold maxLen; omega) (by simp) ?_; intro w0 hown0 hgrow0))
  have hb0 : Below w.heap.size w w0 := (below_new _).grown hgrow0 (by simp) (by intro k hk; cases hk)
  have hS0 : Seen w0 (w.heap.size + 1) m f 0 := by
    obtain ⟨hl, ⟨h, _⟩ | ⟨g1, cap1, cur, hv, hb, hg, hc, hm1, hs, ht⟩⟩ := hown0
    · cases h
    · cases hv
      refine ⟨cur, by simpa using hg, by omega, fun j hj => ?_⟩
      have h1 : (List.take (m * 1) cur.toList)[j]? = some (.bool false) := by rw [ht]; simp [Value.cells, toList_madeCells_one, hj]
      rw [List.getElem?_take_of_lt (by omega)] at h1
      rw [show hasB f 0 j = false from decide_eq_false (by rintro ⟨i, hi, _⟩; omega)]
      simpa using h1
  have K0 : Box w0 w.heap.size #[.int .i64 ba, .int .i64 si, .int .i64 m, .slice a n c] 52 := by
    have h := hgrow0.block w.heap.size (by simp) (by simp)
    exact h.trans (Box.new w _ _)
  have HB0 := Lib.hid hb0
  have HS0 := Lib.hid hS0
  have HK0 := Lib.hid K0
  clear hown0 hgrow0 hb0 hS0 K0
  go_loopw [4] (fun i wr => ∃ k : Nat, k ≤ n ∧ i = .int .i64 k ∧ Hid (Seen wr (w.heap.size + 1) m f k) ∧ Hid (Box wr w.heap.size #[.int .i64 ba, .int .i64 si, .int .i64 m, .slice a n c] 52) ∧ Hid (Below w.heap.size w wr) ∧ Hid (∀ j : Nat, j < k → 0 ≤ f j ∧ f j ≤ (m : Int) - 1) ∧ Hid (∀ j : Nat, j < k → ∀ i : Nat, i < j → f i ≠ f j)) (fun i _ => n + 1 - (intOf i).toNat)
  case atStart => exact ⟨0, by omega, rfl, HS0, HK0, HB0, Lib.hid fun j hj => by omega, Lib.hid fun j hj => by omega⟩
  case round =>
    clear HB0 HS0 HK0
    obtain ⟨k, hk, rfl, HS, HK, HB, HR, HD⟩ := hrel
    have k2 : wr.cell? ⟨w.heap.size, 2, none⟩ = some (.int .i64 m) := HK.out.cell 2 (by simp)
    have k3 : wr.cell? ⟨w.heap.size, 3, none⟩ = some (.slice a n c) := HK.out.cell 3 (by simp)
    by_cases hlt : k < n
    · have ea := HA.out (by omega)
      subst ea
      have d1 : wr.cell? ⟨g, k, none⟩ = some (.int .i64 (f k)) := by
        have hg := block_lt_of_cell (HX.out k hlt)
        rw [HB.out.cell (p := ⟨g, k, none⟩) hg]; exact HX.out k hlt
      have e1 : (k : Int) < (n : Int) := by omega
      have e0 : (0 : Int) ≤ (k : Int) := by omega
      by_cases hin : 0 ≤ f k ∧ f k ≤ (m : Int) - 1
      case neg =>
        have HG := Lib.hid fun W => spec_in_no (f k) 0 ((m : Int) - 1) W hin
        have HE := Lib.hid (allB_no hlt hin)
        clear hin
        go_wp2
        go_quiet ((go_at_call 82; first | exact quiet_sum HG.out _ _ _ | exact quiet_two HG.out _ _ _ | exact quiet_sum' HG.out _ _ | exact quiet_zero HG.out _))
        go_wp2
        go_ret
        exact ⟨ret_bool (by rw [HE.out]; rfl), below_drewN HB.out _⟩
      obtain ⟨q, hq⟩ : ∃ q : Nat, f k = q := ⟨(f k).toNat, by omega⟩
      have hqm : q < m := by omega
      have HIN := Lib.hid hin
      have HQ := Lib.hid hq
      rw [hq] at d1 hin
      have HG := Lib.hid fun W => spec_in_yes (q : Int) 0 ((m : Int) - 1) W hin
      have e2 : (q : Int) < (m : Int) := by omega
      have e3 : (0 : Int) ≤ (q : Int) := by omega
      have dS : wr.cell? ⟨w.heap.size + 1, q, none⟩ = some (.bool (hasB f k q)) := by
        obtain ⟨cs, h1, h2, h3⟩ := HS.out
        rw [cell_of_row wr _ q cs _ (0, 0) h1]; exact h3 q hqm
      have fS : wr.frozen? ⟨w.heap.size + 1, q, none⟩ = false := by
        obtain ⟨cs, h1, h2, h3⟩ := HS.out
        exact frozen_of_row wr _ q cs _ h1
      clear hin hq
      by_cases hs : hasB f k q = true
      · rw [hs] at dS
        have HE : Hid (nodupB f n = false) := Lib.hid (by
          obtain ⟨i, hi, e⟩ := of_decide_eq_true hs
          exact nodupB_no hlt hi (by rw [HQ.out]; exact e))
        clear hs
        go_wp2
        go_quiet ((go_at_call 82; first | exact quiet_sum HG.out _ _ _ | exact quiet_two HG.out _ _ _ | exact quiet_sum' HG.out _ _ | exact quiet_zero HG.out _))
        go_wp2
        go_ret
        exact ⟨ret_bool (by rw [HE.out, Bool.and_false]), below_drewN HB.out _⟩
      · rw [Bool.eq_false_iff.2 hs] at dS
        have HD2 : Hid (∀ j : Nat, j < k + 1 → ∀ i : Nat, i < j → f i ≠ f j) := Lib.hid fun j hj i hi => by
          rcases Nat.lt_succ_iff_lt_or_eq.1 hj with h | h
          · exact HD.out j h i hi
          · subst h; exact fun e => hs (decide_eq_true ⟨i, hi, by rw [e]; exact HQ.out⟩)
        have HR2 : Hid (∀ j : Nat, j < k + 1 → 0 ≤ f j ∧ f j ≤ (m : Int) - 1) := Lib.hid fun j hj => by
          rcases Nat.lt_succ_iff_lt_or_eq.1 hj with h | h
          · exact HR.out j h
          · exact h ▸ HIN.out
        clear hs
        go_wp2
        go_quiet ((go_at_call 82; first | exact quiet_sum HG.out _ _ _ | exact quiet_two HG.out _ _ _ | exact quiet_sum' HG.out _ _ | exact quiet_zero HG.out _))
        go_wp2
        go_roundw
        case rel => exact ⟨k + 1, by omega, by go_num, Lib.hid (Seen.set (W := wr.drewN _) HS.out hqm HQ.out), Lib.hid (Box.skip (by omega) HK.out), Lib.hid (Below.setCell (below_drewN HB.out _) (by dsimp only; omega) _), HR2, HD2⟩
        case measure => simp [intOf]; omega
    · obtain rfl : k = n := by omega
      have e1 : ¬ (k : Int) < (k : Int) := by omega
      go_wp2
      go_ret
      exact ⟨ret_bool (by rw [show allB f k 0 ((m : Int) - 1) = true from decide_eq_true HR.out, show nodupB f k = true from decide_eq_true HD.out]; rfl), HB.out⟩

end Go.Proofs.Ytogiocinhjbdkaa
