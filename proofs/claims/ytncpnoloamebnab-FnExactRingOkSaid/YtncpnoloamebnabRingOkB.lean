/- Rings: the tests of both sides. -/
import Derived.Test.YtncpnoloamebnabRingB
import Derived.Deep.QuietTactic
import Derived.BigQuiet
namespace Go.Proofs.Ytncpnoloamebnab
open Go.RowKit
set_option linter.unusedSimpArgs false
set_option linter.unusedVariables false

theorem inb_yes (x lo hi : Int) (w : World) (h : lo ≤ x ∧ x ≤ hi) : Calls Try.prog 70 #[.int .i64 x, .int .i64 lo, .int .i64 hi] w fun e w' => e = .returned (.bool true) ∧ Below w.heap.size w w' :=
  (impl_in_yes x lo hi w h).mono fun _ _ hh => ⟨hh.1, hh.2 ▸ Below.refl _ _⟩
theorem inb_no (x lo hi : Int) (w : World) (h : ¬ (lo ≤ x ∧ x ≤ hi)) : Calls Try.prog 70 #[.int .i64 x, .int .i64 lo, .int .i64 hi] w fun e w' => e = .returned (.bool false) ∧ Below w.heap.size w w' :=
  (impl_in_no x lo hi w h).mono fun _ _ hh => ⟨hh.1, hh.2 ▸ Below.refl _ _⟩
theorem ins_yes (x lo hi : Int) (w : World) (h : lo ≤ x ∧ x ≤ hi) : Calls Try.prog 62 #[.int .i64 x, .int .i64 lo, .int .i64 hi] w fun e w' => e = .returned (.bool true) ∧ Below w.heap.size w w' :=
  (spec_in_yes x lo hi w h).mono fun _ _ hh => ⟨hh.1, hh.2 ▸ Below.refl _ _⟩
theorem ins_no (x lo hi : Int) (w : World) (h : ¬ (lo ≤ x ∧ x ≤ hi)) : Calls Try.prog 62 #[.int .i64 x, .int .i64 lo, .int .i64 hi] w fun e w' => e = .returned (.bool false) ∧ Below w.heap.size w w' :=
  (spec_in_no x lo hi w h).mono fun _ _ hh => ⟨hh.1, hh.2 ▸ Below.refl _ _⟩

theorem slots_yes (base size : Int) (w : World) (h : (0 ≤ base ∧ base ≤ 130944) ∧ Pow2to16 size) : Calls Try.prog 69 #[.int .i64 base, .int .i64 size] w fun r w' => r = .returned (.bool true) ∧ Below w.heap.size w w' := by
  have := impl_slotsok base size w; rw [decide_eq_true h] at this; exact this.mono fun _ _ hh => ⟨hh.1, hh.2 ▸ Below.refl _ _⟩
theorem slots_no (base size : Int) (w : World) (h : ¬ ((0 ≤ base ∧ base ≤ 130944) ∧ Pow2to16 size)) : Calls Try.prog 69 #[.int .i64 base, .int .i64 size] w fun r w' => r = .returned (.bool false) ∧ Below w.heap.size w w' := by
  have := impl_slotsok base size w; rw [decide_eq_false h] at this; exact this.mono fun _ _ hh => ⟨hh.1, hh.2 ▸ Below.refl _ _⟩
theorem size_yes (n : Int) (w : World) (h : Pow2to16 n) : Calls Try.prog 63 #[.int .i64 n] w fun r w' => r = .returned (.bool true) ∧ Below w.heap.size w w' := by
  have := spec_size n w; rw [decide_eq_true h] at this; exact this.mono fun _ _ hh => ⟨hh.1, hh.2 ▸ Below.refl _ _⟩
theorem size_no (n : Int) (w : World) (h : ¬ Pow2to16 n) : Calls Try.prog 63 #[.int .i64 n] w fun r w' => r = .returned (.bool false) ∧ Below w.heap.size w w' := by
  have := spec_size n w; rw [decide_eq_false h] at this; exact this.mono fun _ _ hh => ⟨hh.1, hh.2 ▸ Below.refl _ _⟩

set_option maxHeartbeats 4000000 in
set_option maxRecDepth 100000 in
theorem spec_ringused (base size head tail : Int) (w : World) :
    Calls Try.prog 19 #[.agg #[.int .i64 base, .int .i64 size, .int .i64 head, .int .i64 tail]] w fun r w' => r = .returned (.int .i64 (usedOf size head tail)) ∧ Below w.heap.size w w' := by
  by_cases h : Pow2to16 size
  · have hu : usedOf size head tail = (tail - head) % (2 * size) := if_pos h
    have HV : Hid (∀ W, Calls Try.prog 63 #[.int .i64 size] W fun r w' => r = .returned (.bool true) ∧ W = w') := Lib.hid fun W => by have := spec_size size W; rwa [decide_eq_true h] at this
    rw [hu]
    clear hu
    rcases h with rfl | rfl | rfl | rfl
    all_goals
      go_enter Try.func19, Try.ntmps19
      go_wp2_with (go_at_call 63; refine (HV.out _).mono ?_; rintro e w' ⟨rfl, rfl⟩)
      go_ret
      exact ⟨ret_int (by simp only [wrap64_eq, and_3, and_7, and_15, and_31]; omega), below_new _⟩
  · have HV : Hid (∀ W, Calls Try.prog 63 #[.int .i64 size] W fun r w' => r = .returned (.bool false) ∧ W = w') := Lib.hid fun W => by have := spec_size size W; rwa [decide_eq_false h] at this
    rw [show usedOf size head tail = 0 from if_neg h]
    go_enter Try.func19, Try.ntmps19
    go_wp2_with (go_at_call 63; refine (HV.out _).mono ?_; rintro e w' ⟨rfl, rfl⟩)
    go_ret
    exact ⟨rfl, below_new _⟩

set_option maxHeartbeats 4000000 in
set_option maxRecDepth 100000 in
theorem impl_valid (base size head tail : Int) (w : World) :
    Calls Try.prog 65 #[.agg #[.int .i64 head, .int .i64 tail, .int .i64 base, .int .i64 size]] w fun r w' => r = .returned (.bool (decide (RingM.Ok ⟨base, size, head, tail⟩))) ∧ Below w.heap.size w w' := by
  go_enter Try.func65, Try.ntmps65
  go_wp2_with fail
  obtain ⟨w1, hw1⟩ : ∃ w1, w1 = w.alloc (.cells #[.int .i64 head, .int .i64 tail, .int .i64 base, .int .i64 size] 89) := ⟨_, rfl⟩
  have hb1 : Below w.heap.size w w1 := hw1 ▸ below_new _
  have HB1 : Hid (Box w1 w.heap.size #[.int .i64 head, .int .i64 tail, .int .i64 base, .int .i64 size] 89) := Lib.hid (hw1 ▸ Box.new w #[.int .i64 head, .int .i64 tail, .int .i64 base, .int .i64 size] 89)
  have hg1 : w.heap.size < w1.heap.size := by rw [hw1]; simp
  rw [← hw1]
  clear hw1
  by_cases c0 : (0 ≤ base ∧ base ≤ 130944) ∧ Pow2to16 size
  case neg =>
    refine wp_region_valuesG (by kernel_rfl) (fun W => Below w1.heap.size w1 W) (Vals ((.pointer (some ⟨w.heap.size, 2, none⟩) : Value) :: (.int .i64 base : Value) :: (.pointer (some ⟨w.heap.size, 3, none⟩) : Value) :: (.int .i64 size : Value) :: (.bool false : Value) :: (.bool false : Value) :: undef :: undef :: undef :: undef :: undef :: undef :: undef :: (.bool false : Value) :: (.bool false : Value) :: undef :: undef :: undef :: undef :: undef :: undef :: undef :: (.bool false : Value) :: (.bool false : Value) :: undef :: undef :: undef :: undef :: undef :: (.bool false : Value) :: (.bool false : Value) :: ([] : List Value)) [])
      33 rfl (by kernel_rfl) (by kernel_rfl) below_drew (eachOp_all ?_) ?_
    · refine ⟨?_, ?_, ?_, ?_, ?_, ?_, ?_, ?_, ?_, ?_, ?_, ?_, ?_, ?_, ?_, ?_, ?_, ?_, ?_, ?_, ?_, ?_, ?_, ?_, ?_, ?_, ?_, ?_, ?_, ?_, ?_, trivial⟩
      · intro a W hd hS hdep hfree
        have x1 : a.tmps.getD 1 undef = .pointer (some ⟨w.heap.size, 0, none⟩) := hfree 1 rfl
        clear hd hdep hfree
        refine .inl ⟨wanted_free rfl, ?_⟩
        simp only [Oper.wp, execOp]
        go_simp
        refine Nxt.mk _ rfl (fun _ _ => ?_) hS (fun _ _ h => h)
        rfl
      · intro a W hd hS hdep hfree
        have x3 : a.tmps.getD 3 undef = .pointer (some ⟨w.heap.size, 2, none⟩) := hdep 0 3 rfl rfl
        clear hd hdep hfree
        refine .inl ⟨wanted_free rfl, ?_⟩
        have c : W.cell? ⟨w.heap.size, 2, none⟩ = some (.int .i64 base) := (HB1.out.below hS hg1).cell 2 (by simp)
        simp only [Oper.wp, execOp]
        go_simp
        refine Nxt.mk _ rfl (fun _ _ => ?_) hS (fun _ _ h => h)
        rfl
      · intro a W hd hS hdep hfree
        have x1 : a.tmps.getD 1 undef = .pointer (some ⟨w.heap.size, 0, none⟩) := hfree 1 rfl
        clear hd hdep hfree
        refine .inl ⟨wanted_free rfl, ?_⟩
        simp only [Oper.wp, execOp]
        go_simp
        refine Nxt.mk _ rfl (fun _ _ => ?_) hS (fun _ _ h => h)
        rfl
      · intro a W hd hS hdep hfree
        have x5 : a.tmps.getD 5 undef = .pointer (some ⟨w.heap.size, 3, none⟩) := hdep 2 5 rfl rfl
        clear hd hdep hfree
        refine .inl ⟨wanted_free rfl, ?_⟩
        have c : W.cell? ⟨w.heap.size, 3, none⟩ = some (.int .i64 size) := (HB1.out.below hS hg1).cell 3 (by simp)
        simp only [Oper.wp, execOp]
        go_simp
        refine Nxt.mk _ rfl (fun _ _ => ?_) hS (fun _ _ h => h)
        rfl
      · intro a W hd hS hdep hfree
        have x4 : a.tmps.getD 4 undef = .int .i64 base := hdep 1 4 rfl rfl
        have x6 : a.tmps.getD 6 undef = .int .i64 size := hdep 3 6 rfl rfl
        clear hd hdep hfree
        refine .inl ⟨wanted_free rfl, ?_⟩
        simp only [Oper.wp, execOp]
        go_simp
        refine ((slots_no base size W c0)).mono ?_
        rintro e W' ⟨rfl, hb⟩
        exact Nxt.mk _ rfl (fun _ _ => rfl) (below_comp hS hb) (fun j u h => Vals.below hb j u h)
      · intro a W hd hS hdep hfree
        have x7 : a.tmps.getD 7 undef = .bool false := hdep 4 7 rfl rfl
        clear hd hdep hfree
        refine .inl ⟨wanted_free rfl, ?_⟩
        simp only [Oper.wp, execOp]
        go_simp
        refine Nxt.mk _ rfl (fun _ _ => ?_) hS (fun _ _ h => h)
        rfl
      · intro a W hd hS hdep hfree
        have x8 : a.tmps.getD 8 undef = .bool false := hdep 5 8 rfl rfl
        clear hd hdep hfree
        exact .inr ⟨wanted_no rfl rfl x8 rfl, fun _ _ => rfl⟩
      · intro a W hd hS hdep hfree
        have x8 : a.tmps.getD 8 undef = .bool false := hdep 5 8 rfl rfl
        clear hd hdep hfree
        exact .inr ⟨wanted_no rfl rfl x8 rfl, fun _ _ => rfl⟩
      · intro a W hd hS hdep hfree
        have x8 : a.tmps.getD 8 undef = .bool false := hdep 5 8 rfl rfl
        clear hd hdep hfree
        exact .inr ⟨wanted_no rfl rfl x8 rfl, fun _ _ => rfl⟩
      · intro a W hd hS hdep hfree
        have x8 : a.tmps.getD 8 undef = .bool false := hdep 5 8 rfl rfl
        clear hd hdep hfree
        exact .inr ⟨wanted_no rfl rfl x8 rfl, fun _ _ => rfl⟩
      · intro a W hd hS hdep hfree
        have x8 : a.tmps.getD 8 undef = .bool false := hdep 5 8 rfl rfl
        clear hd hdep hfree
        exact .inr ⟨wanted_no rfl rfl x8 rfl, fun _ _ => rfl⟩
      · intro a W hd hS hdep hfree
        have x8 : a.tmps.getD 8 undef = .bool false := hdep 5 8 rfl rfl
        clear hd hdep hfree
        exact .inr ⟨wanted_no rfl rfl x8 rfl, fun _ _ => rfl⟩
      · intro a W hd hS hdep hfree
        have x8 : a.tmps.getD 8 undef = .bool false := hdep 5 8 rfl rfl
        clear hd hdep hfree
        exact .inr ⟨wanted_no rfl rfl x8 rfl, fun _ _ => rfl⟩
      · intro a W hd hS hdep hfree
        have x8 : a.tmps.getD 8 undef = .bool false := hdep 5 8 rfl rfl
        have x15 : a.tmps.getD 15 undef = undef := hdep 12 15 rfl rfl
        clear hd hdep hfree
        refine .inl ⟨wanted_free rfl, ?_⟩
        simp only [Oper.wp, execOp]
        go_simp
        refine Nxt.mk _ rfl (fun _ _ => ?_) hS (fun _ _ h => h)
        rfl
      · intro a W hd hS hdep hfree
        have x16 : a.tmps.getD 16 undef = .bool false := hdep 13 16 rfl rfl
        clear hd hdep hfree
        refine .inl ⟨wanted_free rfl, ?_⟩
        simp only [Oper.wp, execOp]
        go_simp
        refine Nxt.mk _ rfl (fun _ _ => ?_) hS (fun _ _ h => h)
        rfl
      · intro a W hd hS hdep hfree
        have x17 : a.tmps.getD 17 undef = .bool false := hdep 14 17 rfl rfl
        clear hd hdep hfree
        exact .inr ⟨wanted_no rfl rfl x17 rfl, fun _ _ => rfl⟩
      · intro a W hd hS hdep hfree
        have x17 : a.tmps.getD 17 undef = .bool false := hdep 14 17 rfl rfl
        clear hd hdep hfree
        exact .inr ⟨wanted_no rfl rfl x17 rfl, fun _ _ => rfl⟩
      · intro a W hd hS hdep hfree
        have x17 : a.tmps.getD 17 undef = .bool false := hdep 14 17 rfl rfl
        clear hd hdep hfree
        exact .inr ⟨wanted_no rfl rfl x17 rfl, fun _ _ => rfl⟩
      · intro a W hd hS hdep hfree
        have x17 : a.tmps.getD 17 undef = .bool false := hdep 14 17 rfl rfl
        clear hd hdep hfree
        exact .inr ⟨wanted_no rfl rfl x17 rfl, fun _ _ => rfl⟩
      · intro a W hd hS hdep hfree
        have x17 : a.tmps.getD 17 undef = .bool false := hdep 14 17 rfl rfl
        clear hd hdep hfree
        exact .inr ⟨wanted_no rfl rfl x17 rfl, fun _ _ => rfl⟩
      · intro a W hd hS hdep hfree
        have x17 : a.tmps.getD 17 undef = .bool false := hdep 14 17 rfl rfl
        clear hd hdep hfree
        exact .inr ⟨wanted_no rfl rfl x17 rfl, fun _ _ => rfl⟩
      · intro a W hd hS hdep hfree
        have x17 : a.tmps.getD 17 undef = .bool false := hdep 14 17 rfl rfl
        clear hd hdep hfree
        exact .inr ⟨wanted_no rfl rfl x17 rfl, fun _ _ => rfl⟩
      · intro a W hd hS hdep hfree
        have x17 : a.tmps.getD 17 undef = .bool false := hdep 14 17 rfl rfl
        have x24 : a.tmps.getD 24 undef = undef := hdep 21 24 rfl rfl
        clear hd hdep hfree
        refine .inl ⟨wanted_free rfl, ?_⟩
        simp only [Oper.wp, execOp]
        go_simp
        refine Nxt.mk _ rfl (fun _ _ => ?_) hS (fun _ _ h => h)
        rfl
      · intro a W hd hS hdep hfree
        have x25 : a.tmps.getD 25 undef = .bool false := hdep 22 25 rfl rfl
        clear hd hdep hfree
        refine .inl ⟨wanted_free rfl, ?_⟩
        simp only [Oper.wp, execOp]
        go_simp
        refine Nxt.mk _ rfl (fun _ _ => ?_) hS (fun _ _ h => h)
        rfl
      · intro a W hd hS hdep hfree
        have x26 : a.tmps.getD 26 undef = .bool false := hdep 23 26 rfl rfl
        clear hd hdep hfree
        exact .inr ⟨wanted_no rfl rfl x26 rfl, fun _ _ => rfl⟩
      · intro a W hd hS hdep hfree
        have x26 : a.tmps.getD 26 undef = .bool false := hdep 23 26 rfl rfl
        clear hd hdep hfree
        exact .inr ⟨wanted_no rfl rfl x26 rfl, fun _ _ => rfl⟩
      · intro a W hd hS hdep hfree
        have x26 : a.tmps.getD 26 undef = .bool false := hdep 23 26 rfl rfl
        clear hd hdep hfree
        exact .inr ⟨wanted_no rfl rfl x26 rfl, fun _ _ => rfl⟩
      · intro a W hd hS hdep hfree
        have x26 : a.tmps.getD 26 undef = .bool false := hdep 23 26 rfl rfl
        clear hd hdep hfree
        exact .inr ⟨wanted_no rfl rfl x26 rfl, fun _ _ => rfl⟩
      · intro a W hd hS hdep hfree
        have x26 : a.tmps.getD 26 undef = .bool false := hdep 23 26 rfl rfl
        clear hd hdep hfree
        exact .inr ⟨wanted_no rfl rfl x26 rfl, fun _ _ => rfl⟩
      · intro a W hd hS hdep hfree
        have x26 : a.tmps.getD 26 undef = .bool false := hdep 23 26 rfl rfl
        have x31 : a.tmps.getD 31 undef = undef := hdep 28 31 rfl rfl
        clear hd hdep hfree
        refine .inl ⟨wanted_free rfl, ?_⟩
        simp only [Oper.wp, execOp]
        go_simp
        refine Nxt.mk _ rfl (fun _ _ => ?_) hS (fun _ _ h => h)
        rfl
      · intro a W hd hS hdep hfree
        have x32 : a.tmps.getD 32 undef = .bool false := hdep 29 32 rfl rfl
        clear hd hdep hfree
        refine .inl ⟨wanted_free rfl, ?_⟩
        simp only [Oper.wp, execOp]
        go_simp
        refine Nxt.mk _ rfl (fun _ _ => ?_) hS (fun _ _ h => h)
        rfl
    intro a W2 hs hd hS2 hdone hrest
    have ea := written_all ((.pointer (some ⟨w.heap.size, 2, none⟩) : Value) :: (.int .i64 base : Value) :: (.pointer (some ⟨w.heap.size, 3, none⟩) : Value) :: (.int .i64 size : Value) :: (.bool false : Value) :: (.bool false : Value) :: undef :: undef :: undef :: undef :: undef :: undef :: undef :: (.bool false : Value) :: (.bool false : Value) :: undef :: undef :: undef :: undef :: undef :: undef :: undef :: (.bool false : Value) :: (.bool false : Value) :: undef :: undef :: undef :: undef :: undef :: (.bool false : Value) :: (.bool false : Value) :: ([] : List Value)) rfl hs hd hrest hdone
    clear hs hd hdone hrest
    subst ea
    simp only [written, List.map_cons, List.map_nil, List.zip_cons_cons, List.zip_nil_right, putAll]
    simp only [Exit.then, Act.put, List.setIfInBounds_toArray, List.set_cons_zero, List.set_cons_succ]
    go_wp2
    go_ret
    refine ⟨ret_bool ?_, below_comp hb1 hS2⟩
    exact (decide_eq_false (fun hh => c0 ⟨hh.1, hh.2.1⟩)).symm
  have hsz : 2 ≤ size ∧ size ≤ 16 := by rcases c0.2 with h | h | h | h <;> omega
  by_cases c1 : 0 ≤ head ∧ head ≤ 2 * size - 1
  case neg =>
    refine wp_region_valuesG (by kernel_rfl) (fun W => Below w1.heap.size w1 W) (Vals ((.pointer (some ⟨w.heap.size, 2, none⟩) : Value) :: (.int .i64 base : Value) :: (.pointer (some ⟨w.heap.size, 3, none⟩) : Value) :: (.int .i64 size : Value) :: (.bool true : Value) :: (.bool true : Value) :: (.pointer (some ⟨w.heap.size, 0, none⟩) : Value) :: (.pointer (some ⟨w.heap.size, 0, none⟩) : Value) :: (.int .i64 head : Value) :: (.agg #[.int .i64 head, .int .i64 tail, .int .i64 base, .int .i64 size] : Value) :: (.int .i64 (2 * size) : Value) :: (.int .i64 ((2 * size) - 1) : Value) :: (.bool false : Value) :: (.bool false : Value) :: (.bool false : Value) :: undef :: undef :: undef :: undef :: undef :: undef :: undef :: (.bool false : Value) :: (.bool false : Value) :: undef :: undef :: undef :: undef :: undef :: (.bool false : Value) :: (.bool false : Value) :: ([] : List Value)) [])
      33 rfl (by kernel_rfl) (by kernel_rfl) below_drew (eachOp_all ?_) ?_
    · refine ⟨?_, ?_, ?_, ?_, ?_, ?_, ?_, ?_, ?_, ?_, ?_, ?_, ?_, ?_, ?_, ?_, ?_, ?_, ?_, ?_, ?_, ?_, ?_, ?_, ?_, ?_, ?_, ?_, ?_, ?_, ?_, trivial⟩
      · intro a W hd hS hdep hfree
        have x1 : a.tmps.getD 1 undef = .pointer (some ⟨w.heap.size, 0, none⟩) := hfree 1 rfl
        clear hd hdep hfree
        refine .inl ⟨wanted_free rfl, ?_⟩
        simp only [Oper.wp, execOp]
        go_simp
        refine Nxt.mk _ rfl (fun _ _ => ?_) hS (fun _ _ h => h)
        rfl
      · intro a W hd hS hdep hfree
        have x3 : a.tmps.getD 3 undef = .pointer (some ⟨w.heap.size, 2, none⟩) := hdep 0 3 rfl rfl
        clear hd hdep hfree
        refine .inl ⟨wanted_free rfl, ?_⟩
        have c : W.cell? ⟨w.heap.size, 2, none⟩ = some (.int .i64 base) := (HB1.out.below hS hg1).cell 2 (by simp)
        simp only [Oper.wp, execOp]
        go_simp
        refine Nxt.mk _ rfl (fun _ _ => ?_) hS (fun _ _ h => h)
        rfl
      · intro a W hd hS hdep hfree
        have x1 : a.tmps.getD 1 undef = .pointer (some ⟨w.heap.size, 0, none⟩) := hfree 1 rfl
        clear hd hdep hfree
        refine .inl ⟨wanted_free rfl, ?_⟩
        simp only [Oper.wp, execOp]
        go_simp
        refine Nxt.mk _ rfl (fun _ _ => ?_) hS (fun _ _ h => h)
        rfl
      · intro a W hd hS hdep hfree
        have x5 : a.tmps.getD 5 undef = .pointer (some ⟨w.heap.size, 3, none⟩) := hdep 2 5 rfl rfl
        clear hd hdep hfree
        refine .inl ⟨wanted_free rfl, ?_⟩
        have c : W.cell? ⟨w.heap.size, 3, none⟩ = some (.int .i64 size) := (HB1.out.below hS hg1).cell 3 (by simp)
        simp only [Oper.wp, execOp]
        go_simp
        refine Nxt.mk _ rfl (fun _ _ => ?_) hS (fun _ _ h => h)
        rfl
      · intro a W hd hS hdep hfree
        have x4 : a.tmps.getD 4 undef = .int .i64 base := hdep 1 4 rfl rfl
        have x6 : a.tmps.getD 6 undef = .int .i64 size := hdep 3 6 rfl rfl
        clear hd hdep hfree
        refine .inl ⟨wanted_free rfl, ?_⟩
        simp only [Oper.wp, execOp]
        go_simp
        refine ((slots_yes base size W c0)).mono ?_
        rintro e W' ⟨rfl, hb⟩
        exact Nxt.mk _ rfl (fun _ _ => rfl) (below_comp hS hb) (fun j u h => Vals.below hb j u h)
      · intro a W hd hS hdep hfree
        have x7 : a.tmps.getD 7 undef = .bool true := hdep 4 7 rfl rfl
        clear hd hdep hfree
        refine .inl ⟨wanted_free rfl, ?_⟩
        simp only [Oper.wp, execOp]
        go_simp
        refine Nxt.mk _ rfl (fun _ _ => ?_) hS (fun _ _ h => h)
        rfl
      · intro a W hd hS hdep hfree
        have x8 : a.tmps.getD 8 undef = .bool true := hdep 5 8 rfl rfl
        have x1 : a.tmps.getD 1 undef = .pointer (some ⟨w.heap.size, 0, none⟩) := hfree 1 rfl
        clear hd hdep hfree
        refine .inl ⟨wanted_yes rfl rfl x8, ?_⟩
        simp only [Oper.wp, execOp]
        go_simp
        refine Nxt.mk _ rfl (fun _ _ => ?_) hS (fun _ _ h => h)
        rfl
      · intro a W hd hS hdep hfree
        have x8 : a.tmps.getD 8 undef = .bool true := hdep 5 8 rfl rfl
        have x9 : a.tmps.getD 9 undef = .pointer (some ⟨w.heap.size, 0, none⟩) := hdep 6 9 rfl rfl
        clear hd hdep hfree
        refine .inl ⟨wanted_yes rfl rfl x8, ?_⟩
        simp only [Oper.wp, execOp]
        go_simp
        refine Nxt.mk _ rfl (fun _ _ => ?_) hS (fun _ _ h => h)
        rfl
      · intro a W hd hS hdep hfree
        have x8 : a.tmps.getD 8 undef = .bool true := hdep 5 8 rfl rfl
        have x10 : a.tmps.getD 10 undef = .pointer (some ⟨w.heap.size, 0, none⟩) := hdep 7 10 rfl rfl
        clear hd hdep hfree
        refine .inl ⟨wanted_yes rfl rfl x8, ?_⟩
        have c : W.cell? ⟨w.heap.size, 0, none⟩ = some (.int .i64 head) := (HB1.out.below hS hg1).cell 0 (by simp)
        simp only [Oper.wp, execOp]
        go_simp
        refine Nxt.mk _ rfl (fun _ _ => ?_) hS (fun _ _ h => h)
        rfl
      · intro a W hd hS hdep hfree
        have x8 : a.tmps.getD 8 undef = .bool true := hdep 5 8 rfl rfl
        have x1 : a.tmps.getD 1 undef = .pointer (some ⟨w.heap.size, 0, none⟩) := hfree 1 rfl
        clear hd hdep hfree
        refine .inl ⟨wanted_yes rfl rfl x8, ?_⟩
        have c0 : W.cell? ⟨w.heap.size, 0, none⟩ = some (.int .i64 head) := (HB1.out.below hS hg1).cell 0 (by simp)
        have c1 : W.cell? ⟨w.heap.size, 1, none⟩ = some (.int .i64 tail) := (HB1.out.below hS hg1).cell 1 (by simp)
        have c2 : W.cell? ⟨w.heap.size, 2, none⟩ = some (.int .i64 base) := (HB1.out.below hS hg1).cell 2 (by simp)
        have c3 : W.cell? ⟨w.heap.size, 3, none⟩ = some (.int .i64 size) := (HB1.out.below hS hg1).cell 3 (by simp)
        simp only [Oper.wp, execOp]
        go_simp
        refine Nxt.mk _ rfl (fun _ _ => ?_) hS (fun _ _ h => h)
        rfl
      · intro a W hd hS hdep hfree
        have x8 : a.tmps.getD 8 undef = .bool true := hdep 5 8 rfl rfl
        have x12 : a.tmps.getD 12 undef = .agg #[.int .i64 head, .int .i64 tail, .int .i64 base, .int .i64 size] := hdep 9 12 rfl rfl
        clear hd hdep hfree
        refine .inl ⟨wanted_yes rfl rfl x8, ?_⟩
        simp only [Oper.wp, execOp]
        go_simp
        refine (impl_modulus base size head tail W c0.2).mono ?_
        rintro e W' ⟨rfl, hb⟩
        exact Nxt.mk _ rfl (fun _ _ => rfl) (below_comp hS hb) (fun j u h => Vals.below hb j u h)
      · intro a W hd hS hdep hfree
        have x8 : a.tmps.getD 8 undef = .bool true := hdep 5 8 rfl rfl
        have x13 : a.tmps.getD 13 undef = .int .i64 (2 * size) := hdep 10 13 rfl rfl
        clear hd hdep hfree
        refine .inl ⟨wanted_yes rfl rfl x8, ?_⟩
        have k : IntKind.i64.wrap ((2 * size) - 1) = (2 * size) - 1 := wrap_in _ (by omega) (by omega)
        simp only [Oper.wp, execOp]
        go_simp
        refine Nxt.mk _ rfl (fun _ _ => ?_) hS (fun _ _ h => h)
        rfl
      · intro a W hd hS hdep hfree
        have x8 : a.tmps.getD 8 undef = .bool true := hdep 5 8 rfl rfl
        have x11 : a.tmps.getD 11 undef = .int .i64 head := hdep 8 11 rfl rfl
        have x14 : a.tmps.getD 14 undef = .int .i64 ((2 * size) - 1) := hdep 11 14 rfl rfl
        clear hd hdep hfree
        refine .inl ⟨wanted_yes rfl rfl x8, ?_⟩
        simp only [Oper.wp, execOp]
        go_simp
        refine ((inb_no _ _ _ W c1)).mono ?_
        rintro e W' ⟨rfl, hb⟩
        exact Nxt.mk _ rfl (fun _ _ => rfl) (below_comp hS hb) (fun j u h => Vals.below hb j u h)
      · intro a W hd hS hdep hfree
        have x8 : a.tmps.getD 8 undef = .bool true := hdep 5 8 rfl rfl
        have x15 : a.tmps.getD 15 undef = .bool false := hdep 12 15 rfl rfl
        clear hd hdep hfree
        refine .inl ⟨wanted_free rfl, ?_⟩
        simp only [Oper.wp, execOp]
        go_simp
        refine Nxt.mk _ rfl (fun _ _ => ?_) hS (fun _ _ h => h)
        rfl
      · intro a W hd hS hdep hfree
        have x16 : a.tmps.getD 16 undef = .bool false := hdep 13 16 rfl rfl
        clear hd hdep hfree
        refine .inl ⟨wanted_free rfl, ?_⟩
        simp only [Oper.wp, execOp]
        go_simp
        refine Nxt.mk _ rfl (fun _ _ => ?_) hS (fun _ _ h => h)
        rfl
      · intro a W hd hS hdep hfree
        have x17 : a.tmps.getD 17 undef = .bool false := hdep 14 17 rfl rfl
        clear hd hdep hfree
        exact .inr ⟨wanted_no rfl rfl x17 rfl, fun _ _ => rfl⟩
      · intro a W hd hS hdep hfree
        have x17 : a.tmps.getD 17 undef = .bool false := hdep 14 17 rfl rfl
        clear hd hdep hfree
        exact .inr ⟨wanted_no rfl rfl x17 rfl, fun _ _ => rfl⟩
      · intro a W hd hS hdep hfree
        have x17 : a.tmps.getD 17 undef = .bool false := hdep 14 17 rfl rfl
        clear hd hdep hfree
        exact .inr ⟨wanted_no rfl rfl x17 rfl, fun _ _ => rfl⟩
      · intro a W hd hS hdep hfree
        have x17 : a.tmps.getD 17 undef = .bool false := hdep 14 17 rfl rfl
        clear hd hdep hfree
        exact .inr ⟨wanted_no rfl rfl x17 rfl, fun _ _ => rfl⟩
      · intro a W hd hS hdep hfree
        have x17 : a.tmps.getD 17 undef = .bool false := hdep 14 17 rfl rfl
        clear hd hdep hfree
        exact .inr ⟨wanted_no rfl rfl x17 rfl, fun _ _ => rfl⟩
      · intro a W hd hS hdep hfree
        have x17 : a.tmps.getD 17 undef = .bool false := hdep 14 17 rfl rfl
        clear hd hdep hfree
        exact .inr ⟨wanted_no rfl rfl x17 rfl, fun _ _ => rfl⟩
      · intro a W hd hS hdep hfree
        have x17 : a.tmps.getD 17 undef = .bool false := hdep 14 17 rfl rfl
        clear hd hdep hfree
        exact .inr ⟨wanted_no rfl rfl x17 rfl, fun _ _ => rfl⟩
      · intro a W hd hS hdep hfree
        have x17 : a.tmps.getD 17 undef = .bool false := hdep 14 17 rfl rfl
        have x24 : a.tmps.getD 24 undef = undef := hdep 21 24 rfl rfl
        clear hd hdep hfree
        refine .inl ⟨wanted_free rfl, ?_⟩
        simp only [Oper.wp, execOp]
        go_simp
        refine Nxt.mk _ rfl (fun _ _ => ?_) hS (fun _ _ h => h)
        rfl
      · intro a W hd hS hdep hfree
        have x25 : a.tmps.getD 25 undef = .bool false := hdep 22 25 rfl rfl
        clear hd hdep hfree
        refine .inl ⟨wanted_free rfl, ?_⟩
        simp only [Oper.wp, execOp]
        go_simp
        refine Nxt.mk _ rfl (fun _ _ => ?_) hS (fun _ _ h => h)
        rfl
      · intro a W hd hS hdep hfree
        have x26 : a.tmps.getD 26 undef = .bool false := hdep 23 26 rfl rfl
        clear hd hdep hfree
        exact .inr ⟨wanted_no rfl rfl x26 rfl, fun _ _ => rfl⟩
      · intro a W hd hS hdep hfree
        have x26 : a.tmps.getD 26 undef = .bool false := hdep 23 26 rfl rfl
        clear hd hdep hfree
        exact .inr ⟨wanted_no rfl rfl x26 rfl, fun _ _ => rfl⟩
      · intro a W hd hS hdep hfree
        have x26 : a.tmps.getD 26 undef = .bool false := hdep 23 26 rfl rfl
        clear hd hdep hfree
        exact .inr ⟨wanted_no rfl rfl x26 rfl, fun _ _ => rfl⟩
      · intro a W hd hS hdep hfree
        have x26 : a.tmps.getD 26 undef = .bool false := hdep 23 26 rfl rfl
        clear hd hdep hfree
        exact .inr ⟨wanted_no rfl rfl x26 rfl, fun _ _ => rfl⟩
      · intro a W hd hS hdep hfree
        have x26 : a.tmps.getD 26 undef = .bool false := hdep 23 26 rfl rfl
        clear hd hdep hfree
        exact .inr ⟨wanted_no rfl rfl x26 rfl, fun _ _ => rfl⟩
      · intro a W hd hS hdep hfree
        have x26 : a.tmps.getD 26 undef = .bool false := hdep 23 26 rfl rfl
        have x31 : a.tmps.getD 31 undef = undef := hdep 28 31 rfl rfl
        clear hd hdep hfree
        refine .inl ⟨wanted_free rfl, ?_⟩
        simp only [Oper.wp, execOp]
        go_simp
        refine Nxt.mk _ rfl (fun _ _ => ?_) hS (fun _ _ h => h)
        rfl
      · intro a W hd hS hdep hfree
        have x32 : a.tmps.getD 32 undef = .bool false := hdep 29 32 rfl rfl
        clear hd hdep hfree
        refine .inl ⟨wanted_free rfl, ?_⟩
        simp only [Oper.wp, execOp]
        go_simp
        refine Nxt.mk _ rfl (fun _ _ => ?_) hS (fun _ _ h => h)
        rfl
    intro a W2 hs hd hS2 hdone hrest
    have ea := written_all ((.pointer (some ⟨w.heap.size, 2, none⟩) : Value) :: (.int .i64 base : Value) :: (.pointer (some ⟨w.heap.size, 3, none⟩) : Value) :: (.int .i64 size : Value) :: (.bool true : Value) :: (.bool true : Value) :: (.pointer (some ⟨w.heap.size, 0, none⟩) : Value) :: (.pointer (some ⟨w.heap.size, 0, none⟩) : Value) :: (.int .i64 head : Value) :: (.agg #[.int .i64 head, .int .i64 tail, .int .i64 base, .int .i64 size] : Value) :: (.int .i64 (2 * size) : Value) :: (.int .i64 ((2 * size) - 1) : Value) :: (.bool false : Value) :: (.bool false : Value) :: (.bool false : Value) :: undef :: undef :: undef :: undef :: undef :: undef :: undef :: (.bool false : Value) :: (.bool false : Value) :: undef :: undef :: undef :: undef :: undef :: (.bool false : Value) :: (.bool false : Value) :: ([] : List Value)) rfl hs hd hrest hdone
    clear hs hd hdone hrest
    subst ea
    simp only [written, List.map_cons, List.map_nil, List.zip_cons_cons, List.zip_nil_right, putAll]
    simp only [Exit.then, Act.put, List.setIfInBounds_toArray, List.set_cons_zero, List.set_cons_succ]
    go_wp2
    go_ret
    refine ⟨ret_bool ?_, below_comp hb1 hS2⟩
    exact (decide_eq_false (fun hh => c1 hh.2.2.1)).symm
  by_cases c2 : 0 ≤ tail ∧ tail ≤ 2 * size - 1
  case neg =>
    refine wp_region_valuesG (by kernel_rfl) (fun W => Below w1.heap.size w1 W) (Vals ((.pointer (some ⟨w.heap.size, 2, none⟩) : Value) :: (.int .i64 base : Value) :: (.pointer (some ⟨w.heap.size, 3, none⟩) : Value) :: (.int .i64 size : Value) :: (.bool true : Value) :: (.bool true : Value) :: (.pointer (some ⟨w.heap.size, 0, none⟩) : Value) :: (.pointer (some ⟨w.heap.size, 0, none⟩) : Value) :: (.int .i64 head : Value) :: (.agg #[.int .i64 head, .int .i64 tail, .int .i64 base, .int .i64 size] : Value) :: (.int .i64 (2 * size) : Value) :: (.int .i64 ((2 * size) - 1) : Value) :: (.bool true : Value) :: (.bool true : Value) :: (.bool true : Value) :: (.pointer (some ⟨w.heap.size, 0, none⟩) : Value) :: (.pointer (some ⟨w.heap.size, 1, none⟩) : Value) :: (.int .i64 tail : Value) :: (.agg #[.int .i64 head, .int .i64 tail, .int .i64 base, .int .i64 size] : Value) :: (.int .i64 (2 * size) : Value) :: (.int .i64 ((2 * size) - 1) : Value) :: (.bool false : Value) :: (.bool false : Value) :: (.bool false : Value) :: undef :: undef :: undef :: undef :: undef :: (.bool false : Value) :: (.bool false : Value) :: ([] : List Value)) [])
      33 rfl (by kernel_rfl) (by kernel_rfl) below_drew (eachOp_all ?_) ?_
    · refine ⟨?_, ?_, ?_, ?_, ?_, ?_, ?_, ?_, ?_, ?_, ?_, ?_, ?_, ?_, ?_, ?_, ?_, ?_, ?_, ?_, ?_, ?_, ?_, ?_, ?_, ?_, ?_, ?_, ?_, ?_, ?_, trivial⟩
      · intro a W hd hS hdep hfree
        have x1 : a.tmps.getD 1 undef = .pointer (some ⟨w.heap.size, 0, none⟩) := hfree 1 rfl
        clear hd hdep hfree
        refine .inl ⟨wanted_free rfl, ?_⟩
        simp only [Oper.wp, execOp]
        go_simp
        refine Nxt.mk _ rfl (fun _ _ => ?_) hS (fun _ _ h => h)
        rfl
      · intro a W hd hS hdep hfree
        have x3 : a.tmps.getD 3 undef = .pointer (some ⟨w.heap.size, 2, none⟩) := hdep 0 3 rfl rfl
        clear hd hdep hfree
        refine .inl ⟨wanted_free rfl, ?_⟩
        have c : W.cell? ⟨w.heap.size, 2, none⟩ = some (.int .i64 base) := (HB1.out.below hS hg1).cell 2 (by simp)
        simp only [Oper.wp, execOp]
        go_simp
        refine Nxt.mk _ rfl (fun _ _ => ?_) hS (fun _ _ h => h)
        rfl
      · intro a W hd hS hdep hfree
        have x1 : a.tmps.getD 1 undef = .pointer (some ⟨w.heap.size, 0, none⟩) := hfree 1 rfl
        clear hd hdep hfree
        refine .inl ⟨wanted_free rfl, ?_⟩
        simp only [Oper.wp, execOp]
        go_simp
        refine Nxt.mk _ rfl (fun _ _ => ?_) hS (fun _ _ h => h)
        rfl
      · intro a W hd hS hdep hfree
        have x5 : a.tmps.getD 5 undef = .pointer (some ⟨w.heap.size, 3, none⟩) := hdep 2 5 rfl rfl
        clear hd hdep hfree
        refine .inl ⟨wanted_free rfl, ?_⟩
        have c : W.cell? ⟨w.heap.size, 3, none⟩ = some (.int .i64 size) := (HB1.out.below hS hg1).cell 3 (by simp)
        simp only [Oper.wp, execOp]
        go_simp
        refine Nxt.mk _ rfl (fun _ _ => ?_) hS (fun _ _ h => h)
        rfl
      · intro a W hd hS hdep hfree
        have x4 : a.tmps.getD 4 undef = .int .i64 base := hdep 1 4 rfl rfl
        have x6 : a.tmps.getD 6 undef = .int .i64 size := hdep 3 6 rfl rfl
        clear hd hdep hfree
        refine .inl ⟨wanted_free rfl, ?_⟩
        simp only [Oper.wp, execOp]
        go_simp
        refine ((slots_yes base size W c0)).mono ?_
        rintro e W' ⟨rfl, hb⟩
        exact Nxt.mk _ rfl (fun _ _ => rfl) (below_comp hS hb) (fun j u h => Vals.below hb j u h)
      · intro a W hd hS hdep hfree
        have x7 : a.tmps.getD 7 undef = .bool true := hdep 4 7 rfl rfl
        clear hd hdep hfree
        refine .inl ⟨wanted_free rfl, ?_⟩
        simp only [Oper.wp, execOp]
        go_simp
        refine Nxt.mk _ rfl (fun _ _ => ?_) hS (fun _ _ h => h)
        rfl
      · intro a W hd hS hdep hfree
        have x8 : a.tmps.getD 8 undef = .bool true := hdep 5 8 rfl rfl
        have x1 : a.tmps.getD 1 undef = .pointer (some ⟨w.heap.size, 0, none⟩) := hfree 1 rfl
        clear hd hdep hfree
        refine .inl ⟨wanted_yes rfl rfl x8, ?_⟩
        simp only [Oper.wp, execOp]
        go_simp
        refine Nxt.mk _ rfl (fun _ _ => ?_) hS (fun _ _ h => h)
        rfl
      · intro a W hd hS hdep hfree
        have x8 : a.tmps.getD 8 undef = .bool true := hdep 5 8 rfl rfl
        have x9 : a.tmps.getD 9 undef = .pointer (some ⟨w.heap.size, 0, none⟩) := hdep 6 9 rfl rfl
        clear hd hdep hfree
        refine .inl ⟨wanted_yes rfl rfl x8, ?_⟩
        simp only [Oper.wp, execOp]
        go_simp
        refine Nxt.mk _ rfl (fun _ _ => ?_) hS (fun _ _ h => h)
        rfl
      · intro a W hd hS hdep hfree
        have x8 : a.tmps.getD 8 undef = .bool true := hdep 5 8 rfl rfl
        have x10 : a.tmps.getD 10 undef = .pointer (some ⟨w.heap.size, 0, none⟩) := hdep 7 10 rfl rfl
        clear hd hdep hfree
        refine .inl ⟨wanted_yes rfl rfl x8, ?_⟩
        have c : W.cell? ⟨w.heap.size, 0, none⟩ = some (.int .i64 head) := (HB1.out.below hS hg1).cell 0 (by simp)
        simp only [Oper.wp, execOp]
        go_simp
        refine Nxt.mk _ rfl (fun _ _ => ?_) hS (fun _ _ h => h)
        rfl
      · intro a W hd hS hdep hfree
        have x8 : a.tmps.getD 8 undef = .bool true := hdep 5 8 rfl rfl
        have x1 : a.tmps.getD 1 undef = .pointer (some ⟨w.heap.size, 0, none⟩) := hfree 1 rfl
        clear hd hdep hfree
        refine .inl ⟨wanted_yes rfl rfl x8, ?_⟩
        have c0 : W.cell? ⟨w.heap.size, 0, none⟩ = some (.int .i64 head) := (HB1.out.below hS hg1).cell 0 (by simp)
        have c1 : W.cell? ⟨w.heap.size, 1, none⟩ = some (.int .i64 tail) := (HB1.out.below hS hg1).cell 1 (by simp)
        have c2 : W.cell? ⟨w.heap.size, 2, none⟩ = some (.int .i64 base) := (HB1.out.below hS hg1).cell 2 (by simp)
        have c3 : W.cell? ⟨w.heap.size, 3, none⟩ = some (.int .i64 size) := (HB1.out.below hS hg1).cell 3 (by simp)
        simp only [Oper.wp, execOp]
        go_simp
        refine Nxt.mk _ rfl (fun _ _ => ?_) hS (fun _ _ h => h)
        rfl
      · intro a W hd hS hdep hfree
        have x8 : a.tmps.getD 8 undef = .bool true := hdep 5 8 rfl rfl
        have x12 : a.tmps.getD 12 undef = .agg #[.int .i64 head, .int .i64 tail, .int .i64 base, .int .i64 size] := hdep 9 12 rfl rfl
        clear hd hdep hfree
        refine .inl ⟨wanted_yes rfl rfl x8, ?_⟩
        simp only [Oper.wp, execOp]
        go_simp
        refine (impl_modulus base size head tail W c0.2).mono ?_
        rintro e W' ⟨rfl, hb⟩
        exact Nxt.mk _ rfl (fun _ _ => rfl) (below_comp hS hb) (fun j u h => Vals.below hb j u h)
      · intro a W hd hS hdep hfree
        have x8 : a.tmps.getD 8 undef = .bool true := hdep 5 8 rfl rfl
        have x13 : a.tmps.getD 13 undef = .int .i64 (2 * size) := hdep 10 13 rfl rfl
        clear hd hdep hfree
        refine .inl ⟨wanted_yes rfl rfl x8, ?_⟩
        have k : IntKind.i64.wrap ((2 * size) - 1) = (2 * size) - 1 := wrap_in _ (by omega) (by omega)
        simp only [Oper.wp, execOp]
        go_simp
        refine Nxt.mk _ rfl (fun _ _ => ?_) hS (fun _ _ h => h)
        rfl
      · intro a W hd hS hdep hfree
        have x8 : a.tmps.getD 8 undef = .bool true := hdep 5 8 rfl rfl
        have x11 : a.tmps.getD 11 undef = .int .i64 head := hdep 8 11 rfl rfl
        have x14 : a.tmps.getD 14 undef = .int .i64 ((2 * size) - 1) := hdep 11 14 rfl rfl
        clear hd hdep hfree
        refine .inl ⟨wanted_yes rfl rfl x8, ?_⟩
        simp only [Oper.wp, execOp]
        go_simp
        refine ((inb_yes _ _ _ W c1)).mono ?_
        rintro e W' ⟨rfl, hb⟩
        exact Nxt.mk _ rfl (fun _ _ => rfl) (below_comp hS hb) (fun j u h => Vals.below hb j u h)
      · intro a W hd hS hdep hfree
        have x8 : a.tmps.getD 8 undef = .bool true := hdep 5 8 rfl rfl
        have x15 : a.tmps.getD 15 undef = .bool true := hdep 12 15 rfl rfl
        clear hd hdep hfree
        refine .inl ⟨wanted_free rfl, ?_⟩
        simp only [Oper.wp, execOp]
        go_simp
        refine Nxt.mk _ rfl (fun _ _ => ?_) hS (fun _ _ h => h)
        rfl
      · intro a W hd hS hdep hfree
        have x16 : a.tmps.getD 16 undef = .bool true := hdep 13 16 rfl rfl
        clear hd hdep hfree
        refine .inl ⟨wanted_free rfl, ?_⟩
        simp only [Oper.wp, execOp]
        go_simp
        refine Nxt.mk _ rfl (fun _ _ => ?_) hS (fun _ _ h => h)
        rfl
      · intro a W hd hS hdep hfree
        have x17 : a.tmps.getD 17 undef = .bool true := hdep 14 17 rfl rfl
        have x1 : a.tmps.getD 1 undef = .pointer (some ⟨w.heap.size, 0, none⟩) := hfree 1 rfl
        clear hd hdep hfree
        refine .inl ⟨wanted_yes rfl rfl x17, ?_⟩
        simp only [Oper.wp, execOp]
        go_simp
        refine Nxt.mk _ rfl (fun _ _ => ?_) hS (fun _ _ h => h)
        rfl
      · intro a W hd hS hdep hfree
        have x17 : a.tmps.getD 17 undef = .bool true := hdep 14 17 rfl rfl
        have x18 : a.tmps.getD 18 undef = .pointer (some ⟨w.heap.size, 0, none⟩) := hdep 15 18 rfl rfl
        clear hd hdep hfree
        refine .inl ⟨wanted_yes rfl rfl x17, ?_⟩
        simp only [Oper.wp, execOp]
        go_simp
        refine Nxt.mk _ rfl (fun _ _ => ?_) hS (fun _ _ h => h)
        rfl
      · intro a W hd hS hdep hfree
        have x17 : a.tmps.getD 17 undef = .bool true := hdep 14 17 rfl rfl
        have x19 : a.tmps.getD 19 undef = .pointer (some ⟨w.heap.size, 1, none⟩) := hdep 16 19 rfl rfl
        clear hd hdep hfree
        refine .inl ⟨wanted_yes rfl rfl x17, ?_⟩
        have c : W.cell? ⟨w.heap.size, 1, none⟩ = some (.int .i64 tail) := (HB1.out.below hS hg1).cell 1 (by simp)
        simp only [Oper.wp, execOp]
        go_simp
        refine Nxt.mk _ rfl (fun _ _ => ?_) hS (fun _ _ h => h)
        rfl
      · intro a W hd hS hdep hfree
        have x17 : a.tmps.getD 17 undef = .bool true := hdep 14 17 rfl rfl
        have x1 : a.tmps.getD 1 undef = .pointer (some ⟨w.heap.size, 0, none⟩) := hfree 1 rfl
        clear hd hdep hfree
        refine .inl ⟨wanted_yes rfl rfl x17, ?_⟩
        have c0 : W.cell? ⟨w.heap.size, 0, none⟩ = some (.int .i64 head) := (HB1.out.below hS hg1).cell 0 (by simp)
        have c1 : W.cell? ⟨w.heap.size, 1, none⟩ = some (.int .i64 tail) := (HB1.out.below hS hg1).cell 1 (by simp)
        have c2 : W.cell? ⟨w.heap.size, 2, none⟩ = some (.int .i64 base) := (HB1.out.below hS hg1).cell 2 (by simp)
        have c3 : W.cell? ⟨w.heap.size, 3, none⟩ = some (.int .i64 size) := (HB1.out.below hS hg1).cell 3 (by simp)
        simp only [Oper.wp, execOp]
        go_simp
        refine Nxt.mk _ rfl (fun _ _ => ?_) hS (fun _ _ h => h)
        rfl
      · intro a W hd hS hdep hfree
        have x17 : a.tmps.getD 17 undef = .bool true := hdep 14 17 rfl rfl
        have x21 : a.tmps.getD 21 undef = .agg #[.int .i64 head, .int .i64 tail, .int .i64 base, .int .i64 size] := hdep 18 21 rfl rfl
        clear hd hdep hfree
        refine .inl ⟨wanted_yes rfl rfl x17, ?_⟩
        simp only [Oper.wp, execOp]
        go_simp
        refine (impl_modulus base size head tail W c0.2).mono ?_
        rintro e W' ⟨rfl, hb⟩
        exact Nxt.mk _ rfl (fun _ _ => rfl) (below_comp hS hb) (fun j u h => Vals.below hb j u h)
      · intro a W hd hS hdep hfree
        have x17 : a.tmps.getD 17 undef = .bool true := hdep 14 17 rfl rfl
        have x22 : a.tmps.getD 22 undef = .int .i64 (2 * size) := hdep 19 22 rfl rfl
        clear hd hdep hfree
        refine .inl ⟨wanted_yes rfl rfl x17, ?_⟩
        have k : IntKind.i64.wrap ((2 * size) - 1) = (2 * size) - 1 := wrap_in _ (by omega) (by omega)
        simp only [Oper.wp, execOp]
        go_simp
        refine Nxt.mk _ rfl (fun _ _ => ?_) hS (fun _ _ h => h)
        rfl
      · intro a W hd hS hdep hfree
        have x17 : a.tmps.getD 17 undef = .bool true := hdep 14 17 rfl rfl
        have x20 : a.tmps.getD 20 undef = .int .i64 tail := hdep 17 20 rfl rfl
        have x23 : a.tmps.getD 23 undef = .int .i64 ((2 * size) - 1) := hdep 20 23 rfl rfl
        clear hd hdep hfree
        refine .inl ⟨wanted_yes rfl rfl x17, ?_⟩
        simp only [Oper.wp, execOp]
        go_simp
        refine ((inb_no _ _ _ W c2)).mono ?_
        rintro e W' ⟨rfl, hb⟩
        exact Nxt.mk _ rfl (fun _ _ => rfl) (below_comp hS hb) (fun j u h => Vals.below hb j u h)
      · intro a W hd hS hdep hfree
        have x17 : a.tmps.getD 17 undef = .bool true := hdep 14 17 rfl rfl
        have x24 : a.tmps.getD 24 undef = .bool false := hdep 21 24 rfl rfl
        clear hd hdep hfree
        refine .inl ⟨wanted_free rfl, ?_⟩
        simp only [Oper.wp, execOp]
        go_simp
        refine Nxt.mk _ rfl (fun _ _ => ?_) hS (fun _ _ h => h)
        rfl
      · intro a W hd hS hdep hfree
        have x25 : a.tmps.getD 25 undef = .bool false := hdep 22 25 rfl rfl
        clear hd hdep hfree
        refine .inl ⟨wanted_free rfl, ?_⟩
        simp only [Oper.wp, execOp]
        go_simp
        refine Nxt.mk _ rfl (fun _ _ => ?_) hS (fun _ _ h => h)
        rfl
      · intro a W hd hS hdep hfree
        have x26 : a.tmps.getD 26 undef = .bool false := hdep 23 26 rfl rfl
        clear hd hdep hfree
        exact .inr ⟨wanted_no rfl rfl x26 rfl, fun _ _ => rfl⟩
      · intro a W hd hS hdep hfree
        have x26 : a.tmps.getD 26 undef = .bool false := hdep 23 26 rfl rfl
        clear hd hdep hfree
        exact .inr ⟨wanted_no rfl rfl x26 rfl, fun _ _ => rfl⟩
      · intro a W hd hS hdep hfree
        have x26 : a.tmps.getD 26 undef = .bool false := hdep 23 26 rfl rfl
        clear hd hdep hfree
        exact .inr ⟨wanted_no rfl rfl x26 rfl, fun _ _ => rfl⟩
      · intro a W hd hS hdep hfree
        have x26 : a.tmps.getD 26 undef = .bool false := hdep 23 26 rfl rfl
        clear hd hdep hfree
        exact .inr ⟨wanted_no rfl rfl x26 rfl, fun _ _ => rfl⟩
      · intro a W hd hS hdep hfree
        have x26 : a.tmps.getD 26 undef = .bool false := hdep 23 26 rfl rfl
        clear hd hdep hfree
        exact .inr ⟨wanted_no rfl rfl x26 rfl, fun _ _ => rfl⟩
      · intro a W hd hS hdep hfree
        have x26 : a.tmps.getD 26 undef = .bool false := hdep 23 26 rfl rfl
        have x31 : a.tmps.getD 31 undef = undef := hdep 28 31 rfl rfl
        clear hd hdep hfree
        refine .inl ⟨wanted_free rfl, ?_⟩
        simp only [Oper.wp, execOp]
        go_simp
        refine Nxt.mk _ rfl (fun _ _ => ?_) hS (fun _ _ h => h)
        rfl
      · intro a W hd hS hdep hfree
        have x32 : a.tmps.getD 32 undef = .bool false := hdep 29 32 rfl rfl
        clear hd hdep hfree
        refine .inl ⟨wanted_free rfl, ?_⟩
        simp only [Oper.wp, execOp]
        go_simp
        refine Nxt.mk _ rfl (fun _ _ => ?_) hS (fun _ _ h => h)
        rfl
    intro a W2 hs hd hS2 hdone hrest
    have ea := written_all ((.pointer (some ⟨w.heap.size, 2, none⟩) : Value) :: (.int .i64 base : Value) :: (.pointer (some ⟨w.heap.size, 3, none⟩) : Value) :: (.int .i64 size : Value) :: (.bool true : Value) :: (.bool true : Value) :: (.pointer (some ⟨w.heap.size, 0, none⟩) : Value) :: (.pointer (some ⟨w.heap.size, 0, none⟩) : Value) :: (.int .i64 head : Value) :: (.agg #[.int .i64 head, .int .i64 tail, .int .i64 base, .int .i64 size] : Value) :: (.int .i64 (2 * size) : Value) :: (.int .i64 ((2 * size) - 1) : Value) :: (.bool true : Value) :: (.bool true : Value) :: (.bool true : Value) :: (.pointer (some ⟨w.heap.size, 0, none⟩) : Value) :: (.pointer (some ⟨w.heap.size, 1, none⟩) : Value) :: (.int .i64 tail : Value) :: (.agg #[.int .i64 head, .int .i64 tail, .int .i64 base, .int .i64 size] : Value) :: (.int .i64 (2 * size) : Value) :: (.int .i64 ((2 * size) - 1) : Value) :: (.bool false : Value) :: (.bool false : Value) :: (.bool false : Value) :: undef :: undef :: undef :: undef :: undef :: (.bool false : Value) :: (.bool false : Value) :: ([] : List Value)) rfl hs hd hrest hdone
    clear hs hd hdone hrest
    subst ea
    simp only [written, List.map_cons, List.map_nil, List.zip_cons_cons, List.zip_nil_right, putAll]
    simp only [Exit.then, Act.put, List.setIfInBounds_toArray, List.set_cons_zero, List.set_cons_succ]
    go_wp2
    go_ret
    refine ⟨ret_bool ?_, below_comp hb1 hS2⟩
    exact (decide_eq_false (fun hh => c2 hh.2.2.2.1)).symm
  refine wp_region_valuesG (by kernel_rfl) (fun W => Below w1.heap.size w1 W) (Vals ((.pointer (some ⟨w.heap.size, 2, none⟩) : Value) :: (.int .i64 base : Value) :: (.pointer (some ⟨w.heap.size, 3, none⟩) : Value) :: (.int .i64 size : Value) :: (.bool true : Value) :: (.bool true : Value) :: (.pointer (some ⟨w.heap.size, 0, none⟩) : Value) :: (.pointer (some ⟨w.heap.size, 0, none⟩) : Value) :: (.int .i64 head : Value) :: (.agg #[.int .i64 head, .int .i64 tail, .int .i64 base, .int .i64 size] : Value) :: (.int .i64 (2 * size) : Value) :: (.int .i64 ((2 * size) - 1) : Value) :: (.bool true : Value) :: (.bool true : Value) :: (.bool true : Value) :: (.pointer (some ⟨w.heap.size, 0, none⟩) : Value) :: (.pointer (some ⟨w.heap.size, 1, none⟩) : Value) :: (.int .i64 tail : Value) :: (.agg #[.int .i64 head, .int .i64 tail, .int .i64 base, .int .i64 size] : Value) :: (.int .i64 (2 * size) : Value) :: (.int .i64 ((2 * size) - 1) : Value) :: (.bool true : Value) :: (.bool true : Value) :: (.bool true : Value) :: (.agg #[.int .i64 head, .int .i64 tail, .int .i64 base, .int .i64 size] : Value) :: (.int .i64 (usedOf size head tail) : Value) :: (.pointer (some ⟨w.heap.size, 3, none⟩) : Value) :: (.int .i64 size : Value) :: (.bool (decide (usedOf size head tail ≤ size)) : Value) :: (.bool (decide (usedOf size head tail ≤ size)) : Value) :: (.bool (decide (usedOf size head tail ≤ size)) : Value) :: ([] : List Value)) [])
    33 rfl (by kernel_rfl) (by kernel_rfl) below_drew (eachOp_all ?_) ?_
  · refine ⟨?_, ?_, ?_, ?_, ?_, ?_, ?_, ?_, ?_, ?_, ?_, ?_, ?_, ?_, ?_, ?_, ?_, ?_, ?_, ?_, ?_, ?_, ?_, ?_, ?_, ?_, ?_, ?_, ?_, ?_, ?_, trivial⟩
    · intro a W hd hS hdep hfree
      have x1 : a.tmps.getD 1 undef = .pointer (some ⟨w.heap.size, 0, none⟩) := hfree 1 rfl
      clear hd hdep hfree
      refine .inl ⟨wanted_free rfl, ?_⟩
      simp only [Oper.wp, execOp]
      go_simp
      refine Nxt.mk _ rfl (fun _ _ => ?_) hS (fun _ _ h => h)
      rfl
    · intro a W hd hS hdep hfree
      have x3 : a.tmps.getD 3 undef = .pointer (some ⟨w.heap.size, 2, none⟩) := hdep 0 3 rfl rfl
      clear hd hdep hfree
      refine .inl ⟨wanted_free rfl, ?_⟩
      have c : W.cell? ⟨w.heap.size, 2, none⟩ = some (.int .i64 base) := (HB1.out.below hS hg1).cell 2 (by simp)
      simp only [Oper.wp, execOp]
      go_simp
      refine Nxt.mk _ rfl (fun _ _ => ?_) hS (fun _ _ h => h)
      rfl
    · intro a W hd hS hdep hfree
      have x1 : a.tmps.getD 1 undef = .pointer (some ⟨w.heap.size, 0, none⟩) := hfree 1 rfl
      clear hd hdep hfree
      refine .inl ⟨wanted_free rfl, ?_⟩
      simp only [Oper.wp, execOp]
      go_simp
      refine Nxt.mk _ rfl (fun _ _ => ?_) hS (fun _ _ h => h)
      rfl
    · intro a W hd hS hdep hfree
      have x5 : a.tmps.getD 5 undef = .pointer (some ⟨w.heap.size, 3, none⟩) := hdep 2 5 rfl rfl
      clear hd hdep hfree
      refine .inl ⟨wanted_free rfl, ?_⟩
      have c : W.cell? ⟨w.heap.size, 3, none⟩ = some (.int .i64 size) := (HB1.out.below hS hg1).cell 3 (by simp)
      simp only [Oper.wp, execOp]
      go_simp
      refine Nxt.mk _ rfl (fun _ _ => ?_) hS (fun _ _ h => h)
      rfl
    · intro a W hd hS hdep hfree
      have x4 : a.tmps.getD 4 undef = .int .i64 base := hdep 1 4 rfl rfl
      have x6 : a.tmps.getD 6 undef = .int .i64 size := hdep 3 6 rfl rfl
      clear hd hdep hfree
      refine .inl ⟨wanted_free rfl, ?_⟩
      simp only [Oper.wp, execOp]
      go_simp
      refine ((slots_yes base size W c0)).mono ?_
      rintro e W' ⟨rfl, hb⟩
      exact Nxt.mk _ rfl (fun _ _ => rfl) (below_comp hS hb) (fun j u h => Vals.below hb j u h)
    · intro a W hd hS hdep hfree
      have x7 : a.tmps.getD 7 undef = .bool true := hdep 4 7 rfl rfl
      clear hd hdep hfree
      refine .inl ⟨wanted_free rfl, ?_⟩
      simp only [Oper.wp, execOp]
      go_simp
      refine Nxt.mk _ rfl (fun _ _ => ?_) hS (fun _ _ h => h)
      rfl
    · intro a W hd hS hdep hfree
      have x8 : a.tmps.getD 8 undef = .bool true := hdep 5 8 rfl rfl
      have x1 : a.tmps.getD 1 undef = .pointer (some ⟨w.heap.size, 0, none⟩) := hfree 1 rfl
      clear hd hdep hfree
      refine .inl ⟨wanted_yes rfl rfl x8, ?_⟩
      simp only [Oper.wp, execOp]
      go_simp
      refine Nxt.mk _ rfl (fun _ _ => ?_) hS (fun _ _ h => h)
      rfl
    · intro a W hd hS hdep hfree
      have x8 : a.tmps.getD 8 undef = .bool true := hdep 5 8 rfl rfl
      have x9 : a.tmps.getD 9 undef = .pointer (some ⟨w.heap.size, 0, none⟩) := hdep 6 9 rfl rfl
      clear hd hdep hfree
      refine .inl ⟨wanted_yes rfl rfl x8, ?_⟩
      simp only [Oper.wp, execOp]
      go_simp
      refine Nxt.mk _ rfl (fun _ _ => ?_) hS (fun _ _ h => h)
      rfl
    · intro a W hd hS hdep hfree
      have x8 : a.tmps.getD 8 undef = .bool true := hdep 5 8 rfl rfl
      have x10 : a.tmps.getD 10 undef = .pointer (some ⟨w.heap.size, 0, none⟩) := hdep 7 10 rfl rfl
      clear hd hdep hfree
      refine .inl ⟨wanted_yes rfl rfl x8, ?_⟩
      have c : W.cell? ⟨w.heap.size, 0, none⟩ = some (.int .i64 head) := (HB1.out.below hS hg1).cell 0 (by simp)
      simp only [Oper.wp, execOp]
      go_simp
      refine Nxt.mk _ rfl (fun _ _ => ?_) hS (fun _ _ h => h)
      rfl
    · intro a W hd hS hdep hfree
      have x8 : a.tmps.getD 8 undef = .bool true := hdep 5 8 rfl rfl
      have x1 : a.tmps.getD 1 undef = .pointer (some ⟨w.heap.size, 0, none⟩) := hfree 1 rfl
      clear hd hdep hfree
      refine .inl ⟨wanted_yes rfl rfl x8, ?_⟩
      have c0 : W.cell? ⟨w.heap.size, 0, none⟩ = some (.int .i64 head) := (HB1.out.below hS hg1).cell 0 (by simp)
      have c1 : W.cell? ⟨w.heap.size, 1, none⟩ = some (.int .i64 tail) := (HB1.out.below hS hg1).cell 1 (by simp)
      have c2 : W.cell? ⟨w.heap.size, 2, none⟩ = some (.int .i64 base) := (HB1.out.below hS hg1).cell 2 (by simp)
      have c3 : W.cell? ⟨w.heap.size, 3, none⟩ = some (.int .i64 size) := (HB1.out.below hS hg1).cell 3 (by simp)
      simp only [Oper.wp, execOp]
      go_simp
      refine Nxt.mk _ rfl (fun _ _ => ?_) hS (fun _ _ h => h)
      rfl
    · intro a W hd hS hdep hfree
      have x8 : a.tmps.getD 8 undef = .bool true := hdep 5 8 rfl rfl
      have x12 : a.tmps.getD 12 undef = .agg #[.int .i64 head, .int .i64 tail, .int .i64 base, .int .i64 size] := hdep 9 12 rfl rfl
      clear hd hdep hfree
      refine .inl ⟨wanted_yes rfl rfl x8, ?_⟩
      simp only [Oper.wp, execOp]
      go_simp
      refine (impl_modulus base size head tail W c0.2).mono ?_
      rintro e W' ⟨rfl, hb⟩
      exact Nxt.mk _ rfl (fun _ _ => rfl) (below_comp hS hb) (fun j u h => Vals.below hb j u h)
    · intro a W hd hS hdep hfree
      have x8 : a.tmps.getD 8 undef = .bool true := hdep 5 8 rfl rfl
      have x13 : a.tmps.getD 13 undef = .int .i64 (2 * size) := hdep 10 13 rfl rfl
      clear hd hdep hfree
      refine .inl ⟨wanted_yes rfl rfl x8, ?_⟩
      have k : IntKind.i64.wrap ((2 * size) - 1) = (2 * size) - 1 := wrap_in _ (by omega) (by omega)
      simp only [Oper.wp, execOp]
      go_simp
      refine Nxt.mk _ rfl (fun _ _ => ?_) hS (fun _ _ h => h)
      rfl
    · intro a W hd hS hdep hfree
      have x8 : a.tmps.getD 8 undef = .bool true := hdep 5 8 rfl rfl
      have x11 : a.tmps.getD 11 undef = .int .i64 head := hdep 8 11 rfl rfl
      have x14 : a.tmps.getD 14 undef = .int .i64 ((2 * size) - 1) := hdep 11 14 rfl rfl
      clear hd hdep hfree
      refine .inl ⟨wanted_yes rfl rfl x8, ?_⟩
      simp only [Oper.wp, execOp]
      go_simp
      refine ((inb_yes _ _ _ W c1)).mono ?_
      rintro e W' ⟨rfl, hb⟩
      exact Nxt.mk _ rfl (fun _ _ => rfl) (below_comp hS hb) (fun j u h => Vals.below hb j u h)
    · intro a W hd hS hdep hfree
      have x8 : a.tmps.getD 8 undef = .bool true := hdep 5 8 rfl rfl
      have x15 : a.tmps.getD 15 undef = .bool true := hdep 12 15 rfl rfl
      clear hd hdep hfree
      refine .inl ⟨wanted_free rfl, ?_⟩
      simp only [Oper.wp, execOp]
      go_simp
      refine Nxt.mk _ rfl (fun _ _ => ?_) hS (fun _ _ h => h)
      rfl
    · intro a W hd hS hdep hfree
      have x16 : a.tmps.getD 16 undef = .bool true := hdep 13 16 rfl rfl
      clear hd hdep hfree
      refine .inl ⟨wanted_free rfl, ?_⟩
      simp only [Oper.wp, execOp]
      go_simp
      refine Nxt.mk _ rfl (fun _ _ => ?_) hS (fun _ _ h => h)
      rfl
    · intro a W hd hS hdep hfree
      have x17 : a.tmps.getD 17 undef = .bool true := hdep 14 17 rfl rfl
      have x1 : a.tmps.getD 1 undef = .pointer (some ⟨w.heap.size, 0, none⟩) := hfree 1 rfl
      clear hd hdep hfree
      refine .inl ⟨wanted_yes rfl rfl x17, ?_⟩
      simp only [Oper.wp, execOp]
      go_simp
      refine Nxt.mk _ rfl (fun _ _ => ?_) hS (fun _ _ h => h)
      rfl
    · intro a W hd hS hdep hfree
      have x17 : a.tmps.getD 17 undef = .bool true := hdep 14 17 rfl rfl
      have x18 : a.tmps.getD 18 undef = .pointer (some ⟨w.heap.size, 0, none⟩) := hdep 15 18 rfl rfl
      clear hd hdep hfree
      refine .inl ⟨wanted_yes rfl rfl x17, ?_⟩
      simp only [Oper.wp, execOp]
      go_simp
      refine Nxt.mk _ rfl (fun _ _ => ?_) hS (fun _ _ h => h)
      rfl
    · intro a W hd hS hdep hfree
      have x17 : a.tmps.getD 17 undef = .bool true := hdep 14 17 rfl rfl
      have x19 : a.tmps.getD 19 undef = .pointer (some ⟨w.heap.size, 1, none⟩) := hdep 16 19 rfl rfl
      clear hd hdep hfree
      refine .inl ⟨wanted_yes rfl rfl x17, ?_⟩
      have c : W.cell? ⟨w.heap.size, 1, none⟩ = some (.int .i64 tail) := (HB1.out.below hS hg1).cell 1 (by simp)
      simp only [Oper.wp, execOp]
      go_simp
      refine Nxt.mk _ rfl (fun _ _ => ?_) hS (fun _ _ h => h)
      rfl
    · intro a W hd hS hdep hfree
      have x17 : a.tmps.getD 17 undef = .bool true := hdep 14 17 rfl rfl
      have x1 : a.tmps.getD 1 undef = .pointer (some ⟨w.heap.size, 0, none⟩) := hfree 1 rfl
      clear hd hdep hfree
      refine .inl ⟨wanted_yes rfl rfl x17, ?_⟩
      have c0 : W.cell? ⟨w.heap.size, 0, none⟩ = some (.int .i64 head) := (HB1.out.below hS hg1).cell 0 (by simp)
      have c1 : W.cell? ⟨w.heap.size, 1, none⟩ = some (.int .i64 tail) := (HB1.out.below hS hg1).cell 1 (by simp)
      have c2 : W.cell? ⟨w.heap.size, 2, none⟩ = some (.int .i64 base) := (HB1.out.below hS hg1).cell 2 (by simp)
      have c3 : W.cell? ⟨w.heap.size, 3, none⟩ = some (.int .i64 size) := (HB1.out.below hS hg1).cell 3 (by simp)
      simp only [Oper.wp, execOp]
      go_simp
      refine Nxt.mk _ rfl (fun _ _ => ?_) hS (fun _ _ h => h)
      rfl
    · intro a W hd hS hdep hfree
      have x17 : a.tmps.getD 17 undef = .bool true := hdep 14 17 rfl rfl
      have x21 : a.tmps.getD 21 undef = .agg #[.int .i64 head, .int .i64 tail, .int .i64 base, .int .i64 size] := hdep 18 21 rfl rfl
      clear hd hdep hfree
      refine .inl ⟨wanted_yes rfl rfl x17, ?_⟩
      simp only [Oper.wp, execOp]
      go_simp
      refine (impl_modulus base size head tail W c0.2).mono ?_
      rintro e W' ⟨rfl, hb⟩
      exact Nxt.mk _ rfl (fun _ _ => rfl) (below_comp hS hb) (fun j u h => Vals.below hb j u h)
    · intro a W hd hS hdep hfree
      have x17 : a.tmps.getD 17 undef = .bool true := hdep 14 17 rfl rfl
      have x22 : a.tmps.getD 22 undef = .int .i64 (2 * size) := hdep 19 22 rfl rfl
      clear hd hdep hfree
      refine .inl ⟨wanted_yes rfl rfl x17, ?_⟩
      have k : IntKind.i64.wrap ((2 * size) - 1) = (2 * size) - 1 := wrap_in _ (by omega) (by omega)
      simp only [Oper.wp, execOp]
      go_simp
      refine Nxt.mk _ rfl (fun _ _ => ?_) hS (fun _ _ h => h)
      rfl
    · intro a W hd hS hdep hfree
      have x17 : a.tmps.getD 17 undef = .bool true := hdep 14 17 rfl rfl
      have x20 : a.tmps.getD 20 undef = .int .i64 tail := hdep 17 20 rfl rfl
      have x23 : a.tmps.getD 23 undef = .int .i64 ((2 * size) - 1) := hdep 20 23 rfl rfl
      clear hd hdep hfree
      refine .inl ⟨wanted_yes rfl rfl x17, ?_⟩
      simp only [Oper.wp, execOp]
      go_simp
      refine ((inb_yes _ _ _ W c2)).mono ?_
      rintro e W' ⟨rfl, hb⟩
      exact Nxt.mk _ rfl (fun _ _ => rfl) (below_comp hS hb) (fun j u h => Vals.below hb j u h)
    · intro a W hd hS hdep hfree
      have x17 : a.tmps.getD 17 undef = .bool true := hdep 14 17 rfl rfl
      have x24 : a.tmps.getD 24 undef = .bool true := hdep 21 24 rfl rfl
      clear hd hdep hfree
      refine .inl ⟨wanted_free rfl, ?_⟩
      simp only [Oper.wp, execOp]
      go_simp
      refine Nxt.mk _ rfl (fun _ _ => ?_) hS (fun _ _ h => h)
      rfl
    · intro a W hd hS hdep hfree
      have x25 : a.tmps.getD 25 undef = .bool true := hdep 22 25 rfl rfl
      clear hd hdep hfree
      refine .inl ⟨wanted_free rfl, ?_⟩
      simp only [Oper.wp, execOp]
      go_simp
      refine Nxt.mk _ rfl (fun _ _ => ?_) hS (fun _ _ h => h)
      rfl
    · intro a W hd hS hdep hfree
      have x26 : a.tmps.getD 26 undef = .bool true := hdep 23 26 rfl rfl
      have x1 : a.tmps.getD 1 undef = .pointer (some ⟨w.heap.size, 0, none⟩) := hfree 1 rfl
      clear hd hdep hfree
      refine .inl ⟨wanted_yes rfl rfl x26, ?_⟩
      have c0 : W.cell? ⟨w.heap.size, 0, none⟩ = some (.int .i64 head) := (HB1.out.below hS hg1).cell 0 (by simp)
      have c1 : W.cell? ⟨w.heap.size, 1, none⟩ = some (.int .i64 tail) := (HB1.out.below hS hg1).cell 1 (by simp)
      have c2 : W.cell? ⟨w.heap.size, 2, none⟩ = some (.int .i64 base) := (HB1.out.below hS hg1).cell 2 (by simp)
      have c3 : W.cell? ⟨w.heap.size, 3, none⟩ = some (.int .i64 size) := (HB1.out.below hS hg1).cell 3 (by simp)
      simp only [Oper.wp, execOp]
      go_simp
      refine Nxt.mk _ rfl (fun _ _ => ?_) hS (fun _ _ h => h)
      rfl
    · intro a W hd hS hdep hfree
      have x26 : a.tmps.getD 26 undef = .bool true := hdep 23 26 rfl rfl
      have x27 : a.tmps.getD 27 undef = .agg #[.int .i64 head, .int .i64 tail, .int .i64 base, .int .i64 size] := hdep 24 27 rfl rfl
      clear hd hdep hfree
      refine .inl ⟨wanted_yes rfl rfl x26, ?_⟩
      simp only [Oper.wp, execOp]
      go_simp
      refine (impl_used base size head tail W c0.2).mono ?_
      rintro e W' ⟨rfl, hb⟩
      exact Nxt.mk _ rfl (fun _ _ => rfl) (below_comp hS hb) (fun j u h => Vals.below hb j u h)
    · intro a W hd hS hdep hfree
      have x26 : a.tmps.getD 26 undef = .bool true := hdep 23 26 rfl rfl
      have x1 : a.tmps.getD 1 undef = .pointer (some ⟨w.heap.size, 0, none⟩) := hfree 1 rfl
      clear hd hdep hfree
      refine .inl ⟨wanted_yes rfl rfl x26, ?_⟩
      simp only [Oper.wp, execOp]
      go_simp
      refine Nxt.mk _ rfl (fun _ _ => ?_) hS (fun _ _ h => h)
      rfl
    · intro a W hd hS hdep hfree
      have x26 : a.tmps.getD 26 undef = .bool true := hdep 23 26 rfl rfl
      have x29 : a.tmps.getD 29 undef = .pointer (some ⟨w.heap.size, 3, none⟩) := hdep 26 29 rfl rfl
      clear hd hdep hfree
      refine .inl ⟨wanted_yes rfl rfl x26, ?_⟩
      have c : W.cell? ⟨w.heap.size, 3, none⟩ = some (.int .i64 size) := (HB1.out.below hS hg1).cell 3 (by simp)
      simp only [Oper.wp, execOp]
      go_simp
      refine Nxt.mk _ rfl (fun _ _ => ?_) hS (fun _ _ h => h)
      rfl
    · intro a W hd hS hdep hfree
      have x26 : a.tmps.getD 26 undef = .bool true := hdep 23 26 rfl rfl
      have x28 : a.tmps.getD 28 undef = .int .i64 (usedOf size head tail) := hdep 25 28 rfl rfl
      have x30 : a.tmps.getD 30 undef = .int .i64 size := hdep 27 30 rfl rfl
      clear hd hdep hfree
      refine .inl ⟨wanted_yes rfl rfl x26, ?_⟩
      simp only [Oper.wp, execOp]
      go_simp
      refine Nxt.mk _ rfl (fun _ _ => ?_) hS (fun _ _ h => h)
      first | rfl | (show (_ : Value) = _; simp)
    · intro a W hd hS hdep hfree
      have x26 : a.tmps.getD 26 undef = .bool true := hdep 23 26 rfl rfl
      have x31 : a.tmps.getD 31 undef = .bool (decide (usedOf size head tail ≤ size)) := hdep 28 31 rfl rfl
      clear hd hdep hfree
      refine .inl ⟨wanted_free rfl, ?_⟩
      simp only [Oper.wp, execOp]
      go_simp
      refine Nxt.mk _ rfl (fun _ _ => ?_) hS (fun _ _ h => h)
      rfl
    · intro a W hd hS hdep hfree
      have x32 : a.tmps.getD 32 undef = .bool (decide (usedOf size head tail ≤ size)) := hdep 29 32 rfl rfl
      clear hd hdep hfree
      refine .inl ⟨wanted_free rfl, ?_⟩
      simp only [Oper.wp, execOp]
      go_simp
      refine Nxt.mk _ rfl (fun _ _ => ?_) hS (fun _ _ h => h)
      rfl
  intro a W2 hs hd hS2 hdone hrest
  have ea := written_all ((.pointer (some ⟨w.heap.size, 2, none⟩) : Value) :: (.int .i64 base : Value) :: (.pointer (some ⟨w.heap.size, 3, none⟩) : Value) :: (.int .i64 size : Value) :: (.bool true : Value) :: (.bool true : Value) :: (.pointer (some ⟨w.heap.size, 0, none⟩) : Value) :: (.pointer (some ⟨w.heap.size, 0, none⟩) : Value) :: (.int .i64 head : Value) :: (.agg #[.int .i64 head, .int .i64 tail, .int .i64 base, .int .i64 size] : Value) :: (.int .i64 (2 * size) : Value) :: (.int .i64 ((2 * size) - 1) : Value) :: (.bool true : Value) :: (.bool true : Value) :: (.bool true : Value) :: (.pointer (some ⟨w.heap.size, 0, none⟩) : Value) :: (.pointer (some ⟨w.heap.size, 1, none⟩) : Value) :: (.int .i64 tail : Value) :: (.agg #[.int .i64 head, .int .i64 tail, .int .i64 base, .int .i64 size] : Value) :: (.int .i64 (2 * size) : Value) :: (.int .i64 ((2 * size) - 1) : Value) :: (.bool true : Value) :: (.bool true : Value) :: (.bool true : Value) :: (.agg #[.int .i64 head, .int .i64 tail, .int .i64 base, .int .i64 size] : Value) :: (.int .i64 (usedOf size head tail) : Value) :: (.pointer (some ⟨w.heap.size, 3, none⟩) : Value) :: (.int .i64 size : Value) :: (.bool (decide (usedOf size head tail ≤ size)) : Value) :: (.bool (decide (usedOf size head tail ≤ size)) : Value) :: (.bool (decide (usedOf size head tail ≤ size)) : Value) :: ([] : List Value)) rfl hs hd hrest hdone
  clear hs hd hdone hrest
  subst ea
  simp only [written, List.map_cons, List.map_nil, List.zip_cons_cons, List.zip_nil_right, putAll]
  simp only [Exit.then, Act.put, List.setIfInBounds_toArray, List.set_cons_zero, List.set_cons_succ]
  go_wp2
  go_ret
  refine ⟨ret_bool ?_, below_comp hb1 hS2⟩
  exact decide_eq_decide.2 ⟨fun hh => ⟨c0.1, c0.2, c1, c2, hh⟩, fun hh => hh.2.2.2.2⟩
set_option maxHeartbeats 4000000 in
set_option maxRecDepth 100000 in
theorem spec_ringok (base size head tail : Int) (w : World) :
    Calls Try.prog 16 #[.agg #[.int .i64 base, .int .i64 size, .int .i64 head, .int .i64 tail]] w fun r w' => r = .returned (.bool (decide (RingM.Ok ⟨base, size, head, tail⟩))) ∧ Below w.heap.size w w' := by
  go_enter Try.func16, Try.ntmps16
  go_wp2_with fail
  obtain ⟨w1, hw1⟩ : ∃ w1, w1 = w.alloc (.cells #[.int .i64 base, .int .i64 size, .int .i64 head, .int .i64 tail] 25) := ⟨_, rfl⟩
  have hb1 : Below w.heap.size w w1 := hw1 ▸ below_new _
  have HB1 : Hid (Box w1 w.heap.size #[.int .i64 base, .int .i64 size, .int .i64 head, .int .i64 tail] 25) := Lib.hid (hw1 ▸ Box.new w #[.int .i64 base, .int .i64 size, .int .i64 head, .int .i64 tail] 25)
  have hg1 : w.heap.size < w1.heap.size := by rw [hw1]; simp
  rw [← hw1]
  clear hw1
  by_cases c0 : 0 ≤ base ∧ base ≤ 130944
  case neg =>
    refine wp_region_valuesG (by kernel_rfl) (fun W => Below w1.heap.size w1 W) (Vals ((.pointer (some ⟨w.heap.size, 0, none⟩) : Value) :: (.int .i64 base : Value) :: (.bool false : Value) :: (.bool false : Value) :: undef :: undef :: undef :: (.bool false : Value) :: (.bool false : Value) :: undef :: undef :: undef :: undef :: undef :: undef :: undef :: (.bool false : Value) :: (.bool false : Value) :: undef :: undef :: undef :: undef :: undef :: undef :: undef :: (.bool false : Value) :: (.bool false : Value) :: undef :: undef :: undef :: undef :: undef :: (.bool false : Value) :: (.bool false : Value) :: ([] : List Value)) [])
      36 rfl (by kernel_rfl) (by kernel_rfl) below_drew (eachOp_all ?_) ?_
    · refine ⟨?_, ?_, ?_, ?_, ?_, ?_, ?_, ?_, ?_, ?_, ?_, ?_, ?_, ?_, ?_, ?_, ?_, ?_, ?_, ?_, ?_, ?_, ?_, ?_, ?_, ?_, ?_, ?_, ?_, ?_, ?_, ?_, ?_, ?_, trivial⟩
      · intro a W hd hS hdep hfree
        have x1 : a.tmps.getD 1 undef = .pointer (some ⟨w.heap.size, 0, none⟩) := hfree 1 rfl
        clear hd hdep hfree
        refine .inl ⟨wanted_free rfl, ?_⟩
        simp only [Oper.wp, execOp]
        go_simp
        refine Nxt.mk _ rfl (fun _ _ => ?_) hS (fun _ _ h => h)
        rfl
      · intro a W hd hS hdep hfree
        have x3 : a.tmps.getD 3 undef = .pointer (some ⟨w.heap.size, 0, none⟩) := hdep 0 3 rfl rfl
        clear hd hdep hfree
        refine .inl ⟨wanted_free rfl, ?_⟩
        have c : W.cell? ⟨w.heap.size, 0, none⟩ = some (.int .i64 base) := (HB1.out.below hS hg1).cell 0 (by simp)
        simp only [Oper.wp, execOp]
        go_simp
        refine Nxt.mk _ rfl (fun _ _ => ?_) hS (fun _ _ h => h)
        rfl
      · intro a W hd hS hdep hfree
        have x4 : a.tmps.getD 4 undef = .int .i64 base := hdep 1 4 rfl rfl
        clear hd hdep hfree
        refine .inl ⟨wanted_free rfl, ?_⟩
        simp only [Oper.wp, execOp]
        go_simp
        refine ((ins_no _ _ _ W c0)).mono ?_
        rintro e W' ⟨rfl, hb⟩
        exact Nxt.mk _ rfl (fun _ _ => rfl) (below_comp hS hb) (fun j u h => Vals.below hb j u h)
      · intro a W hd hS hdep hfree
        have x5 : a.tmps.getD 5 undef = .bool false := hdep 2 5 rfl rfl
        clear hd hdep hfree
        refine .inl ⟨wanted_free rfl, ?_⟩
        simp only [Oper.wp, execOp]
        go_simp
        refine Nxt.mk _ rfl (fun _ _ => ?_) hS (fun _ _ h => h)
        rfl
      · intro a W hd hS hdep hfree
        have x6 : a.tmps.getD 6 undef = .bool false := hdep 3 6 rfl rfl
        clear hd hdep hfree
        exact .inr ⟨wanted_no rfl rfl x6 rfl, fun _ _ => rfl⟩
      · intro a W hd hS hdep hfree
        have x6 : a.tmps.getD 6 undef = .bool false := hdep 3 6 rfl rfl
        clear hd hdep hfree
        exact .inr ⟨wanted_no rfl rfl x6 rfl, fun _ _ => rfl⟩
      · intro a W hd hS hdep hfree
        have x6 : a.tmps.getD 6 undef = .bool false := hdep 3 6 rfl rfl
        clear hd hdep hfree
        exact .inr ⟨wanted_no rfl rfl x6 rfl, fun _ _ => rfl⟩
      · intro a W hd hS hdep hfree
        have x6 : a.tmps.getD 6 undef = .bool false := hdep 3 6 rfl rfl
        have x9 : a.tmps.getD 9 undef = undef := hdep 6 9 rfl rfl
        clear hd hdep hfree
        refine .inl ⟨wanted_free rfl, ?_⟩
        simp only [Oper.wp, execOp]
        go_simp
        refine Nxt.mk _ rfl (fun _ _ => ?_) hS (fun _ _ h => h)
        rfl
      · intro a W hd hS hdep hfree
        have x10 : a.tmps.getD 10 undef = .bool false := hdep 7 10 rfl rfl
        clear hd hdep hfree
        refine .inl ⟨wanted_free rfl, ?_⟩
        simp only [Oper.wp, execOp]
        go_simp
        refine Nxt.mk _ rfl (fun _ _ => ?_) hS (fun _ _ h => h)
        rfl
      · intro a W hd hS hdep hfree
        have x11 : a.tmps.getD 11 undef = .bool false := hdep 8 11 rfl rfl
        clear hd hdep hfree
        exact .inr ⟨wanted_no rfl rfl x11 rfl, fun _ _ => rfl⟩
      · intro a W hd hS hdep hfree
        have x11 : a.tmps.getD 11 undef = .bool false := hdep 8 11 rfl rfl
        clear hd hdep hfree
        exact .inr ⟨wanted_no rfl rfl x11 rfl, fun _ _ => rfl⟩
      · intro a W hd hS hdep hfree
        have x11 : a.tmps.getD 11 undef = .bool false := hdep 8 11 rfl rfl
        clear hd hdep hfree
        exact .inr ⟨wanted_no rfl rfl x11 rfl, fun _ _ => rfl⟩
      · intro a W hd hS hdep hfree
        have x11 : a.tmps.getD 11 undef = .bool false := hdep 8 11 rfl rfl
        clear hd hdep hfree
        exact .inr ⟨wanted_no rfl rfl x11 rfl, fun _ _ => rfl⟩
      · intro a W hd hS hdep hfree
        have x11 : a.tmps.getD 11 undef = .bool false := hdep 8 11 rfl rfl
        clear hd hdep hfree
        exact .inr ⟨wanted_no rfl rfl x11 rfl, fun _ _ => rfl⟩
      · intro a W hd hS hdep hfree
        have x11 : a.tmps.getD 11 undef = .bool false := hdep 8 11 rfl rfl
        clear hd hdep hfree
        exact .inr ⟨wanted_no rfl rfl x11 rfl, fun _ _ => rfl⟩
      · intro a W hd hS hdep hfree
        have x11 : a.tmps.getD 11 undef = .bool false := hdep 8 11 rfl rfl
        clear hd hdep hfree
        exact .inr ⟨wanted_no rfl rfl x11 rfl, fun _ _ => rfl⟩
      · intro a W hd hS hdep hfree
        have x11 : a.tmps.getD 11 undef = .bool false := hdep 8 11 rfl rfl
        have x18 : a.tmps.getD 18 undef = undef := hdep 15 18 rfl rfl
        clear hd hdep hfree
        refine .inl ⟨wanted_free rfl, ?_⟩
        simp only [Oper.wp, execOp]
        go_simp
        refine Nxt.mk _ rfl (fun _ _ => ?_) hS (fun _ _ h => h)
        rfl
      · intro a W hd hS hdep hfree
        have x19 : a.tmps.getD 19 undef = .bool false := hdep 16 19 rfl rfl
        clear hd hdep hfree
        refine .inl ⟨wanted_free rfl, ?_⟩
        simp only [Oper.wp, execOp]
        go_simp
        refine Nxt.mk _ rfl (fun _ _ => ?_) hS (fun _ _ h => h)
        rfl
      · intro a W hd hS hdep hfree
        have x20 : a.tmps.getD 20 undef = .bool false := hdep 17 20 rfl rfl
        clear hd hdep hfree
        exact .inr ⟨wanted_no rfl rfl x20 rfl, fun _ _ => rfl⟩
      · intro a W hd hS hdep hfree
        have x20 : a.tmps.getD 20 undef = .bool false := hdep 17 20 rfl rfl
        clear hd hdep hfree
        exact .inr ⟨wanted_no rfl rfl x20 rfl, fun _ _ => rfl⟩
      · intro a W hd hS hdep hfree
        have x20 : a.tmps.getD 20 undef = .bool false := hdep 17 20 rfl rfl
        clear hd hdep hfree
        exact .inr ⟨wanted_no rfl rfl x20 rfl, fun _ _ => rfl⟩
      · intro a W hd hS hdep hfree
        have x20 : a.tmps.getD 20 undef = .bool false := hdep 17 20 rfl rfl
        clear hd hdep hfree
        exact .inr ⟨wanted_no rfl rfl x20 rfl, fun _ _ => rfl⟩
      · intro a W hd hS hdep hfree
        have x20 : a.tmps.getD 20 undef = .bool false := hdep 17 20 rfl rfl
        clear hd hdep hfree
        exact .inr ⟨wanted_no rfl rfl x20 rfl, fun _ _ => rfl⟩
      · intro a W hd hS hdep hfree
        have x20 : a.tmps.getD 20 undef = .bool false := hdep 17 20 rfl rfl
        clear hd hdep hfree
        exact .inr ⟨wanted_no rfl rfl x20 rfl, fun _ _ => rfl⟩
      · intro a W hd hS hdep hfree
        have x20 : a.tmps.getD 20 undef = .bool false := hdep 17 20 rfl rfl
        clear hd hdep hfree
        exact .inr ⟨wanted_no rfl rfl x20 rfl, fun _ _ => rfl⟩
      · intro a W hd hS hdep hfree
        have x20 : a.tmps.getD 20 undef = .bool false := hdep 17 20 rfl rfl
        have x27 : a.tmps.getD 27 undef = undef := hdep 24 27 rfl rfl
        clear hd hdep hfree
        refine .inl ⟨wanted_free rfl, ?_⟩
        simp only [Oper.wp, execOp]
        go_simp
        refine Nxt.mk _ rfl (fun _ _ => ?_) hS (fun _ _ h => h)
        rfl
      · intro a W hd hS hdep hfree
        have x28 : a.tmps.getD 28 undef = .bool false := hdep 25 28 rfl rfl
        clear hd hdep hfree
        refine .inl ⟨wanted_free rfl, ?_⟩
        simp only [Oper.wp, execOp]
        go_simp
        refine Nxt.mk _ rfl (fun _ _ => ?_) hS (fun _ _ h => h)
        rfl
      · intro a W hd hS hdep hfree
        have x29 : a.tmps.getD 29 undef = .bool false := hdep 26 29 rfl rfl
        clear hd hdep hfree
        exact .inr ⟨wanted_no rfl rfl x29 rfl, fun _ _ => rfl⟩
      · intro a W hd hS hdep hfree
        have x29 : a.tmps.getD 29 undef = .bool false := hdep 26 29 rfl rfl
        clear hd hdep hfree
        exact .inr ⟨wanted_no rfl rfl x29 rfl, fun _ _ => rfl⟩
      · intro a W hd hS hdep hfree
        have x29 : a.tmps.getD 29 undef = .bool false := hdep 26 29 rfl rfl
        clear hd hdep hfree
        exact .inr ⟨wanted_no rfl rfl x29 rfl, fun _ _ => rfl⟩
      · intro a W hd hS hdep hfree
        have x29 : a.tmps.getD 29 undef = .bool false := hdep 26 29 rfl rfl
        clear hd hdep hfree
        exact .inr ⟨wanted_no rfl rfl x29 rfl, fun _ _ => rfl⟩
      · intro a W hd hS hdep hfree
        have x29 : a.tmps.getD 29 undef = .bool false := hdep 26 29 rfl rfl
        clear hd hdep hfree
        exact .inr ⟨wanted_no rfl rfl x29 rfl, fun _ _ => rfl⟩
      · intro a W hd hS hdep hfree
        have x29 : a.tmps.getD 29 undef = .bool false := hdep 26 29 rfl rfl
        have x34 : a.tmps.getD 34 undef = undef := hdep 31 34 rfl rfl
        clear hd hdep hfree
        refine .inl ⟨wanted_free rfl, ?_⟩
        simp only [Oper.wp, execOp]
        go_simp
        refine Nxt.mk _ rfl (fun _ _ => ?_) hS (fun _ _ h => h)
        rfl
      · intro a W hd hS hdep hfree
        have x35 : a.tmps.getD 35 undef = .bool false := hdep 32 35 rfl rfl
        clear hd hdep hfree
        refine .inl ⟨wanted_free rfl, ?_⟩
        simp only [Oper.wp, execOp]
        go_simp
        refine Nxt.mk _ rfl (fun _ _ => ?_) hS (fun _ _ h => h)
        rfl
    intro a W2 hs hd hS2 hdone hrest
    have ea := written_all ((.pointer (some ⟨w.heap.size, 0, none⟩) : Value) :: (.int .i64 base : Value) :: (.bool false : Value) :: (.bool false : Value) :: undef :: undef :: undef :: (.bool false : Value) :: (.bool false : Value) :: undef :: undef :: undef :: undef :: undef :: undef :: undef :: (.bool false : Value) :: (.bool false : Value) :: undef :: undef :: undef :: undef :: undef :: undef :: undef :: (.bool false : Value) :: (.bool false : Value) :: undef :: undef :: undef :: undef :: undef :: (.bool false : Value) :: (.bool false : Value) :: ([] : List Value)) rfl hs hd hrest hdone
    clear hs hd hdone hrest
    subst ea
    simp only [written, List.map_cons, List.map_nil, List.zip_cons_cons, List.zip_nil_right, putAll]
    simp only [Exit.then, Act.put, List.setIfInBounds_toArray, List.set_cons_zero, List.set_cons_succ]
    go_wp2
    go_ret
    refine ⟨ret_bool ?_, below_comp hb1 hS2⟩
    exact (decide_eq_false (fun hh => c0 hh.1)).symm
  by_cases c1 : Pow2to16 size
  case neg =>
    refine wp_region_valuesG (by kernel_rfl) (fun W => Below w1.heap.size w1 W) (Vals ((.pointer (some ⟨w.heap.size, 0, none⟩) : Value) :: (.int .i64 base : Value) :: (.bool true : Value) :: (.bool true : Value) :: (.pointer (some ⟨w.heap.size, 1, none⟩) : Value) :: (.int .i64 size : Value) :: (.bool false : Value) :: (.bool false : Value) :: (.bool false : Value) :: undef :: undef :: undef :: undef :: undef :: undef :: undef :: (.bool false : Value) :: (.bool false : Value) :: undef :: undef :: undef :: undef :: undef :: undef :: undef :: (.bool false : Value) :: (.bool false : Value) :: undef :: undef :: undef :: undef :: undef :: (.bool false : Value) :: (.bool false : Value) :: ([] : List Value)) [])
      36 rfl (by kernel_rfl) (by kernel_rfl) below_drew (eachOp_all ?_) ?_
    · refine ⟨?_, ?_, ?_, ?_, ?_, ?_, ?_, ?_, ?_, ?_, ?_, ?_, ?_, ?_, ?_, ?_, ?_, ?_, ?_, ?_, ?_, ?_, ?_, ?_, ?_, ?_, ?_, ?_, ?_, ?_, ?_, ?_, ?_, ?_, trivial⟩
      · intro a W hd hS hdep hfree
        have x1 : a.tmps.getD 1 undef = .pointer (some ⟨w.heap.size, 0, none⟩) := hfree 1 rfl
        clear hd hdep hfree
        refine .inl ⟨wanted_free rfl, ?_⟩
        simp only [Oper.wp, execOp]
        go_simp
        refine Nxt.mk _ rfl (fun _ _ => ?_) hS (fun _ _ h => h)
        rfl
      · intro a W hd hS hdep hfree
        have x3 : a.tmps.getD 3 undef = .pointer (some ⟨w.heap.size, 0, none⟩) := hdep 0 3 rfl rfl
        clear hd hdep hfree
        refine .inl ⟨wanted_free rfl, ?_⟩
        have c : W.cell? ⟨w.heap.size, 0, none⟩ = some (.int .i64 base) := (HB1.out.below hS hg1).cell 0 (by simp)
        simp only [Oper.wp, execOp]
        go_simp
        refine Nxt.mk _ rfl (fun _ _ => ?_) hS (fun _ _ h => h)
        rfl
      · intro a W hd hS hdep hfree
        have x4 : a.tmps.getD 4 undef = .int .i64 base := hdep 1 4 rfl rfl
        clear hd hdep hfree
        refine .inl ⟨wanted_free rfl, ?_⟩
        simp only [Oper.wp, execOp]
        go_simp
        refine ((ins_yes _ _ _ W c0)).mono ?_
        rintro e W' ⟨rfl, hb⟩
        exact Nxt.mk _ rfl (fun _ _ => rfl) (below_comp hS hb) (fun j u h => Vals.below hb j u h)
      · intro a W hd hS hdep hfree
        have x5 : a.tmps.getD 5 undef = .bool true := hdep 2 5 rfl rfl
        clear hd hdep hfree
        refine .inl ⟨wanted_free rfl, ?_⟩
        simp only [Oper.wp, execOp]
        go_simp
        refine Nxt.mk _ rfl (fun _ _ => ?_) hS (fun _ _ h => h)
        rfl
      · intro a W hd hS hdep hfree
        have x6 : a.tmps.getD 6 undef = .bool true := hdep 3 6 rfl rfl
        have x1 : a.tmps.getD 1 undef = .pointer (some ⟨w.heap.size, 0, none⟩) := hfree 1 rfl
        clear hd hdep hfree
        refine .inl ⟨wanted_yes rfl rfl x6, ?_⟩
        simp only [Oper.wp, execOp]
        go_simp
        refine Nxt.mk _ rfl (fun _ _ => ?_) hS (fun _ _ h => h)
        rfl
      · intro a W hd hS hdep hfree
        have x6 : a.tmps.getD 6 undef = .bool true := hdep 3 6 rfl rfl
        have x7 : a.tmps.getD 7 undef = .pointer (some ⟨w.heap.size, 1, none⟩) := hdep 4 7 rfl rfl
        clear hd hdep hfree
        refine .inl ⟨wanted_yes rfl rfl x6, ?_⟩
        have c : W.cell? ⟨w.heap.size, 1, none⟩ = some (.int .i64 size) := (HB1.out.below hS hg1).cell 1 (by simp)
        simp only [Oper.wp, execOp]
        go_simp
        refine Nxt.mk _ rfl (fun _ _ => ?_) hS (fun _ _ h => h)
        rfl
      · intro a W hd hS hdep hfree
        have x6 : a.tmps.getD 6 undef = .bool true := hdep 3 6 rfl rfl
        have x8 : a.tmps.getD 8 undef = .int .i64 size := hdep 5 8 rfl rfl
        clear hd hdep hfree
        refine .inl ⟨wanted_yes rfl rfl x6, ?_⟩
        simp only [Oper.wp, execOp]
        go_simp
        refine ((size_no _ W c1)).mono ?_
        rintro e W' ⟨rfl, hb⟩
        exact Nxt.mk _ rfl (fun _ _ => rfl) (below_comp hS hb) (fun j u h => Vals.below hb j u h)
      · intro a W hd hS hdep hfree
        have x6 : a.tmps.getD 6 undef = .bool true := hdep 3 6 rfl rfl
        have x9 : a.tmps.getD 9 undef = .bool false := hdep 6 9 rfl rfl
        clear hd hdep hfree
        refine .inl ⟨wanted_free rfl, ?_⟩
        simp only [Oper.wp, execOp]
        go_simp
        refine Nxt.mk _ rfl (fun _ _ => ?_) hS (fun _ _ h => h)
        rfl
      · intro a W hd hS hdep hfree
        have x10 : a.tmps.getD 10 undef = .bool false := hdep 7 10 rfl rfl
        clear hd hdep hfree
        refine .inl ⟨wanted_free rfl, ?_⟩
        simp only [Oper.wp, execOp]
        go_simp
        refine Nxt.mk _ rfl (fun _ _ => ?_) hS (fun _ _ h => h)
        rfl
      · intro a W hd hS hdep hfree
        have x11 : a.tmps.getD 11 undef = .bool false := hdep 8 11 rfl rfl
        clear hd hdep hfree
        exact .inr ⟨wanted_no rfl rfl x11 rfl, fun _ _ => rfl⟩
      · intro a W hd hS hdep hfree
        have x11 : a.tmps.getD 11 undef = .bool false := hdep 8 11 rfl rfl
        clear hd hdep hfree
        exact .inr ⟨wanted_no rfl rfl x11 rfl, fun _ _ => rfl⟩
      · intro a W hd hS hdep hfree
        have x11 : a.tmps.getD 11 undef = .bool false := hdep 8 11 rfl rfl
        clear hd hdep hfree
        exact .inr ⟨wanted_no rfl rfl x11 rfl, fun _ _ => rfl⟩
      · intro a W hd hS hdep hfree
        have x11 : a.tmps.getD 11 undef = .bool false := hdep 8 11 rfl rfl
        clear hd hdep hfree
        exact .inr ⟨wanted_no rfl rfl x11 rfl, fun _ _ => rfl⟩
      · intro a W hd hS hdep hfree
        have x11 : a.tmps.getD 11 undef = .bool false := hdep 8 11 rfl rfl
        clear hd hdep hfree
        exact .inr ⟨wanted_no rfl rfl x11 rfl, fun _ _ => rfl⟩
      · intro a W hd hS hdep hfree
        have x11 : a.tmps.getD 11 undef = .bool false := hdep 8 11 rfl rfl
        clear hd hdep hfree
        exact .inr ⟨wanted_no rfl rfl x11 rfl, fun _ _ => rfl⟩
      · intro a W hd hS hdep hfree
        have x11 : a.tmps.getD 11 undef = .bool false := hdep 8 11 rfl rfl
        clear hd hdep hfree
        exact .inr ⟨wanted_no rfl rfl x11 rfl, fun _ _ => rfl⟩
      · intro a W hd hS hdep hfree
        have x11 : a.tmps.getD 11 undef = .bool false := hdep 8 11 rfl rfl
        have x18 : a.tmps.getD 18 undef = undef := hdep 15 18 rfl rfl
        clear hd hdep hfree
        refine .inl ⟨wanted_free rfl, ?_⟩
        simp only [Oper.wp, execOp]
        go_simp
        refine Nxt.mk _ rfl (fun _ _ => ?_) hS (fun _ _ h => h)
        rfl
      · intro a W hd hS hdep hfree
        have x19 : a.tmps.getD 19 undef = .bool false := hdep 16 19 rfl rfl
        clear hd hdep hfree
        refine .inl ⟨wanted_free rfl, ?_⟩
        simp only [Oper.wp, execOp]
        go_simp
        refine Nxt.mk _ rfl (fun _ _ => ?_) hS (fun _ _ h => h)
        rfl
      · intro a W hd hS hdep hfree
        have x20 : a.tmps.getD 20 undef = .bool false := hdep 17 20 rfl rfl
        clear hd hdep hfree
        exact .inr ⟨wanted_no rfl rfl x20 rfl, fun _ _ => rfl⟩
      · intro a W hd hS hdep hfree
        have x20 : a.tmps.getD 20 undef = .bool false := hdep 17 20 rfl rfl
        clear hd hdep hfree
        exact .inr ⟨wanted_no rfl rfl x20 rfl, fun _ _ => rfl⟩
      · intro a W hd hS hdep hfree
        have x20 : a.tmps.getD 20 undef = .bool false := hdep 17 20 rfl rfl
        clear hd hdep hfree
        exact .inr ⟨wanted_no rfl rfl x20 rfl, fun _ _ => rfl⟩
      · intro a W hd hS hdep hfree
        have x20 : a.tmps.getD 20 undef = .bool false := hdep 17 20 rfl rfl
        clear hd hdep hfree
        exact .inr ⟨wanted_no rfl rfl x20 rfl, fun _ _ => rfl⟩
      · intro a W hd hS hdep hfree
        have x20 : a.tmps.getD 20 undef = .bool false := hdep 17 20 rfl rfl
        clear hd hdep hfree
        exact .inr ⟨wanted_no rfl rfl x20 rfl, fun _ _ => rfl⟩
      · intro a W hd hS hdep hfree
        have x20 : a.tmps.getD 20 undef = .bool false := hdep 17 20 rfl rfl
        clear hd hdep hfree
        exact .inr ⟨wanted_no rfl rfl x20 rfl, fun _ _ => rfl⟩
      · intro a W hd hS hdep hfree
        have x20 : a.tmps.getD 20 undef = .bool false := hdep 17 20 rfl rfl
        clear hd hdep hfree
        exact .inr ⟨wanted_no rfl rfl x20 rfl, fun _ _ => rfl⟩
      · intro a W hd hS hdep hfree
        have x20 : a.tmps.getD 20 undef = .bool false := hdep 17 20 rfl rfl
        have x27 : a.tmps.getD 27 undef = undef := hdep 24 27 rfl rfl
        clear hd hdep hfree
        refine .inl ⟨wanted_free rfl, ?_⟩
        simp only [Oper.wp, execOp]
        go_simp
        refine Nxt.mk _ rfl (fun _ _ => ?_) hS (fun _ _ h => h)
        rfl
      · intro a W hd hS hdep hfree
        have x28 : a.tmps.getD 28 undef = .bool false := hdep 25 28 rfl rfl
        clear hd hdep hfree
        refine .inl ⟨wanted_free rfl, ?_⟩
        simp only [Oper.wp, execOp]
        go_simp
        refine Nxt.mk _ rfl (fun _ _ => ?_) hS (fun _ _ h => h)
        rfl
      · intro a W hd hS hdep hfree
        have x29 : a.tmps.getD 29 undef = .bool false := hdep 26 29 rfl rfl
        clear hd hdep hfree
        exact .inr ⟨wanted_no rfl rfl x29 rfl, fun _ _ => rfl⟩
      · intro a W hd hS hdep hfree
        have x29 : a.tmps.getD 29 undef = .bool false := hdep 26 29 rfl rfl
        clear hd hdep hfree
        exact .inr ⟨wanted_no rfl rfl x29 rfl, fun _ _ => rfl⟩
      · intro a W hd hS hdep hfree
        have x29 : a.tmps.getD 29 undef = .bool false := hdep 26 29 rfl rfl
        clear hd hdep hfree
        exact .inr ⟨wanted_no rfl rfl x29 rfl, fun _ _ => rfl⟩
      · intro a W hd hS hdep hfree
        have x29 : a.tmps.getD 29 undef = .bool false := hdep 26 29 rfl rfl
        clear hd hdep hfree
        exact .inr ⟨wanted_no rfl rfl x29 rfl, fun _ _ => rfl⟩
      · intro a W hd hS hdep hfree
        have x29 : a.tmps.getD 29 undef = .bool false := hdep 26 29 rfl rfl
        clear hd hdep hfree
        exact .inr ⟨wanted_no rfl rfl x29 rfl, fun _ _ => rfl⟩
      · intro a W hd hS hdep hfree
        have x29 : a.tmps.getD 29 undef = .bool false := hdep 26 29 rfl rfl
        have x34 : a.tmps.getD 34 undef = undef := hdep 31 34 rfl rfl
        clear hd hdep hfree
        refine .inl ⟨wanted_free rfl, ?_⟩
        simp only [Oper.wp, execOp]
        go_simp
        refine Nxt.mk _ rfl (fun _ _ => ?_) hS (fun _ _ h => h)
        rfl
      · intro a W hd hS hdep hfree
        have x35 : a.tmps.getD 35 undef = .bool false := hdep 32 35 rfl rfl
        clear hd hdep hfree
        refine .inl ⟨wanted_free rfl, ?_⟩
        simp only [Oper.wp, execOp]
        go_simp
        refine Nxt.mk _ rfl (fun _ _ => ?_) hS (fun _ _ h => h)
        rfl
    intro a W2 hs hd hS2 hdone hrest
    have ea := written_all ((.pointer (some ⟨w.heap.size, 0, none⟩) : Value) :: (.int .i64 base : Value) :: (.bool true : Value) :: (.bool true : Value) :: (.pointer (some ⟨w.heap.size, 1, none⟩) : Value) :: (.int .i64 size : Value) :: (.bool false : Value) :: (.bool false : Value) :: (.bool false : Value) :: undef :: undef :: undef :: undef :: undef :: undef :: undef :: (.bool false : Value) :: (.bool false : Value) :: undef :: undef :: undef :: undef :: undef :: undef :: undef :: (.bool false : Value) :: (.bool false : Value) :: undef :: undef :: undef :: undef :: undef :: (.bool false : Value) :: (.bool false : Value) :: ([] : List Value)) rfl hs hd hrest hdone
    clear hs hd hdone hrest
    subst ea
    simp only [written, List.map_cons, List.map_nil, List.zip_cons_cons, List.zip_nil_right, putAll]
    simp only [Exit.then, Act.put, List.setIfInBounds_toArray, List.set_cons_zero, List.set_cons_succ]
    go_wp2
    go_ret
    refine ⟨ret_bool ?_, below_comp hb1 hS2⟩
    exact (decide_eq_false (fun hh => c1 hh.2.1)).symm
  have hsz : 2 ≤ size ∧ size ≤ 16 := by rcases c1 with h | h | h | h <;> omega
  by_cases c2 : 0 ≤ head ∧ head ≤ 2 * size - 1
  case neg =>
    refine wp_region_valuesG (by kernel_rfl) (fun W => Below w1.heap.size w1 W) (Vals ((.pointer (some ⟨w.heap.size, 0, none⟩) : Value) :: (.int .i64 base : Value) :: (.bool true : Value) :: (.bool true : Value) :: (.pointer (some ⟨w.heap.size, 1, none⟩) : Value) :: (.int .i64 size : Value) :: (.bool true : Value) :: (.bool true : Value) :: (.bool true : Value) :: (.pointer (some ⟨w.heap.size, 2, none⟩) : Value) :: (.int .i64 head : Value) :: (.pointer (some ⟨w.heap.size, 1, none⟩) : Value) :: (.int .i64 size : Value) :: (.int .i64 (2 * size) : Value) :: (.int .i64 ((2 * size) - 1) : Value) :: (.bool false : Value) :: (.bool false : Value) :: (.bool false : Value) :: undef :: undef :: undef :: undef :: undef :: undef :: undef :: (.bool false : Value) :: (.bool false : Value) :: undef :: undef :: undef :: undef :: undef :: (.bool false : Value) :: (.bool false : Value) :: ([] : List Value)) [])
      36 rfl (by kernel_rfl) (by kernel_rfl) below_drew (eachOp_all ?_) ?_
    · refine ⟨?_, ?_, ?_, ?_, ?_, ?_, ?_, ?_, ?_, ?_, ?_, ?_, ?_, ?_, ?_, ?_, ?_, ?_, ?_, ?_, ?_, ?_, ?_, ?_, ?_, ?_, ?_, ?_, ?_, ?_, ?_, ?_, ?_, ?_, trivial⟩
      · intro a W hd hS hdep hfree
        have x1 : a.tmps.getD 1 undef = .pointer (some ⟨w.heap.size, 0, none⟩) := hfree 1 rfl
        clear hd hdep hfree
        refine .inl ⟨wanted_free rfl, ?_⟩
        simp only [Oper.wp, execOp]
        go_simp
        refine Nxt.mk _ rfl (fun _ _ => ?_) hS (fun _ _ h => h)
        rfl
      · intro a W hd hS hdep hfree
        have x3 : a.tmps.getD 3 undef = .pointer (some ⟨w.heap.size, 0, none⟩) := hdep 0 3 rfl rfl
        clear hd hdep hfree
        refine .inl ⟨wanted_free rfl, ?_⟩
        have c : W.cell? ⟨w.heap.size, 0, none⟩ = some (.int .i64 base) := (HB1.out.below hS hg1).cell 0 (by simp)
        simp only [Oper.wp, execOp]
        go_simp
        refine Nxt.mk _ rfl (fun _ _ => ?_) hS (fun _ _ h => h)
        rfl
      · intro a W hd hS hdep hfree
        have x4 : a.tmps.getD 4 undef = .int .i64 base := hdep 1 4 rfl rfl
        clear hd hdep hfree
        refine .inl ⟨wanted_free rfl, ?_⟩
        simp only [Oper.wp, execOp]
        go_simp
        refine ((ins_yes _ _ _ W c0)).mono ?_
        rintro e W' ⟨rfl, hb⟩
        exact Nxt.mk _ rfl (fun _ _ => rfl) (below_comp hS hb) (fun j u h => Vals.below hb j u h)
      · intro a W hd hS hdep hfree
        have x5 : a.tmps.getD 5 undef = .bool true := hdep 2 5 rfl rfl
        clear hd hdep hfree
        refine .inl ⟨wanted_free rfl, ?_⟩
        simp only [Oper.wp, execOp]
        go_simp
        refine Nxt.mk _ rfl (fun _ _ => ?_) hS (fun _ _ h => h)
        rfl
      · intro a W hd hS hdep hfree
        have x6 : a.tmps.getD 6 undef = .bool true := hdep 3 6 rfl rfl
        have x1 : a.tmps.getD 1 undef = .pointer (some ⟨w.heap.size, 0, none⟩) := hfree 1 rfl
        clear hd hdep hfree
        refine .inl ⟨wanted_yes rfl rfl x6, ?_⟩
        simp only [Oper.wp, execOp]
        go_simp
        refine Nxt.mk _ rfl (fun _ _ => ?_) hS (fun _ _ h => h)
        rfl
      · intro a W hd hS hdep hfree
        have x6 : a.tmps.getD 6 undef = .bool true := hdep 3 6 rfl rfl
        have x7 : a.tmps.getD 7 undef = .pointer (some ⟨w.heap.size, 1, none⟩) := hdep 4 7 rfl rfl
        clear hd hdep hfree
        refine .inl ⟨wanted_yes rfl rfl x6, ?_⟩
        have c : W.cell? ⟨w.heap.size, 1, none⟩ = some (.int .i64 size) := (HB1.out.below hS hg1).cell 1 (by simp)
        simp only [Oper.wp, execOp]
        go_simp
        refine Nxt.mk _ rfl (fun _ _ => ?_) hS (fun _ _ h => h)
        rfl
      · intro a W hd hS hdep hfree
        have x6 : a.tmps.getD 6 undef = .bool true := hdep 3 6 rfl rfl
        have x8 : a.tmps.getD 8 undef = .int .i64 size := hdep 5 8 rfl rfl
        clear hd hdep hfree
        refine .inl ⟨wanted_yes rfl rfl x6, ?_⟩
        simp only [Oper.wp, execOp]
        go_simp
        refine ((size_yes _ W c1)).mono ?_
        rintro e W' ⟨rfl, hb⟩
        exact Nxt.mk _ rfl (fun _ _ => rfl) (below_comp hS hb) (fun j u h => Vals.below hb j u h)
      · intro a W hd hS hdep hfree
        have x6 : a.tmps.getD 6 undef = .bool true := hdep 3 6 rfl rfl
        have x9 : a.tmps.getD 9 undef = .bool true := hdep 6 9 rfl rfl
        clear hd hdep hfree
        refine .inl ⟨wanted_free rfl, ?_⟩
        simp only [Oper.wp, execOp]
        go_simp
        refine Nxt.mk _ rfl (fun _ _ => ?_) hS (fun _ _ h => h)
        rfl
      · intro a W hd hS hdep hfree
        have x10 : a.tmps.getD 10 undef = .bool true := hdep 7 10 rfl rfl
        clear hd hdep hfree
        refine .inl ⟨wanted_free rfl, ?_⟩
        simp only [Oper.wp, execOp]
        go_simp
        refine Nxt.mk _ rfl (fun _ _ => ?_) hS (fun _ _ h => h)
        rfl
      · intro a W hd hS hdep hfree
        have x11 : a.tmps.getD 11 undef = .bool true := hdep 8 11 rfl rfl
        have x1 : a.tmps.getD 1 undef = .pointer (some ⟨w.heap.size, 0, none⟩) := hfree 1 rfl
        clear hd hdep hfree
        refine .inl ⟨wanted_yes rfl rfl x11, ?_⟩
        simp only [Oper.wp, execOp]
        go_simp
        refine Nxt.mk _ rfl (fun _ _ => ?_) hS (fun _ _ h => h)
        rfl
      · intro a W hd hS hdep hfree
        have x11 : a.tmps.getD 11 undef = .bool true := hdep 8 11 rfl rfl
        have x12 : a.tmps.getD 12 undef = .pointer (some ⟨w.heap.size, 2, none⟩) := hdep 9 12 rfl rfl
        clear hd hdep hfree
        refine .inl ⟨wanted_yes rfl rfl x11, ?_⟩
        have c : W.cell? ⟨w.heap.size, 2, none⟩ = some (.int .i64 head) := (HB1.out.below hS hg1).cell 2 (by simp)
        simp only [Oper.wp, execOp]
        go_simp
        refine Nxt.mk _ rfl (fun _ _ => ?_) hS (fun _ _ h => h)
        rfl
      · intro a W hd hS hdep hfree
        have x11 : a.tmps.getD 11 undef = .bool true := hdep 8 11 rfl rfl
        have x1 : a.tmps.getD 1 undef = .pointer (some ⟨w.heap.size, 0, none⟩) := hfree 1 rfl
        clear hd hdep hfree
        refine .inl ⟨wanted_yes rfl rfl x11, ?_⟩
        simp only [Oper.wp, execOp]
        go_simp
        refine Nxt.mk _ rfl (fun _ _ => ?_) hS (fun _ _ h => h)
        rfl
      · intro a W hd hS hdep hfree
        have x11 : a.tmps.getD 11 undef = .bool true := hdep 8 11 rfl rfl
        have x14 : a.tmps.getD 14 undef = .pointer (some ⟨w.heap.size, 1, none⟩) := hdep 11 14 rfl rfl
        clear hd hdep hfree
        refine .inl ⟨wanted_yes rfl rfl x11, ?_⟩
        have c : W.cell? ⟨w.heap.size, 1, none⟩ = some (.int .i64 size) := (HB1.out.below hS hg1).cell 1 (by simp)
        simp only [Oper.wp, execOp]
        go_simp
        refine Nxt.mk _ rfl (fun _ _ => ?_) hS (fun _ _ h => h)
        rfl
      · intro a W hd hS hdep hfree
        have x11 : a.tmps.getD 11 undef = .bool true := hdep 8 11 rfl rfl
        have x15 : a.tmps.getD 15 undef = .int .i64 size := hdep 12 15 rfl rfl
        clear hd hdep hfree
        refine .inl ⟨wanted_yes rfl rfl x11, ?_⟩
        have k : IntKind.i64.wrap (2 * size) = 2 * size := wrap_in _ (by omega) (by omega)
        simp only [Oper.wp, execOp]
        go_simp
        refine Nxt.mk _ rfl (fun _ _ => ?_) hS (fun _ _ h => h)
        rfl
      · intro a W hd hS hdep hfree
        have x11 : a.tmps.getD 11 undef = .bool true := hdep 8 11 rfl rfl
        have x16 : a.tmps.getD 16 undef = .int .i64 (2 * size) := hdep 13 16 rfl rfl
        clear hd hdep hfree
        refine .inl ⟨wanted_yes rfl rfl x11, ?_⟩
        have k : IntKind.i64.wrap ((2 * size) - 1) = (2 * size) - 1 := wrap_in _ (by omega) (by omega)
        simp only [Oper.wp, execOp]
        go_simp
        refine Nxt.mk _ rfl (fun _ _ => ?_) hS (fun _ _ h => h)
        rfl
      · intro a W hd hS hdep hfree
        have x11 : a.tmps.getD 11 undef = .bool true := hdep 8 11 rfl rfl
        have x13 : a.tmps.getD 13 undef = .int .i64 head := hdep 10 13 rfl rfl
        have x17 : a.tmps.getD 17 undef = .int .i64 ((2 * size) - 1) := hdep 14 17 rfl rfl
        clear hd hdep hfree
        refine .inl ⟨wanted_yes rfl rfl x11, ?_⟩
        simp only [Oper.wp, execOp]
        go_simp
        refine ((ins_no _ _ _ W c2)).mono ?_
        rintro e W' ⟨rfl, hb⟩
        exact Nxt.mk _ rfl (fun _ _ => rfl) (below_comp hS hb) (fun j u h => Vals.below hb j u h)
      · intro a W hd hS hdep hfree
        have x11 : a.tmps.getD 11 undef = .bool true := hdep 8 11 rfl rfl
        have x18 : a.tmps.getD 18 undef = .bool false := hdep 15 18 rfl rfl
        clear hd hdep hfree
        refine .inl ⟨wanted_free rfl, ?_⟩
        simp only [Oper.wp, execOp]
        go_simp
        refine Nxt.mk _ rfl (fun _ _ => ?_) hS (fun _ _ h => h)
        rfl
      · intro a W hd hS hdep hfree
        have x19 : a.tmps.getD 19 undef = .bool false := hdep 16 19 rfl rfl
        clear hd hdep hfree
        refine .inl ⟨wanted_free rfl, ?_⟩
        simp only [Oper.wp, execOp]
        go_simp
        refine Nxt.mk _ rfl (fun _ _ => ?_) hS (fun _ _ h => h)
        rfl
      · intro a W hd hS hdep hfree
        have x20 : a.tmps.getD 20 undef = .bool false := hdep 17 20 rfl rfl
        clear hd hdep hfree
        exact .inr ⟨wanted_no rfl rfl x20 rfl, fun _ _ => rfl⟩
      · intro a W hd hS hdep hfree
        have x20 : a.tmps.getD 20 undef = .bool false := hdep 17 20 rfl rfl
        clear hd hdep hfree
        exact .inr ⟨wanted_no rfl rfl x20 rfl, fun _ _ => rfl⟩
      · intro a W hd hS hdep hfree
        have x20 : a.tmps.getD 20 undef = .bool false := hdep 17 20 rfl rfl
        clear hd hdep hfree
        exact .inr ⟨wanted_no rfl rfl x20 rfl, fun _ _ => rfl⟩
      · intro a W hd hS hdep hfree
        have x20 : a.tmps.getD 20 undef = .bool false := hdep 17 20 rfl rfl
        clear hd hdep hfree
        exact .inr ⟨wanted_no rfl rfl x20 rfl, fun _ _ => rfl⟩
      · intro a W hd hS hdep hfree
        have x20 : a.tmps.getD 20 undef = .bool false := hdep 17 20 rfl rfl
        clear hd hdep hfree
        exact .inr ⟨wanted_no rfl rfl x20 rfl, fun _ _ => rfl⟩
      · intro a W hd hS hdep hfree
        have x20 : a.tmps.getD 20 undef = .bool false := hdep 17 20 rfl rfl
        clear hd hdep hfree
        exact .inr ⟨wanted_no rfl rfl x20 rfl, fun _ _ => rfl⟩
      · intro a W hd hS hdep hfree
        have x20 : a.tmps.getD 20 undef = .bool false := hdep 17 20 rfl rfl
        clear hd hdep hfree
        exact .inr ⟨wanted_no rfl rfl x20 rfl, fun _ _ => rfl⟩
      · intro a W hd hS hdep hfree
        have x20 : a.tmps.getD 20 undef = .bool false := hdep 17 20 rfl rfl
        have x27 : a.tmps.getD 27 undef = undef := hdep 24 27 rfl rfl
        clear hd hdep hfree
        refine .inl ⟨wanted_free rfl, ?_⟩
        simp only [Oper.wp, execOp]
        go_simp
        refine Nxt.mk _ rfl (fun _ _ => ?_) hS (fun _ _ h => h)
        rfl
      · intro a W hd hS hdep hfree
        have x28 : a.tmps.getD 28 undef = .bool false := hdep 25 28 rfl rfl
        clear hd hdep hfree
        refine .inl ⟨wanted_free rfl, ?_⟩
        simp only [Oper.wp, execOp]
        go_simp
        refine Nxt.mk _ rfl (fun _ _ => ?_) hS (fun _ _ h => h)
        rfl
      · intro a W hd hS hdep hfree
        have x29 : a.tmps.getD 29 undef = .bool false := hdep 26 29 rfl rfl
        clear hd hdep hfree
        exact .inr ⟨wanted_no rfl rfl x29 rfl, fun _ _ => rfl⟩
      · intro a W hd hS hdep hfree
        have x29 : a.tmps.getD 29 undef = .bool false := hdep 26 29 rfl rfl
        clear hd hdep hfree
        exact .inr ⟨wanted_no rfl rfl x29 rfl, fun _ _ => rfl⟩
      · intro a W hd hS hdep hfree
        have x29 : a.tmps.getD 29 undef = .bool false := hdep 26 29 rfl rfl
        clear hd hdep hfree
        exact .inr ⟨wanted_no rfl rfl x29 rfl, fun _ _ => rfl⟩
      · intro a W hd hS hdep hfree
        have x29 : a.tmps.getD 29 undef = .bool false := hdep 26 29 rfl rfl
        clear hd hdep hfree
        exact .inr ⟨wanted_no rfl rfl x29 rfl, fun _ _ => rfl⟩
      · intro a W hd hS hdep hfree
        have x29 : a.tmps.getD 29 undef = .bool false := hdep 26 29 rfl rfl
        clear hd hdep hfree
        exact .inr ⟨wanted_no rfl rfl x29 rfl, fun _ _ => rfl⟩
      · intro a W hd hS hdep hfree
        have x29 : a.tmps.getD 29 undef = .bool false := hdep 26 29 rfl rfl
        have x34 : a.tmps.getD 34 undef = undef := hdep 31 34 rfl rfl
        clear hd hdep hfree
        refine .inl ⟨wanted_free rfl, ?_⟩
        simp only [Oper.wp, execOp]
        go_simp
        refine Nxt.mk _ rfl (fun _ _ => ?_) hS (fun _ _ h => h)
        rfl
      · intro a W hd hS hdep hfree
        have x35 : a.tmps.getD 35 undef = .bool false := hdep 32 35 rfl rfl
        clear hd hdep hfree
        refine .inl ⟨wanted_free rfl, ?_⟩
        simp only [Oper.wp, execOp]
        go_simp
        refine Nxt.mk _ rfl (fun _ _ => ?_) hS (fun _ _ h => h)
        rfl
    intro a W2 hs hd hS2 hdone hrest
    have ea := written_all ((.pointer (some ⟨w.heap.size, 0, none⟩) : Value) :: (.int .i64 base : Value) :: (.bool true : Value) :: (.bool true : Value) :: (.pointer (some ⟨w.heap.size, 1, none⟩) : Value) :: (.int .i64 size : Value) :: (.bool true : Value) :: (.bool true : Value) :: (.bool true : Value) :: (.pointer (some ⟨w.heap.size, 2, none⟩) : Value) :: (.int .i64 head : Value) :: (.pointer (some ⟨w.heap.size, 1, none⟩) : Value) :: (.int .i64 size : Value) :: (.int .i64 (2 * size) : Value) :: (.int .i64 ((2 * size) - 1) : Value) :: (.bool false : Value) :: (.bool false : Value) :: (.bool false : Value) :: undef :: undef :: undef :: undef :: undef :: undef :: undef :: (.bool false : Value) :: (.bool false : Value) :: undef :: undef :: undef :: undef :: undef :: (.bool false : Value) :: (.bool false : Value) :: ([] : List Value)) rfl hs hd hrest hdone
    clear hs hd hdone hrest
    subst ea
    simp only [written, List.map_cons, List.map_nil, List.zip_cons_cons, List.zip_nil_right, putAll]
    simp only [Exit.then, Act.put, List.setIfInBounds_toArray, List.set_cons_zero, List.set_cons_succ]
    go_wp2
    go_ret
    refine ⟨ret_bool ?_, below_comp hb1 hS2⟩
    exact (decide_eq_false (fun hh => c2 hh.2.2.1)).symm
  by_cases c3 : 0 ≤ tail ∧ tail ≤ 2 * size - 1
  case neg =>
    refine wp_region_valuesG (by kernel_rfl) (fun W => Below w1.heap.size w1 W) (Vals ((.pointer (some ⟨w.heap.size, 0, none⟩) : Value) :: (.int .i64 base : Value) :: (.bool true : Value) :: (.bool true : Value) :: (.pointer (some ⟨w.heap.size, 1, none⟩) : Value) :: (.int .i64 size : Value) :: (.bool true : Value) :: (.bool true : Value) :: (.bool true : Value) :: (.pointer (some ⟨w.heap.size, 2, none⟩) : Value) :: (.int .i64 head : Value) :: (.pointer (some ⟨w.heap.size, 1, none⟩) : Value) :: (.int .i64 size : Value) :: (.int .i64 (2 * size) : Value) :: (.int .i64 ((2 * size) - 1) : Value) :: (.bool true : Value) :: (.bool true : Value) :: (.bool true : Value) :: (.pointer (some ⟨w.heap.size, 3, none⟩) : Value) :: (.int .i64 tail : Value) :: (.pointer (some ⟨w.heap.size, 1, none⟩) : Value) :: (.int .i64 size : Value) :: (.int .i64 (2 * size) : Value) :: (.int .i64 ((2 * size) - 1) : Value) :: (.bool false : Value) :: (.bool false : Value) :: (.bool false : Value) :: undef :: undef :: undef :: undef :: undef :: (.bool false : Value) :: (.bool false : Value) :: ([] : List Value)) [])
      36 rfl (by kernel_rfl) (by kernel_rfl) below_drew (eachOp_all ?_) ?_
    · refine ⟨?_, ?_, ?_, ?_, ?_, ?_, ?_, ?_, ?_, ?_, ?_, ?_, ?_, ?_, ?_, ?_, ?_, ?_, ?_, ?_, ?_, ?_, ?_, ?_, ?_, ?_, ?_, ?_, ?_, ?_, ?_, ?_, ?_, ?_, trivial⟩
      · intro a W hd hS hdep hfree
        have x1 : a.tmps.getD 1 undef = .pointer (some ⟨w.heap.size, 0, none⟩) := hfree 1 rfl
        clear hd hdep hfree
        refine .inl ⟨wanted_free rfl, ?_⟩
        simp only [Oper.wp, execOp]
        go_simp
        refine Nxt.mk _ rfl (fun _ _ => ?_) hS (fun _ _ h => h)
        rfl
      · intro a W hd hS hdep hfree
        have x3 : a.tmps.getD 3 undef = .pointer (some ⟨w.heap.size, 0, none⟩) := hdep 0 3 rfl rfl
        clear hd hdep hfree
        refine .inl ⟨wanted_free rfl, ?_⟩
        have c : W.cell? ⟨w.heap.size, 0, none⟩ = some (.int .i64 base) := (HB1.out.below hS hg1).cell 0 (by simp)
        simp only [Oper.wp, execOp]
        go_simp
        refine Nxt.mk _ rfl (fun _ _ => ?_) hS (fun _ _ h => h)
        rfl
      · intro a W hd hS hdep hfree
        have x4 : a.tmps.getD 4 undef = .int .i64 base := hdep 1 4 rfl rfl
        clear hd hdep hfree
        refine .inl ⟨wanted_free rfl, ?_⟩
        simp only [Oper.wp, execOp]
        go_simp
        refine ((ins_yes _ _ _ W c0)).mono ?_
        rintro e W' ⟨rfl, hb⟩
        exact Nxt.mk _ rfl (fun _ _ => rfl) (below_comp hS hb) (fun j u h => Vals.below hb j u h)
      · intro a W hd hS hdep hfree
        have x5 : a.tmps.getD 5 undef = .bool true := hdep 2 5 rfl rfl
        clear hd hdep hfree
        refine .inl ⟨wanted_free rfl, ?_⟩
        simp only [Oper.wp, execOp]
        go_simp
        refine Nxt.mk _ rfl (fun _ _ => ?_) hS (fun _ _ h => h)
        rfl
      · intro a W hd hS hdep hfree
        have x6 : a.tmps.getD 6 undef = .bool true := hdep 3 6 rfl rfl
        have x1 : a.tmps.getD 1 undef = .pointer (some ⟨w.heap.size, 0, none⟩) := hfree 1 rfl
        clear hd hdep hfree
        refine .inl ⟨wanted_yes rfl rfl x6, ?_⟩
        simp only [Oper.wp, execOp]
        go_simp
        refine Nxt.mk _ rfl (fun _ _ => ?_) hS (fun _ _ h => h)
        rfl
      · intro a W hd hS hdep hfree
        have x6 : a.tmps.getD 6 undef = .bool true := hdep 3 6 rfl rfl
        have x7 : a.tmps.getD 7 undef = .pointer (some ⟨w.heap.size, 1, none⟩) := hdep 4 7 rfl rfl
        clear hd hdep hfree
        refine .inl ⟨wanted_yes rfl rfl x6, ?_⟩
        have c : W.cell? ⟨w.heap.size, 1, none⟩ = some (.int .i64 size) := (HB1.out.below hS hg1).cell 1 (by simp)
        simp only [Oper.wp, execOp]
        go_simp
        refine Nxt.mk _ rfl (fun _ _ => ?_) hS (fun _ _ h => h)
        rfl
      · intro a W hd hS hdep hfree
        have x6 : a.tmps.getD 6 undef = .bool true := hdep 3 6 rfl rfl
        have x8 : a.tmps.getD 8 undef = .int .i64 size := hdep 5 8 rfl rfl
        clear hd hdep hfree
        refine .inl ⟨wanted_yes rfl rfl x6, ?_⟩
        simp only [Oper.wp, execOp]
        go_simp
        refine ((size_yes _ W c1)).mono ?_
        rintro e W' ⟨rfl, hb⟩
        exact Nxt.mk _ rfl (fun _ _ => rfl) (below_comp hS hb) (fun j u h => Vals.below hb j u h)
      · intro a W hd hS hdep hfree
        have x6 : a.tmps.getD 6 undef = .bool true := hdep 3 6 rfl rfl
        have x9 : a.tmps.getD 9 undef = .bool true := hdep 6 9 rfl rfl
        clear hd hdep hfree
        refine .inl ⟨wanted_free rfl, ?_⟩
        simp only [Oper.wp, execOp]
        go_simp
        refine Nxt.mk _ rfl (fun _ _ => ?_) hS (fun _ _ h => h)
        rfl
      · intro a W hd hS hdep hfree
        have x10 : a.tmps.getD 10 undef = .bool true := hdep 7 10 rfl rfl
        clear hd hdep hfree
        refine .inl ⟨wanted_free rfl, ?_⟩
        simp only [Oper.wp, execOp]
        go_simp
        refine Nxt.mk _ rfl (fun _ _ => ?_) hS (fun _ _ h => h)
        rfl
      · intro a W hd hS hdep hfree
        have x11 : a.tmps.getD 11 undef = .bool true := hdep 8 11 rfl rfl
        have x1 : a.tmps.getD 1 undef = .pointer (some ⟨w.heap.size, 0, none⟩) := hfree 1 rfl
        clear hd hdep hfree
        refine .inl ⟨wanted_yes rfl rfl x11, ?_⟩
        simp only [Oper.wp, execOp]
        go_simp
        refine Nxt.mk _ rfl (fun _ _ => ?_) hS (fun _ _ h => h)
        rfl
      · intro a W hd hS hdep hfree
        have x11 : a.tmps.getD 11 undef = .bool true := hdep 8 11 rfl rfl
        have x12 : a.tmps.getD 12 undef = .pointer (some ⟨w.heap.size, 2, none⟩) := hdep 9 12 rfl rfl
        clear hd hdep hfree
        refine .inl ⟨wanted_yes rfl rfl x11, ?_⟩
        have c : W.cell? ⟨w.heap.size, 2, none⟩ = some (.int .i64 head) := (HB1.out.below hS hg1).cell 2 (by simp)
        simp only [Oper.wp, execOp]
        go_simp
        refine Nxt.mk _ rfl (fun _ _ => ?_) hS (fun _ _ h => h)
        rfl
      · intro a W hd hS hdep hfree
        have x11 : a.tmps.getD 11 undef = .bool true := hdep 8 11 rfl rfl
        have x1 : a.tmps.getD 1 undef = .pointer (some ⟨w.heap.size, 0, none⟩) := hfree 1 rfl
        clear hd hdep hfree
        refine .inl ⟨wanted_yes rfl rfl x11, ?_⟩
        simp only [Oper.wp, execOp]
        go_simp
        refine Nxt.mk _ rfl (fun _ _ => ?_) hS (fun _ _ h => h)
        rfl
      · intro a W hd hS hdep hfree
        have x11 : a.tmps.getD 11 undef = .bool true := hdep 8 11 rfl rfl
        have x14 : a.tmps.getD 14 undef = .pointer (some ⟨w.heap.size, 1, none⟩) := hdep 11 14 rfl rfl
        clear hd hdep hfree
        refine .inl ⟨wanted_yes rfl rfl x11, ?_⟩
        have c : W.cell? ⟨w.heap.size, 1, none⟩ = some (.int .i64 size) := (HB1.out.below hS hg1).cell 1 (by simp)
        simp only [Oper.wp, execOp]
        go_simp
        refine Nxt.mk _ rfl (fun _ _ => ?_) hS (fun _ _ h => h)
        rfl
      · intro a W hd hS hdep hfree
        have x11 : a.tmps.getD 11 undef = .bool true := hdep 8 11 rfl rfl
        have x15 : a.tmps.getD 15 undef = .int .i64 size := hdep 12 15 rfl rfl
        clear hd hdep hfree
        refine .inl ⟨wanted_yes rfl rfl x11, ?_⟩
        have k : IntKind.i64.wrap (2 * size) = 2 * size := wrap_in _ (by omega) (by omega)
        simp only [Oper.wp, execOp]
        go_simp
        refine Nxt.mk _ rfl (fun _ _ => ?_) hS (fun _ _ h => h)
        rfl
      · intro a W hd hS hdep hfree
        have x11 : a.tmps.getD 11 undef = .bool true := hdep 8 11 rfl rfl
        have x16 : a.tmps.getD 16 undef = .int .i64 (2 * size) := hdep 13 16 rfl rfl
        clear hd hdep hfree
        refine .inl ⟨wanted_yes rfl rfl x11, ?_⟩
        have k : IntKind.i64.wrap ((2 * size) - 1) = (2 * size) - 1 := wrap_in _ (by omega) (by omega)
        simp only [Oper.wp, execOp]
        go_simp
        refine Nxt.mk _ rfl (fun _ _ => ?_) hS (fun _ _ h => h)
        rfl
      · intro a W hd hS hdep hfree
        have x11 : a.tmps.getD 11 undef = .bool true := hdep 8 11 rfl rfl
        have x13 : a.tmps.getD 13 undef = .int .i64 head := hdep 10 13 rfl rfl
        have x17 : a.tmps.getD 17 undef = .int .i64 ((2 * size) - 1) := hdep 14 17 rfl rfl
        clear hd hdep hfree
        refine .inl ⟨wanted_yes rfl rfl x11, ?_⟩
        simp only [Oper.wp, execOp]
        go_simp
        refine ((ins_yes _ _ _ W c2)).mono ?_
        rintro e W' ⟨rfl, hb⟩
        exact Nxt.mk _ rfl (fun _ _ => rfl) (below_comp hS hb) (fun j u h => Vals.below hb j u h)
      · intro a W hd hS hdep hfree
        have x11 : a.tmps.getD 11 undef = .bool true := hdep 8 11 rfl rfl
        have x18 : a.tmps.getD 18 undef = .bool true := hdep 15 18 rfl rfl
        clear hd hdep hfree
        refine .inl ⟨wanted_free rfl, ?_⟩
        simp only [Oper.wp, execOp]
        go_simp
        refine Nxt.mk _ rfl (fun _ _ => ?_) hS (fun _ _ h => h)
        rfl
      · intro a W hd hS hdep hfree
        have x19 : a.tmps.getD 19 undef = .bool true := hdep 16 19 rfl rfl
        clear hd hdep hfree
        refine .inl ⟨wanted_free rfl, ?_⟩
        simp only [Oper.wp, execOp]
        go_simp
        refine Nxt.mk _ rfl (fun _ _ => ?_) hS (fun _ _ h => h)
        rfl
      · intro a W hd hS hdep hfree
        have x20 : a.tmps.getD 20 undef = .bool true := hdep 17 20 rfl rfl
        have x1 : a.tmps.getD 1 undef = .pointer (some ⟨w.heap.size, 0, none⟩) := hfree 1 rfl
        clear hd hdep hfree
        refine .inl ⟨wanted_yes rfl rfl x20, ?_⟩
        simp only [Oper.wp, execOp]
        go_simp
        refine Nxt.mk _ rfl (fun _ _ => ?_) hS (fun _ _ h => h)
        rfl
      · intro a W hd hS hdep hfree
        have x20 : a.tmps.getD 20 undef = .bool true := hdep 17 20 rfl rfl
        have x21 : a.tmps.getD 21 undef = .pointer (some ⟨w.heap.size, 3, none⟩) := hdep 18 21 rfl rfl
        clear hd hdep hfree
        refine .inl ⟨wanted_yes rfl rfl x20, ?_⟩
        have c : W.cell? ⟨w.heap.size, 3, none⟩ = some (.int .i64 tail) := (HB1.out.below hS hg1).cell 3 (by simp)
        simp only [Oper.wp, execOp]
        go_simp
        refine Nxt.mk _ rfl (fun _ _ => ?_) hS (fun _ _ h => h)
        rfl
      · intro a W hd hS hdep hfree
        have x20 : a.tmps.getD 20 undef = .bool true := hdep 17 20 rfl rfl
        have x1 : a.tmps.getD 1 undef = .pointer (some ⟨w.heap.size, 0, none⟩) := hfree 1 rfl
        clear hd hdep hfree
        refine .inl ⟨wanted_yes rfl rfl x20, ?_⟩
        simp only [Oper.wp, execOp]
        go_simp
        refine Nxt.mk _ rfl (fun _ _ => ?_) hS (fun _ _ h => h)
        rfl
      · intro a W hd hS hdep hfree
        have x20 : a.tmps.getD 20 undef = .bool true := hdep 17 20 rfl rfl
        have x23 : a.tmps.getD 23 undef = .pointer (some ⟨w.heap.size, 1, none⟩) := hdep 20 23 rfl rfl
        clear hd hdep hfree
        refine .inl ⟨wanted_yes rfl rfl x20, ?_⟩
        have c : W.cell? ⟨w.heap.size, 1, none⟩ = some (.int .i64 size) := (HB1.out.below hS hg1).cell 1 (by simp)
        simp only [Oper.wp, execOp]
        go_simp
        refine Nxt.mk _ rfl (fun _ _ => ?_) hS (fun _ _ h => h)
        rfl
      · intro a W hd hS hdep hfree
        have x20 : a.tmps.getD 20 undef = .bool true := hdep 17 20 rfl rfl
        have x24 : a.tmps.getD 24 undef = .int .i64 size := hdep 21 24 rfl rfl
        clear hd hdep hfree
        refine .inl ⟨wanted_yes rfl rfl x20, ?_⟩
        have k : IntKind.i64.wrap (2 * size) = 2 * size := wrap_in _ (by omega) (by omega)
        simp only [Oper.wp, execOp]
        go_simp
        refine Nxt.mk _ rfl (fun _ _ => ?_) hS (fun _ _ h => h)
        rfl
      · intro a W hd hS hdep hfree
        have x20 : a.tmps.getD 20 undef = .bool true := hdep 17 20 rfl rfl
        have x25 : a.tmps.getD 25 undef = .int .i64 (2 * size) := hdep 22 25 rfl rfl
        clear hd hdep hfree
        refine .inl ⟨wanted_yes rfl rfl x20, ?_⟩
        have k : IntKind.i64.wrap ((2 * size) - 1) = (2 * size) - 1 := wrap_in _ (by omega) (by omega)
        simp only [Oper.wp, execOp]
        go_simp
        refine Nxt.mk _ rfl (fun _ _ => ?_) hS (fun _ _ h => h)
        rfl
      · intro a W hd hS hdep hfree
        have x20 : a.tmps.getD 20 undef = .bool true := hdep 17 20 rfl rfl
        have x22 : a.tmps.getD 22 undef = .int .i64 tail := hdep 19 22 rfl rfl
        have x26 : a.tmps.getD 26 undef = .int .i64 ((2 * size) - 1) := hdep 23 26 rfl rfl
        clear hd hdep hfree
        refine .inl ⟨wanted_yes rfl rfl x20, ?_⟩
        simp only [Oper.wp, execOp]
        go_simp
        refine ((ins_no _ _ _ W c3)).mono ?_
        rintro e W' ⟨rfl, hb⟩
        exact Nxt.mk _ rfl (fun _ _ => rfl) (below_comp hS hb) (fun j u h => Vals.below hb j u h)
      · intro a W hd hS hdep hfree
        have x20 : a.tmps.getD 20 undef = .bool true := hdep 17 20 rfl rfl
        have x27 : a.tmps.getD 27 undef = .bool false := hdep 24 27 rfl rfl
        clear hd hdep hfree
        refine .inl ⟨wanted_free rfl, ?_⟩
        simp only [Oper.wp, execOp]
        go_simp
        refine Nxt.mk _ rfl (fun _ _ => ?_) hS (fun _ _ h => h)
        rfl
      · intro a W hd hS hdep hfree
        have x28 : a.tmps.getD 28 undef = .bool false := hdep 25 28 rfl rfl
        clear hd hdep hfree
        refine .inl ⟨wanted_free rfl, ?_⟩
        simp only [Oper.wp, execOp]
        go_simp
        refine Nxt.mk _ rfl (fun _ _ => ?_) hS (fun _ _ h => h)
        rfl
      · intro a W hd hS hdep hfree
        have x29 : a.tmps.getD 29 undef = .bool false := hdep 26 29 rfl rfl
        clear hd hdep hfree
        exact .inr ⟨wanted_no rfl rfl x29 rfl, fun _ _ => rfl⟩
      · intro a W hd hS hdep hfree
        have x29 : a.tmps.getD 29 undef = .bool false := hdep 26 29 rfl rfl
        clear hd hdep hfree
        exact .inr ⟨wanted_no rfl rfl x29 rfl, fun _ _ => rfl⟩
      · intro a W hd hS hdep hfree
        have x29 : a.tmps.getD 29 undef = .bool false := hdep 26 29 rfl rfl
        clear hd hdep hfree
        exact .inr ⟨wanted_no rfl rfl x29 rfl, fun _ _ => rfl⟩
      · intro a W hd hS hdep hfree
        have x29 : a.tmps.getD 29 undef = .bool false := hdep 26 29 rfl rfl
        clear hd hdep hfree
        exact .inr ⟨wanted_no rfl rfl x29 rfl, fun _ _ => rfl⟩
      · intro a W hd hS hdep hfree
        have x29 : a.tmps.getD 29 undef = .bool false := hdep 26 29 rfl rfl
        clear hd hdep hfree
        exact .inr ⟨wanted_no rfl rfl x29 rfl, fun _ _ => rfl⟩
      · intro a W hd hS hdep hfree
        have x29 : a.tmps.getD 29 undef = .bool false := hdep 26 29 rfl rfl
        have x34 : a.tmps.getD 34 undef = undef := hdep 31 34 rfl rfl
        clear hd hdep hfree
        refine .inl ⟨wanted_free rfl, ?_⟩
        simp only [Oper.wp, execOp]
        go_simp
        refine Nxt.mk _ rfl (fun _ _ => ?_) hS (fun _ _ h => h)
        rfl
      · intro a W hd hS hdep hfree
        have x35 : a.tmps.getD 35 undef = .bool false := hdep 32 35 rfl rfl
        clear hd hdep hfree
        refine .inl ⟨wanted_free rfl, ?_⟩
        simp only [Oper.wp, execOp]
        go_simp
        refine Nxt.mk _ rfl (fun _ _ => ?_) hS (fun _ _ h => h)
        rfl
    intro a W2 hs hd hS2 hdone hrest
    have ea := written_all ((.pointer (some ⟨w.heap.size, 0, none⟩) : Value) :: (.int .i64 base : Value) :: (.bool true : Value) :: (.bool true : Value) :: (.pointer (some ⟨w.heap.size, 1, none⟩) : Value) :: (.int .i64 size : Value) :: (.bool true : Value) :: (.bool true : Value) :: (.bool true : Value) :: (.pointer (some ⟨w.heap.size, 2, none⟩) : Value) :: (.int .i64 head : Value) :: (.pointer (some ⟨w.heap.size, 1, none⟩) : Value) :: (.int .i64 size : Value) :: (.int .i64 (2 * size) : Value) :: (.int .i64 ((2 * size) - 1) : Value) :: (.bool true : Value) :: (.bool true : Value) :: (.bool true : Value) :: (.pointer (some ⟨w.heap.size, 3, none⟩) : Value) :: (.int .i64 tail : Value) :: (.pointer (some ⟨w.heap.size, 1, none⟩) : Value) :: (.int .i64 size : Value) :: (.int .i64 (2 * size) : Value) :: (.int .i64 ((2 * size) - 1) : Value) :: (.bool false : Value) :: (.bool false : Value) :: (.bool false : Value) :: undef :: undef :: undef :: undef :: undef :: (.bool false : Value) :: (.bool false : Value) :: ([] : List Value)) rfl hs hd hrest hdone
    clear hs hd hdone hrest
    subst ea
    simp only [written, List.map_cons, List.map_nil, List.zip_cons_cons, List.zip_nil_right, putAll]
    simp only [Exit.then, Act.put, List.setIfInBounds_toArray, List.set_cons_zero, List.set_cons_succ]
    go_wp2
    go_ret
    refine ⟨ret_bool ?_, below_comp hb1 hS2⟩
    exact (decide_eq_false (fun hh => c3 hh.2.2.2.1)).symm
  refine wp_region_valuesG (by kernel_rfl) (fun W => Below w1.heap.size w1 W) (Vals ((.pointer (some ⟨w.heap.size, 0, none⟩) : Value) :: (.int .i64 base : Value) :: (.bool true : Value) :: (.bool true : Value) :: (.pointer (some ⟨w.heap.size, 1, none⟩) : Value) :: (.int .i64 size : Value) :: (.bool true : Value) :: (.bool true : Value) :: (.bool true : Value) :: (.pointer (some ⟨w.heap.size, 2, none⟩) : Value) :: (.int .i64 head : Value) :: (.pointer (some ⟨w.heap.size, 1, none⟩) : Value) :: (.int .i64 size : Value) :: (.int .i64 (2 * size) : Value) :: (.int .i64 ((2 * size) - 1) : Value) :: (.bool true : Value) :: (.bool true : Value) :: (.bool true : Value) :: (.pointer (some ⟨w.heap.size, 3, none⟩) : Value) :: (.int .i64 tail : Value) :: (.pointer (some ⟨w.heap.size, 1, none⟩) : Value) :: (.int .i64 size : Value) :: (.int .i64 (2 * size) : Value) :: (.int .i64 ((2 * size) - 1) : Value) :: (.bool true : Value) :: (.bool true : Value) :: (.bool true : Value) :: (.agg #[.int .i64 base, .int .i64 size, .int .i64 head, .int .i64 tail] : Value) :: (.int .i64 (usedOf size head tail) : Value) :: (.pointer (some ⟨w.heap.size, 1, none⟩) : Value) :: (.int .i64 size : Value) :: (.bool (decide (usedOf size head tail ≤ size)) : Value) :: (.bool (decide (usedOf size head tail ≤ size)) : Value) :: (.bool (decide (usedOf size head tail ≤ size)) : Value) :: ([] : List Value)) [])
    36 rfl (by kernel_rfl) (by kernel_rfl) below_drew (eachOp_all ?_) ?_
  · refine ⟨?_, ?_, ?_, ?_, ?_, ?_, ?_, ?_, ?_, ?_, ?_, ?_, ?_, ?_, ?_, ?_, ?_, ?_, ?_, ?_, ?_, ?_, ?_, ?_, ?_, ?_, ?_, ?_, ?_, ?_, ?_, ?_, ?_, ?_, trivial⟩
    · intro a W hd hS hdep hfree
      have x1 : a.tmps.getD 1 undef = .pointer (some ⟨w.heap.size, 0, none⟩) := hfree 1 rfl
      clear hd hdep hfree
      refine .inl ⟨wanted_free rfl, ?_⟩
      simp only [Oper.wp, execOp]
      go_simp
      refine Nxt.mk _ rfl (fun _ _ => ?_) hS (fun _ _ h => h)
      rfl
    · intro a W hd hS hdep hfree
      have x3 : a.tmps.getD 3 undef = .pointer (some ⟨w.heap.size, 0, none⟩) := hdep 0 3 rfl rfl
      clear hd hdep hfree
      refine .inl ⟨wanted_free rfl, ?_⟩
      have c : W.cell? ⟨w.heap.size, 0, none⟩ = some (.int .i64 base) := (HB1.out.below hS hg1).cell 0 (by simp)
      simp only [Oper.wp, execOp]
      go_simp
      refine Nxt.mk _ rfl (fun _ _ => ?_) hS (fun _ _ h => h)
      rfl
    · intro a W hd hS hdep hfree
      have x4 : a.tmps.getD 4 undef = .int .i64 base := hdep 1 4 rfl rfl
      clear hd hdep hfree
      refine .inl ⟨wanted_free rfl, ?_⟩
      simp only [Oper.wp, execOp]
      go_simp
      refine ((ins_yes _ _ _ W c0)).mono ?_
      rintro e W' ⟨rfl, hb⟩
      exact Nxt.mk _ rfl (fun _ _ => rfl) (below_comp hS hb) (fun j u h => Vals.below hb j u h)
    · intro a W hd hS hdep hfree
      have x5 : a.tmps.getD 5 undef = .bool true := hdep 2 5 rfl rfl
      clear hd hdep hfree
      refine .inl ⟨wanted_free rfl, ?_⟩
      simp only [Oper.wp, execOp]
      go_simp
      refine Nxt.mk _ rfl (fun _ _ => ?_) hS (fun _ _ h => h)
      rfl
    · intro a W hd hS hdep hfree
      have x6 : a.tmps.getD 6 undef = .bool true := hdep 3 6 rfl rfl
      have x1 : a.tmps.getD 1 undef = .pointer (some ⟨w.heap.size, 0, none⟩) := hfree 1 rfl
      clear hd hdep hfree
      refine .inl ⟨wanted_yes rfl rfl x6, ?_⟩
      simp only [Oper.wp, execOp]
      go_simp
      refine Nxt.mk _ rfl (fun _ _ => ?_) hS (fun _ _ h => h)
      rfl
    · intro a W hd hS hdep hfree
      have x6 : a.tmps.getD 6 undef = .bool true := hdep 3 6 rfl rfl
      have x7 : a.tmps.getD 7 undef = .pointer (some ⟨w.heap.size, 1, none⟩) := hdep 4 7 rfl rfl
      clear hd hdep hfree
      refine .inl ⟨wanted_yes rfl rfl x6, ?_⟩
      have c : W.cell? ⟨w.heap.size, 1, none⟩ = some (.int .i64 size) := (HB1.out.below hS hg1).cell 1 (by simp)
      simp only [Oper.wp, execOp]
      go_simp
      refine Nxt.mk _ rfl (fun _ _ => ?_) hS (fun _ _ h => h)
      rfl
    · intro a W hd hS hdep hfree
      have x6 : a.tmps.getD 6 undef = .bool true := hdep 3 6 rfl rfl
      have x8 : a.tmps.getD 8 undef = .int .i64 size := hdep 5 8 rfl rfl
      clear hd hdep hfree
      refine .inl ⟨wanted_yes rfl rfl x6, ?_⟩
      simp only [Oper.wp, execOp]
      go_simp
      refine ((size_yes _ W c1)).mono ?_
      rintro e W' ⟨rfl, hb⟩
      exact Nxt.mk _ rfl (fun _ _ => rfl) (below_comp hS hb) (fun j u h => Vals.below hb j u h)
    · intro a W hd hS hdep hfree
      have x6 : a.tmps.getD 6 undef = .bool true := hdep 3 6 rfl rfl
      have x9 : a.tmps.getD 9 undef = .bool true := hdep 6 9 rfl rfl
      clear hd hdep hfree
      refine .inl ⟨wanted_free rfl, ?_⟩
      simp only [Oper.wp, execOp]
      go_simp
      refine Nxt.mk _ rfl (fun _ _ => ?_) hS (fun _ _ h => h)
      rfl
    · intro a W hd hS hdep hfree
      have x10 : a.tmps.getD 10 undef = .bool true := hdep 7 10 rfl rfl
      clear hd hdep hfree
      refine .inl ⟨wanted_free rfl, ?_⟩
      simp only [Oper.wp, execOp]
      go_simp
      refine Nxt.mk _ rfl (fun _ _ => ?_) hS (fun _ _ h => h)
      rfl
    · intro a W hd hS hdep hfree
      have x11 : a.tmps.getD 11 undef = .bool true := hdep 8 11 rfl rfl
      have x1 : a.tmps.getD 1 undef = .pointer (some ⟨w.heap.size, 0, none⟩) := hfree 1 rfl
      clear hd hdep hfree
      refine .inl ⟨wanted_yes rfl rfl x11, ?_⟩
      simp only [Oper.wp, execOp]
      go_simp
      refine Nxt.mk _ rfl (fun _ _ => ?_) hS (fun _ _ h => h)
      rfl
    · intro a W hd hS hdep hfree
      have x11 : a.tmps.getD 11 undef = .bool true := hdep 8 11 rfl rfl
      have x12 : a.tmps.getD 12 undef = .pointer (some ⟨w.heap.size, 2, none⟩) := hdep 9 12 rfl rfl
      clear hd hdep hfree
      refine .inl ⟨wanted_yes rfl rfl x11, ?_⟩
      have c : W.cell? ⟨w.heap.size, 2, none⟩ = some (.int .i64 head) := (HB1.out.below hS hg1).cell 2 (by simp)
      simp only [Oper.wp, execOp]
      go_simp
      refine Nxt.mk _ rfl (fun _ _ => ?_) hS (fun _ _ h => h)
      rfl
    · intro a W hd hS hdep hfree
      have x11 : a.tmps.getD 11 undef = .bool true := hdep 8 11 rfl rfl
      have x1 : a.tmps.getD 1 undef = .pointer (some ⟨w.heap.size, 0, none⟩) := hfree 1 rfl
      clear hd hdep hfree
      refine .inl ⟨wanted_yes rfl rfl x11, ?_⟩
      simp only [Oper.wp, execOp]
      go_simp
      refine Nxt.mk _ rfl (fun _ _ => ?_) hS (fun _ _ h => h)
      rfl
    · intro a W hd hS hdep hfree
      have x11 : a.tmps.getD 11 undef = .bool true := hdep 8 11 rfl rfl
      have x14 : a.tmps.getD 14 undef = .pointer (some ⟨w.heap.size, 1, none⟩) := hdep 11 14 rfl rfl
      clear hd hdep hfree
      refine .inl ⟨wanted_yes rfl rfl x11, ?_⟩
      have c : W.cell? ⟨w.heap.size, 1, none⟩ = some (.int .i64 size) := (HB1.out.below hS hg1).cell 1 (by simp)
      simp only [Oper.wp, execOp]
      go_simp
      refine Nxt.mk _ rfl (fun _ _ => ?_) hS (fun _ _ h => h)
      rfl
    · intro a W hd hS hdep hfree
      have x11 : a.tmps.getD 11 undef = .bool true := hdep 8 11 rfl rfl
      have x15 : a.tmps.getD 15 undef = .int .i64 size := hdep 12 15 rfl rfl
      clear hd hdep hfree
      refine .inl ⟨wanted_yes rfl rfl x11, ?_⟩
      have k : IntKind.i64.wrap (2 * size) = 2 * size := wrap_in _ (by omega) (by omega)
      simp only [Oper.wp, execOp]
      go_simp
      refine Nxt.mk _ rfl (fun _ _ => ?_) hS (fun _ _ h => h)
      rfl
    · intro a W hd hS hdep hfree
      have x11 : a.tmps.getD 11 undef = .bool true := hdep 8 11 rfl rfl
      have x16 : a.tmps.getD 16 undef = .int .i64 (2 * size) := hdep 13 16 rfl rfl
      clear hd hdep hfree
      refine .inl ⟨wanted_yes rfl rfl x11, ?_⟩
      have k : IntKind.i64.wrap ((2 * size) - 1) = (2 * size) - 1 := wrap_in _ (by omega) (by omega)
      simp only [Oper.wp, execOp]
      go_simp
      refine Nxt.mk _ rfl (fun _ _ => ?_) hS (fun _ _ h => h)
      rfl
    · intro a W hd hS hdep hfree
      have x11 : a.tmps.getD 11 undef = .bool true := hdep 8 11 rfl rfl
      have x13 : a.tmps.getD 13 undef = .int .i64 head := hdep 10 13 rfl rfl
      have x17 : a.tmps.getD 17 undef = .int .i64 ((2 * size) - 1) := hdep 14 17 rfl rfl
      clear hd hdep hfree
      refine .inl ⟨wanted_yes rfl rfl x11, ?_⟩
      simp only [Oper.wp, execOp]
      go_simp
      refine ((ins_yes _ _ _ W c2)).mono ?_
      rintro e W' ⟨rfl, hb⟩
      exact Nxt.mk _ rfl (fun _ _ => rfl) (below_comp hS hb) (fun j u h => Vals.below hb j u h)
    · intro a W hd hS hdep hfree
      have x11 : a.tmps.getD 11 undef = .bool true := hdep 8 11 rfl rfl
      have x18 : a.tmps.getD 18 undef = .bool true := hdep 15 18 rfl rfl
      clear hd hdep hfree
      refine .inl ⟨wanted_free rfl, ?_⟩
      simp only [Oper.wp, execOp]
      go_simp
      refine Nxt.mk _ rfl (fun _ _ => ?_) hS (fun _ _ h => h)
      rfl
    · intro a W hd hS hdep hfree
      have x19 : a.tmps.getD 19 undef = .bool true := hdep 16 19 rfl rfl
      clear hd hdep hfree
      refine .inl ⟨wanted_free rfl, ?_⟩
      simp only [Oper.wp, execOp]
      go_simp
      refine Nxt.mk _ rfl (fun _ _ => ?_) hS (fun _ _ h => h)
      rfl
    · intro a W hd hS hdep hfree
      have x20 : a.tmps.getD 20 undef = .bool true := hdep 17 20 rfl rfl
      have x1 : a.tmps.getD 1 undef = .pointer (some ⟨w.heap.size, 0, none⟩) := hfree 1 rfl
      clear hd hdep hfree
      refine .inl ⟨wanted_yes rfl rfl x20, ?_⟩
      simp only [Oper.wp, execOp]
      go_simp
      refine Nxt.mk _ rfl (fun _ _ => ?_) hS (fun _ _ h => h)
      rfl
    · intro a W hd hS hdep hfree
      have x20 : a.tmps.getD 20 undef = .bool true := hdep 17 20 rfl rfl
      have x21 : a.tmps.getD 21 undef = .pointer (some ⟨w.heap.size, 3, none⟩) := hdep 18 21 rfl rfl
      clear hd hdep hfree
      refine .inl ⟨wanted_yes rfl rfl x20, ?_⟩
      have c : W.cell? ⟨w.heap.size, 3, none⟩ = some (.int .i64 tail) := (HB1.out.below hS hg1).cell 3 (by simp)
      simp only [Oper.wp, execOp]
      go_simp
      refine Nxt.mk _ rfl (fun _ _ => ?_) hS (fun _ _ h => h)
      rfl
    · intro a W hd hS hdep hfree
      have x20 : a.tmps.getD 20 undef = .bool true := hdep 17 20 rfl rfl
      have x1 : a.tmps.getD 1 undef = .pointer (some ⟨w.heap.size, 0, none⟩) := hfree 1 rfl
      clear hd hdep hfree
      refine .inl ⟨wanted_yes rfl rfl x20, ?_⟩
      simp only [Oper.wp, execOp]
      go_simp
      refine Nxt.mk _ rfl (fun _ _ => ?_) hS (fun _ _ h => h)
      rfl
    · intro a W hd hS hdep hfree
      have x20 : a.tmps.getD 20 undef = .bool true := hdep 17 20 rfl rfl
      have x23 : a.tmps.getD 23 undef = .pointer (some ⟨w.heap.size, 1, none⟩) := hdep 20 23 rfl rfl
      clear hd hdep hfree
      refine .inl ⟨wanted_yes rfl rfl x20, ?_⟩
      have c : W.cell? ⟨w.heap.size, 1, none⟩ = some (.int .i64 size) := (HB1.out.below hS hg1).cell 1 (by simp)
      simp only [Oper.wp, execOp]
      go_simp
      refine Nxt.mk _ rfl (fun _ _ => ?_) hS (fun _ _ h => h)
      rfl
    · intro a W hd hS hdep hfree
      have x20 : a.tmps.getD 20 undef = .bool true := hdep 17 20 rfl rfl
      have x24 : a.tmps.getD 24 undef = .int .i64 size := hdep 21 24 rfl rfl
      clear hd hdep hfree
      refine .inl ⟨wanted_yes rfl rfl x20, ?_⟩
      have k : IntKind.i64.wrap (2 * size) = 2 * size := wrap_in _ (by omega) (by omega)
      simp only [Oper.wp, execOp]
      go_simp
      refine Nxt.mk _ rfl (fun _ _ => ?_) hS (fun _ _ h => h)
      rfl
    · intro a W hd hS hdep hfree
      have x20 : a.tmps.getD 20 undef = .bool true := hdep 17 20 rfl rfl
      have x25 : a.tmps.getD 25 undef = .int .i64 (2 * size) := hdep 22 25 rfl rfl
      clear hd hdep hfree
      refine .inl ⟨wanted_yes rfl rfl x20, ?_⟩
      have k : IntKind.i64.wrap ((2 * size) - 1) = (2 * size) - 1 := wrap_in _ (by omega) (by omega)
      simp only [Oper.wp, execOp]
      go_simp
      refine Nxt.mk _ rfl (fun _ _ => ?_) hS (fun _ _ h => h)
      rfl
    · intro a W hd hS hdep hfree
      have x20 : a.tmps.getD 20 undef = .bool true := hdep 17 20 rfl rfl
      have x22 : a.tmps.getD 22 undef = .int .i64 tail := hdep 19 22 rfl rfl
      have x26 : a.tmps.getD 26 undef = .int .i64 ((2 * size) - 1) := hdep 23 26 rfl rfl
      clear hd hdep hfree
      refine .inl ⟨wanted_yes rfl rfl x20, ?_⟩
      simp only [Oper.wp, execOp]
      go_simp
      refine ((ins_yes _ _ _ W c3)).mono ?_
      rintro e W' ⟨rfl, hb⟩
      exact Nxt.mk _ rfl (fun _ _ => rfl) (below_comp hS hb) (fun j u h => Vals.below hb j u h)
    · intro a W hd hS hdep hfree
      have x20 : a.tmps.getD 20 undef = .bool true := hdep 17 20 rfl rfl
      have x27 : a.tmps.getD 27 undef = .bool true := hdep 24 27 rfl rfl
      clear hd hdep hfree
      refine .inl ⟨wanted_free rfl, ?_⟩
      simp only [Oper.wp, execOp]
      go_simp
      refine Nxt.mk _ rfl (fun _ _ => ?_) hS (fun _ _ h => h)
      rfl
    · intro a W hd hS hdep hfree
      have x28 : a.tmps.getD 28 undef = .bool true := hdep 25 28 rfl rfl
      clear hd hdep hfree
      refine .inl ⟨wanted_free rfl, ?_⟩
      simp only [Oper.wp, execOp]
      go_simp
      refine Nxt.mk _ rfl (fun _ _ => ?_) hS (fun _ _ h => h)
      rfl
    · intro a W hd hS hdep hfree
      have x29 : a.tmps.getD 29 undef = .bool true := hdep 26 29 rfl rfl
      have x1 : a.tmps.getD 1 undef = .pointer (some ⟨w.heap.size, 0, none⟩) := hfree 1 rfl
      clear hd hdep hfree
      refine .inl ⟨wanted_yes rfl rfl x29, ?_⟩
      have c0 : W.cell? ⟨w.heap.size, 0, none⟩ = some (.int .i64 base) := (HB1.out.below hS hg1).cell 0 (by simp)
      have c1 : W.cell? ⟨w.heap.size, 1, none⟩ = some (.int .i64 size) := (HB1.out.below hS hg1).cell 1 (by simp)
      have c2 : W.cell? ⟨w.heap.size, 2, none⟩ = some (.int .i64 head) := (HB1.out.below hS hg1).cell 2 (by simp)
      have c3 : W.cell? ⟨w.heap.size, 3, none⟩ = some (.int .i64 tail) := (HB1.out.below hS hg1).cell 3 (by simp)
      simp only [Oper.wp, execOp]
      go_simp
      refine Nxt.mk _ rfl (fun _ _ => ?_) hS (fun _ _ h => h)
      rfl
    · intro a W hd hS hdep hfree
      have x29 : a.tmps.getD 29 undef = .bool true := hdep 26 29 rfl rfl
      have x30 : a.tmps.getD 30 undef = .agg #[.int .i64 base, .int .i64 size, .int .i64 head, .int .i64 tail] := hdep 27 30 rfl rfl
      clear hd hdep hfree
      refine .inl ⟨wanted_yes rfl rfl x29, ?_⟩
      simp only [Oper.wp, execOp]
      go_simp
      refine (spec_ringused base size head tail W).mono ?_
      rintro e W' ⟨rfl, hb⟩
      exact Nxt.mk _ rfl (fun _ _ => rfl) (below_comp hS hb) (fun j u h => Vals.below hb j u h)
    · intro a W hd hS hdep hfree
      have x29 : a.tmps.getD 29 undef = .bool true := hdep 26 29 rfl rfl
      have x1 : a.tmps.getD 1 undef = .pointer (some ⟨w.heap.size, 0, none⟩) := hfree 1 rfl
      clear hd hdep hfree
      refine .inl ⟨wanted_yes rfl rfl x29, ?_⟩
      simp only [Oper.wp, execOp]
      go_simp
      refine Nxt.mk _ rfl (fun _ _ => ?_) hS (fun _ _ h => h)
      rfl
    · intro a W hd hS hdep hfree
      have x29 : a.tmps.getD 29 undef = .bool true := hdep 26 29 rfl rfl
      have x32 : a.tmps.getD 32 undef = .pointer (some ⟨w.heap.size, 1, none⟩) := hdep 29 32 rfl rfl
      clear hd hdep hfree
      refine .inl ⟨wanted_yes rfl rfl x29, ?_⟩
      have c : W.cell? ⟨w.heap.size, 1, none⟩ = some (.int .i64 size) := (HB1.out.below hS hg1).cell 1 (by simp)
      simp only [Oper.wp, execOp]
      go_simp
      refine Nxt.mk _ rfl (fun _ _ => ?_) hS (fun _ _ h => h)
      rfl
    · intro a W hd hS hdep hfree
      have x29 : a.tmps.getD 29 undef = .bool true := hdep 26 29 rfl rfl
      have x31 : a.tmps.getD 31 undef = .int .i64 (usedOf size head tail) := hdep 28 31 rfl rfl
      have x33 : a.tmps.getD 33 undef = .int .i64 size := hdep 30 33 rfl rfl
      clear hd hdep hfree
      refine .inl ⟨wanted_yes rfl rfl x29, ?_⟩
      simp only [Oper.wp, execOp]
      go_simp
      refine Nxt.mk _ rfl (fun _ _ => ?_) hS (fun _ _ h => h)
      first | rfl | (show (_ : Value) = _; simp)
    · intro a W hd hS hdep hfree
      have x29 : a.tmps.getD 29 undef = .bool true := hdep 26 29 rfl rfl
      have x34 : a.tmps.getD 34 undef = .bool (decide (usedOf size head tail ≤ size)) := hdep 31 34 rfl rfl
      clear hd hdep hfree
      refine .inl ⟨wanted_free rfl, ?_⟩
      simp only [Oper.wp, execOp]
      go_simp
      refine Nxt.mk _ rfl (fun _ _ => ?_) hS (fun _ _ h => h)
      rfl
    · intro a W hd hS hdep hfree
      have x35 : a.tmps.getD 35 undef = .bool (decide (usedOf size head tail ≤ size)) := hdep 32 35 rfl rfl
      clear hd hdep hfree
      refine .inl ⟨wanted_free rfl, ?_⟩
      simp only [Oper.wp, execOp]
      go_simp
      refine Nxt.mk _ rfl (fun _ _ => ?_) hS (fun _ _ h => h)
      rfl
  intro a W2 hs hd hS2 hdone hrest
  have ea := written_all ((.pointer (some ⟨w.heap.size, 0, none⟩) : Value) :: (.int .i64 base : Value) :: (.bool true : Value) :: (.bool true : Value) :: (.pointer (some ⟨w.heap.size, 1, none⟩) : Value) :: (.int .i64 size : Value) :: (.bool true : Value) :: (.bool true : Value) :: (.bool true : Value) :: (.pointer (some ⟨w.heap.size, 2, none⟩) : Value) :: (.int .i64 head : Value) :: (.pointer (some ⟨w.heap.size, 1, none⟩) : Value) :: (.int .i64 size : Value) :: (.int .i64 (2 * size) : Value) :: (.int .i64 ((2 * size) - 1) : Value) :: (.bool true : Value) :: (.bool true : Value) :: (.bool true : Value) :: (.pointer (some ⟨w.heap.size, 3, none⟩) : Value) :: (.int .i64 tail : Value) :: (.pointer (some ⟨w.heap.size, 1, none⟩) : Value) :: (.int .i64 size : Value) :: (.int .i64 (2 * size) : Value) :: (.int .i64 ((2 * size) - 1) : Value) :: (.bool true : Value) :: (.bool true : Value) :: (.bool true : Value) :: (.agg #[.int .i64 base, .int .i64 size, .int .i64 head, .int .i64 tail] : Value) :: (.int .i64 (usedOf size head tail) : Value) :: (.pointer (some ⟨w.heap.size, 1, none⟩) : Value) :: (.int .i64 size : Value) :: (.bool (decide (usedOf size head tail ≤ size)) : Value) :: (.bool (decide (usedOf size head tail ≤ size)) : Value) :: (.bool (decide (usedOf size head tail ≤ size)) : Value) :: ([] : List Value)) rfl hs hd hrest hdone
  clear hs hd hdone hrest
  subst ea
  simp only [written, List.map_cons, List.map_nil, List.zip_cons_cons, List.zip_nil_right, putAll]
  simp only [Exit.then, Act.put, List.setIfInBounds_toArray, List.set_cons_zero, List.set_cons_succ]
  go_wp2
  go_ret
  refine ⟨ret_bool ?_, below_comp hb1 hS2⟩
  exact decide_eq_decide.2 ⟨fun hh => ⟨c0, c1, c2, c3, hh⟩, fun hh => hh.2.2.2.2⟩
end Go.Proofs.Ytncpnoloamebnab
