/- PseudoHeader of both sides. -/
import Derived.Test.YtkknfcnajgolfaaMacB
import Derived.Test.YtkknfcnajgolfaaInBoth
import Derived.Test.YtkknfcnajgolfaaConvB
import Derived.Test.YtkknfcnajgolfaaRegion
namespace Go.Proofs.Ytkknfcnajgolfaa
open Go.RowKit
set_option linter.unusedSimpArgs false
set_option linter.unusedVariables false
def pseudoOk (s d k l : Int) : Prop := (0 ≤ s ∧ s ≤ 4294967295) ∧ (0 ≤ d ∧ d ≤ 4294967295) ∧ (0 ≤ k ∧ k ≤ 255) ∧ (0 ≤ l ∧ l ≤ 65535)
instance (s d k l : Int) : Decidable (pseudoOk s d k l) := by unfold pseudoOk; infer_instance
def pseudoB (s d k l : Int) : ByteArray := w32 s ++ w32 d ++ two 0 (k % 256) ++ w16 l
def pseudoV (s d k l : Int) : ByteArray := if pseudoOk s d k l then pseudoB s d k l else ⟨#[]⟩
theorem pseudo_size (s d k l : Int) : (pseudoB s d k l).size = 12 := by
  unfold pseudoB
  simp only [ByteArray.size_append]
  rfl

set_option maxHeartbeats 4000000 in
set_option maxRecDepth 100000 in
theorem spec_pseudo_yes (s d k l : Int) (w : World) (h : pseudoOk s d k l) :
    Calls Try.prog 66 #[.int .i64 s, .int .i64 d, .int .i64 k, .int .i64 l] w fun r w' => r = .returned (.tuple #[.string (pseudoB s d k l), .bool true]) ∧ Below w.heap.size w w' := by
  obtain ⟨h1, h2, h3, h4⟩ := h
  have HW_s := Lib.hid fun W => (by have := spec_word32 s W; rwa [word32_in _ h1] at this : Calls Try.prog 65 #[.int .i64 s] W fun r w' => r = .returned (.string (w32 s)) ∧ Below W.heap.size W w')
  have HW_d := Lib.hid fun W => (by have := spec_word32 d W; rwa [word32_in _ h2] at this : Calls Try.prog 65 #[.int .i64 d] W fun r w' => r = .returned (.string (w32 d)) ∧ Below W.heap.size W w')
  have HWl := Lib.hid fun W => (by have := spec_word16 l W; rwa [word16_in _ h4] at this : Calls Try.prog 64 #[.int .i64 l] W fun r w' => r = .returned (.string (w16 l)) ∧ Below W.heap.size W w')
  have HC := Lib.hid fun g W => conv_two_at 5 0 (k % 256) (by decide) (by omega) g W
  have z1 : (w32 s).size ≤ 4 := Nat.le_refl _
  have z2 : (w32 d).size ≤ 4 := Nat.le_refl _
  have z3 : (w16 l).size ≤ 2 := Nat.le_refl _
  have z4 : (two 0 (k % 256)).size ≤ 2 := Nat.le_refl _
  have HV : Hid (∀ x lo hi W, lo ≤ x ∧ x ≤ hi → Calls Try.prog 40 #[.int .i64 x, .int .i64 lo, .int .i64 hi] W fun e w' => e = .returned (.bool true) ∧ W = w') := Lib.hid fun x lo hi W hx => by have := spec_in x lo hi W; rwa [decide_eq_true hx] at this
  have Hh := Lib.hid (And.intro h1 (And.intro h2 (And.intro h3 h4)))
  clear h1 h2 h3 h4
  go_enter Try.func66, Try.ntmps66
  go_wp2_with (first
    | (go_at_call_of 40 (Value.int .i64 s); refine (HV.out _ _ _ _ Hh.out.1).mono ?_; rintro e w' ⟨rfl, rfl⟩)
    | (go_at_call_of 40 (Value.int .i64 d); refine (HV.out _ _ _ _ Hh.out.2.1).mono ?_; rintro e w' ⟨rfl, rfl⟩)
    | (go_at_call_of 40 (Value.int .i64 k); refine (HV.out _ _ _ _ Hh.out.2.2.1).mono ?_; rintro e w' ⟨rfl, rfl⟩)
    | (go_at_call_of 40 (Value.int .i64 l); refine (HV.out _ _ _ _ Hh.out.2.2.2).mono ?_; rintro e w' ⟨rfl, rfl⟩))
  refine wp_region_values (by kernel_rfl) (fun W => Below w.heap.size w W) (Vals [.int .i64 s, .string (w32 s), .int .i64 d, .string (w32 d), .string ((w32 s) ++ (w32 d)), .int .i64 k, .int .u8 (k % 256), undef, .string (two 0 (k % 256)), .string (((w32 s) ++ (w32 d)) ++ (two 0 (k % 256))), .int .i64 l, .string (w16 l), .string ((((w32 s) ++ (w32 d)) ++ (two 0 (k % 256))) ++ (w16 l)), .string ((((w32 s) ++ (w32 d)) ++ (two 0 (k % 256))) ++ (w16 l)), .bool true] [(7, #[.int .u8 0, .int .u8 (k % 256)], 5, 2)])
    41 rfl (by kernel_rfl) (by kernel_rfl) below_drew (eachOp_all ?_) ?_
  · refine ⟨?_, ?_, ?_, ?_, ?_, ?_, ?_, ?_, ?_, ?_, ?_, ?_, ?_, ?_, ?_, trivial⟩
    · intro a W hd hS hdep hfree
      have x0 : a.tmps.getD 0 undef = .int .i64 s := hfree 0 rfl
      clear hd hdep hfree
      simp only [Oper.wp, execOp]
      go_simp
      refine Nxt.mk _ rfl (fun _ _ => ?_) hS (fun _ _ h => h)
      rfl
    · intro a W hd hS hdep hfree
      have x28 : a.tmps.getD 28 undef = .int .i64 s := hdep 0 28 rfl rfl
      clear hd hdep hfree
      simp only [Oper.wp, execOp]
      go_simp
      refine (HW_s.out W).mono ?_
      rintro e W' ⟨rfl, hb⟩
      exact Nxt.mk _ rfl (fun _ _ => rfl) (below_comp hS hb) (fun j u h => Vals.below hb j u h)
    · intro a W hd hS hdep hfree
      have x1 : a.tmps.getD 1 undef = .int .i64 d := hfree 1 rfl
      clear hd hdep hfree
      simp only [Oper.wp, execOp]
      go_simp
      refine Nxt.mk _ rfl (fun _ _ => ?_) hS (fun _ _ h => h)
      rfl
    · intro a W hd hS hdep hfree
      have x30 : a.tmps.getD 30 undef = .int .i64 d := hdep 2 30 rfl rfl
      clear hd hdep hfree
      simp only [Oper.wp, execOp]
      go_simp
      refine (HW_d.out W).mono ?_
      rintro e W' ⟨rfl, hb⟩
      exact Nxt.mk _ rfl (fun _ _ => rfl) (below_comp hS hb) (fun j u h => Vals.below hb j u h)
    · intro a W hd hS hdep hfree
      have x29 : a.tmps.getD 29 undef = .string (w32 s) := hdep 1 29 rfl rfl
      have x31 : a.tmps.getD 31 undef = .string (w32 d) := hdep 3 31 rfl rfl
      clear hd hdep hfree
      have k : ¬ 9223372036854775807 < (w32 s).size + (w32 d).size := by (try simp only [ByteArray.size_append]); omega
      have k2 := k
      try simp only [ByteArray.size_append] at k2
      simp only [Oper.wp, execOp]
      go_simp
      refine Nxt.mk _ rfl (fun _ _ => ?_) hS (fun _ _ h => h)
      rfl
    · intro a W hd hS hdep hfree
      have x2 : a.tmps.getD 2 undef = .int .i64 k := hfree 2 rfl
      clear hd hdep hfree
      simp only [Oper.wp, execOp]
      go_simp
      refine Nxt.mk _ rfl (fun _ _ => ?_) hS (fun _ _ h => h)
      rfl
    · intro a W hd hS hdep hfree
      have x33 : a.tmps.getD 33 undef = .int .i64 k := hdep 5 33 rfl rfl
      clear hd hdep hfree
      simp only [Oper.wp, execOp]
      go_simp
      refine Nxt.mk _ rfl (fun _ _ => ?_) hS (fun _ _ h => h)
      rfl
    · intro a W hd hS hdep hfree
      have x34 : a.tmps.getD 34 undef = .int .u8 (k % 256) := hdep 6 34 rfl rfl
      have y34 : a.tmps[34]?.getD undef = .int .u8 (k % 256) := by rw [← Array.getD_eq_getD_getElem?]; exact x34
      clear hd hdep hfree
      simp only [Oper.wp, execOp]
      go_simp
      exact Nxt.mk _ rfl (fun _ _ => ⟨W.heap.size, rfl, heap_alloc_new W _, by simp⟩) (below_comp hS (below_new _)) (fun j u h => Vals.below (below_new _) j u h)
    · intro a W hd hS hdep hfree
      obtain ⟨g35, x35, hx35, hl35⟩ : SliceAt W (a.tmps.getD 35 undef) #[.int .u8 0, .int .u8 (k % 256)] 5 2 := hdep 7 35 rfl rfl
      clear hd hdep hfree
      have hcv := HC.out g35 W hx35
      simp only [Oper.wp, execOp]
      go_simp
      refine Nxt.mk _ rfl (fun _ _ => ?_) hS (fun _ _ h => h)
      rfl
    · intro a W hd hS hdep hfree
      have x32 : a.tmps.getD 32 undef = .string ((w32 s) ++ (w32 d)) := hdep 4 32 rfl rfl
      have x36 : a.tmps.getD 36 undef = .string (two 0 (k % 256)) := hdep 8 36 rfl rfl
      clear hd hdep hfree
      have k : ¬ 9223372036854775807 < ((w32 s) ++ (w32 d)).size + (two 0 (k % 256)).size := by (try simp only [ByteArray.size_append]); omega
      have k2 := k
      try simp only [ByteArray.size_append] at k2
      simp only [Oper.wp, execOp]
      go_simp
      refine Nxt.mk _ rfl (fun _ _ => ?_) hS (fun _ _ h => h)
      rfl
    · intro a W hd hS hdep hfree
      have x3 : a.tmps.getD 3 undef = .int .i64 l := hfree 3 rfl
      clear hd hdep hfree
      simp only [Oper.wp, execOp]
      go_simp
      refine Nxt.mk _ rfl (fun _ _ => ?_) hS (fun _ _ h => h)
      rfl
    · intro a W hd hS hdep hfree
      have x38 : a.tmps.getD 38 undef = .int .i64 l := hdep 10 38 rfl rfl
      clear hd hdep hfree
      simp only [Oper.wp, execOp]
      go_simp
      refine (HWl.out W).mono ?_
      rintro e W' ⟨rfl, hb⟩
      exact Nxt.mk _ rfl (fun _ _ => rfl) (below_comp hS hb) (fun j u h => Vals.below hb j u h)
    · intro a W hd hS hdep hfree
      have x37 : a.tmps.getD 37 undef = .string (((w32 s) ++ (w32 d)) ++ (two 0 (k % 256))) := hdep 9 37 rfl rfl
      have x39 : a.tmps.getD 39 undef = .string (w16 l) := hdep 11 39 rfl rfl
      clear hd hdep hfree
      have k : ¬ 9223372036854775807 < (((w32 s) ++ (w32 d)) ++ (two 0 (k % 256))).size + (w16 l).size := by (try simp only [ByteArray.size_append]); omega
      have k2 := k
      try simp only [ByteArray.size_append] at k2
      simp only [Oper.wp, execOp]
      go_simp
      refine Nxt.mk _ rfl (fun _ _ => ?_) hS (fun _ _ h => h)
      rfl
    · intro a W hd hS hdep hfree
      have x40 : a.tmps.getD 40 undef = .string ((((w32 s) ++ (w32 d)) ++ (two 0 (k % 256))) ++ (w16 l)) := hdep 12 40 rfl rfl
      clear hd hdep hfree
      simp only [Oper.wp, execOp]
      go_simp
      refine Nxt.mk _ rfl (fun _ _ => ?_) hS (fun _ _ h => h)
      rfl
    · intro a W hd hS hdep hfree
      clear hd hdep hfree
      simp only [Oper.wp, execOp]
      go_simp
      refine Nxt.mk _ rfl (fun _ _ => ?_) hS (fun _ _ h => h)
      rfl
  intro a W2 hs hd hS2 hdone hrest
  obtain ⟨u35, hu35⟩ : ∃ u, a.tmps.getD 35 undef = u := ⟨_, rfl⟩
  have ea := written_all [.int .i64 s, .string (w32 s), .int .i64 d, .string (w32 d), .string ((w32 s) ++ (w32 d)), .int .i64 k, .int .u8 (k % 256), u35, .string (two 0 (k % 256)), .string (((w32 s) ++ (w32 d)) ++ (two 0 (k % 256))), .int .i64 l, .string (w16 l), .string ((((w32 s) ++ (w32 d)) ++ (two 0 (k % 256))) ++ (w16 l)), .string ((((w32 s) ++ (w32 d)) ++ (two 0 (k % 256))) ++ (w16 l)), .bool true] rfl hs hd hrest (fun j d hj => by
    have h := hdone j d hj
    match j, hj, h with
    | 0, _, h => exact h
    | 1, _, h => exact h
    | 2, _, h => exact h
    | 3, _, h => exact h
    | 4, _, h => exact h
    | 5, _, h => exact h
    | 6, _, h => exact h
    | 7, hj, _ => exact (Option.some.inj hj) ▸ hu35
    | 8, _, h => exact h
    | 9, _, h => exact h
    | 10, _, h => exact h
    | 11, _, h => exact h
    | 12, _, h => exact h
    | 13, _, h => exact h
    | 14, _, h => exact h
    | n + 15, hj, _ => exact absurd (dstOf_lt hj) (by simp))
  clear hu35
  clear hs hd hdone hrest
  subst ea
  simp only [written, List.map_cons, List.map_nil, List.zip_cons_cons, List.zip_nil_right, putAll]
  simp only [Exit.then, Act.put, List.setIfInBounds_toArray, List.set_cons_zero, List.set_cons_succ]
  go_wp2
  go_ret2
  exact ⟨ret_str_bool rfl rfl, hS2⟩
set_option maxHeartbeats 4000000 in
theorem spec_pseudo_no (s d k l : Int) (w : World) (h : ¬ pseudoOk s d k l) :
    Calls Try.prog 66 #[.int .i64 s, .int .i64 d, .int .i64 k, .int .i64 l] w fun r w' => r = .returned (.tuple #[.string ⟨#[]⟩, .bool false]) ∧ Below w.heap.size w w' := by
  have HN := Lib.hid h
  clear h
  by_cases h1 : 0 ≤ s ∧ s ≤ 4294967295
  case' pos =>
    by_cases h2 : 0 ≤ d ∧ d ≤ 4294967295
    case' pos =>
      by_cases h3 : 0 ≤ k ∧ k ≤ 255
      case' pos =>
        have h4 : ¬ (0 ≤ l ∧ l ≤ 65535) := fun h4 => HN.out ⟨h1, h2, h3, h4⟩
  all_goals
    go_enter Try.func66, Try.ntmps66
    go_wp2_with (go_at_call 40; refine (spec_in _ _ _ _).mono ?_; simp only [*, decide_true, decide_false]; rintro e w' ⟨rfl, rfl⟩)
    go_ret2
    exact ⟨rfl, Below.refl _ _⟩
theorem spec_pseudo (s d k l : Int) (w : World) :
    Calls Try.prog 66 #[.int .i64 s, .int .i64 d, .int .i64 k, .int .i64 l] w fun r w' => r = .returned (.tuple #[.string (pseudoV s d k l), .bool (decide (pseudoOk s d k l))]) ∧ Below w.heap.size w w' := by
  by_cases h : pseudoOk s d k l
  · rw [show pseudoV s d k l = pseudoB s d k l from if_pos h, decide_eq_true h]; exact spec_pseudo_yes s d k l w h
  · rw [show pseudoV s d k l = ⟨#[]⟩ from if_neg h, decide_eq_false h]; exact spec_pseudo_no s d k l w h

set_option maxHeartbeats 4000000 in
set_option maxRecDepth 100000 in
theorem impl_pseudo_yes (s d k l : Int) (w : World) (h : pseudoOk s d k l) :
    Calls Try.prog 74 #[.int .i64 s, .int .i64 d, .int .i64 k, .int .i64 l] w fun r w' => r = .returned (.tuple #[.string (pseudoB s d k l), .bool true]) ∧ Below w.heap.size w w' := by
  obtain ⟨h1, h2, h3, h4⟩ := h
  have HW_s := Lib.hid fun W => (by have := impl_word32 s W; rwa [word32_in _ h1] at this : Calls Try.prog 89 #[.int .i64 s] W fun r w' => r = .returned (.string (w32 s)) ∧ Below W.heap.size W w')
  have HW_d := Lib.hid fun W => (by have := impl_word32 d W; rwa [word32_in _ h2] at this : Calls Try.prog 89 #[.int .i64 d] W fun r w' => r = .returned (.string (w32 d)) ∧ Below W.heap.size W w')
  have HWl := Lib.hid fun W => (by have := impl_word16 l W; rwa [word16_in _ h4] at this : Calls Try.prog 79 #[.int .i64 l] W fun r w' => r = .returned (.string (w16 l)) ∧ Below W.heap.size W w')
  have HC := Lib.hid fun g W => conv_two_at 5 0 (k % 256) (by decide) (by omega) g W
  have z1 : (w32 s).size ≤ 4 := Nat.le_refl _
  have z2 : (w32 d).size ≤ 4 := Nat.le_refl _
  have z3 : (w16 l).size ≤ 2 := Nat.le_refl _
  have z4 : (two 0 (k % 256)).size ≤ 2 := Nat.le_refl _
  have HV : Hid (∀ x lo hi W, lo ≤ x ∧ x ≤ hi → Calls Try.prog 43 #[.int .i64 x, .int .i64 lo, .int .i64 hi] W fun e w' => e = .returned (.bool true) ∧ W = w') := Lib.hid fun x lo hi W hx => by have := impl_in x lo hi W; rwa [decide_eq_true hx] at this
  have Hh := Lib.hid (And.intro h1 (And.intro h2 (And.intro h3 h4)))
  clear h1 h2 h3 h4
  go_enter Try.func74, Try.ntmps74
  go_wp2_with (first
    | (go_at_call_of 43 (Value.int .i64 s); refine (HV.out _ _ _ _ Hh.out.1).mono ?_; rintro e w' ⟨rfl, rfl⟩)
    | (go_at_call_of 43 (Value.int .i64 d); refine (HV.out _ _ _ _ Hh.out.2.1).mono ?_; rintro e w' ⟨rfl, rfl⟩)
    | (go_at_call_of 43 (Value.int .i64 k); refine (HV.out _ _ _ _ Hh.out.2.2.1).mono ?_; rintro e w' ⟨rfl, rfl⟩)
    | (go_at_call_of 43 (Value.int .i64 l); refine (HV.out _ _ _ _ Hh.out.2.2.2).mono ?_; rintro e w' ⟨rfl, rfl⟩))
  refine wp_region_values (by kernel_rfl) (fun W => Below w.heap.size w W) (Vals [.int .i64 s, .string (w32 s), .int .i64 d, .string (w32 d), .string ((w32 s) ++ (w32 d)), .int .i64 k, .int .u8 (k % 256), undef, .string (two 0 (k % 256)), .string (((w32 s) ++ (w32 d)) ++ (two 0 (k % 256))), .int .i64 l, .string (w16 l), .string ((((w32 s) ++ (w32 d)) ++ (two 0 (k % 256))) ++ (w16 l)), .string ((((w32 s) ++ (w32 d)) ++ (two 0 (k % 256))) ++ (w16 l)), .bool true] [(7, #[.int .u8 0, .int .u8 (k % 256)], 5, 2)])
    41 rfl (by kernel_rfl) (by kernel_rfl) below_drew (eachOp_all ?_) ?_
  · refine ⟨?_, ?_, ?_, ?_, ?_, ?_, ?_, ?_, ?_, ?_, ?_, ?_, ?_, ?_, ?_, trivial⟩
    · intro a W hd hS hdep hfree
      have x0 : a.tmps.getD 0 undef = .int .i64 s := hfree 0 rfl
      clear hd hdep hfree
      simp only [Oper.wp, execOp]
      go_simp
      refine Nxt.mk _ rfl (fun _ _ => ?_) hS (fun _ _ h => h)
      rfl
    · intro a W hd hS hdep hfree
      have x28 : a.tmps.getD 28 undef = .int .i64 s := hdep 0 28 rfl rfl
      clear hd hdep hfree
      simp only [Oper.wp, execOp]
      go_simp
      refine (HW_s.out W).mono ?_
      rintro e W' ⟨rfl, hb⟩
      exact Nxt.mk _ rfl (fun _ _ => rfl) (below_comp hS hb) (fun j u h => Vals.below hb j u h)
    · intro a W hd hS hdep hfree
      have x1 : a.tmps.getD 1 undef = .int .i64 d := hfree 1 rfl
      clear hd hdep hfree
      simp only [Oper.wp, execOp]
      go_simp
      refine Nxt.mk _ rfl (fun _ _ => ?_) hS (fun _ _ h => h)
      rfl
    · intro a W hd hS hdep hfree
      have x30 : a.tmps.getD 30 undef = .int .i64 d := hdep 2 30 rfl rfl
      clear hd hdep hfree
      simp only [Oper.wp, execOp]
      go_simp
      refine (HW_d.out W).mono ?_
      rintro e W' ⟨rfl, hb⟩
      exact Nxt.mk _ rfl (fun _ _ => rfl) (below_comp hS hb) (fun j u h => Vals.below hb j u h)
    · intro a W hd hS hdep hfree
      have x29 : a.tmps.getD 29 undef = .string (w32 s) := hdep 1 29 rfl rfl
      have x31 : a.tmps.getD 31 undef = .string (w32 d) := hdep 3 31 rfl rfl
      clear hd hdep hfree
      have k : ¬ 9223372036854775807 < (w32 s).size + (w32 d).size := by (try simp only [ByteArray.size_append]); omega
      have k2 := k
      try simp only [ByteArray.size_append] at k2
      simp only [Oper.wp, execOp]
      go_simp
      refine Nxt.mk _ rfl (fun _ _ => ?_) hS (fun _ _ h => h)
      rfl
    · intro a W hd hS hdep hfree
      have x2 : a.tmps.getD 2 undef = .int .i64 k := hfree 2 rfl
      clear hd hdep hfree
      simp only [Oper.wp, execOp]
      go_simp
      refine Nxt.mk _ rfl (fun _ _ => ?_) hS (fun _ _ h => h)
      rfl
    · intro a W hd hS hdep hfree
      have x33 : a.tmps.getD 33 undef = .int .i64 k := hdep 5 33 rfl rfl
      clear hd hdep hfree
      simp only [Oper.wp, execOp]
      go_simp
      refine Nxt.mk _ rfl (fun _ _ => ?_) hS (fun _ _ h => h)
      rfl
    · intro a W hd hS hdep hfree
      have x34 : a.tmps.getD 34 undef = .int .u8 (k % 256) := hdep 6 34 rfl rfl
      have y34 : a.tmps[34]?.getD undef = .int .u8 (k % 256) := by rw [← Array.getD_eq_getD_getElem?]; exact x34
      clear hd hdep hfree
      simp only [Oper.wp, execOp]
      go_simp
      exact Nxt.mk _ rfl (fun _ _ => ⟨W.heap.size, rfl, heap_alloc_new W _, by simp⟩) (below_comp hS (below_new _)) (fun j u h => Vals.below (below_new _) j u h)
    · intro a W hd hS hdep hfree
      obtain ⟨g35, x35, hx35, hl35⟩ : SliceAt W (a.tmps.getD 35 undef) #[.int .u8 0, .int .u8 (k % 256)] 5 2 := hdep 7 35 rfl rfl
      clear hd hdep hfree
      have hcv := HC.out g35 W hx35
      simp only [Oper.wp, execOp]
      go_simp
      refine Nxt.mk _ rfl (fun _ _ => ?_) hS (fun _ _ h => h)
      rfl
    · intro a W hd hS hdep hfree
      have x32 : a.tmps.getD 32 undef = .string ((w32 s) ++ (w32 d)) := hdep 4 32 rfl rfl
      have x36 : a.tmps.getD 36 undef = .string (two 0 (k % 256)) := hdep 8 36 rfl rfl
      clear hd hdep hfree
      have k : ¬ 9223372036854775807 < ((w32 s) ++ (w32 d)).size + (two 0 (k % 256)).size := by (try simp only [ByteArray.size_append]); omega
      have k2 := k
      try simp only [ByteArray.size_append] at k2
      simp only [Oper.wp, execOp]
      go_simp
      refine Nxt.mk _ rfl (fun _ _ => ?_) hS (fun _ _ h => h)
      rfl
    · intro a W hd hS hdep hfree
      have x3 : a.tmps.getD 3 undef = .int .i64 l := hfree 3 rfl
      clear hd hdep hfree
      simp only [Oper.wp, execOp]
      go_simp
      refine Nxt.mk _ rfl (fun _ _ => ?_) hS (fun _ _ h => h)
      rfl
    · intro a W hd hS hdep hfree
      have x38 : a.tmps.getD 38 undef = .int .i64 l := hdep 10 38 rfl rfl
      clear hd hdep hfree
      simp only [Oper.wp, execOp]
      go_simp
      refine (HWl.out W).mono ?_
      rintro e W' ⟨rfl, hb⟩
      exact Nxt.mk _ rfl (fun _ _ => rfl) (below_comp hS hb) (fun j u h => Vals.below hb j u h)
    · intro a W hd hS hdep hfree
      have x37 : a.tmps.getD 37 undef = .string (((w32 s) ++ (w32 d)) ++ (two 0 (k % 256))) := hdep 9 37 rfl rfl
      have x39 : a.tmps.getD 39 undef = .string (w16 l) := hdep 11 39 rfl rfl
      clear hd hdep hfree
      have k : ¬ 9223372036854775807 < (((w32 s) ++ (w32 d)) ++ (two 0 (k % 256))).size + (w16 l).size := by (try simp only [ByteArray.size_append]); omega
      have k2 := k
      try simp only [ByteArray.size_append] at k2
      simp only [Oper.wp, execOp]
      go_simp
      refine Nxt.mk _ rfl (fun _ _ => ?_) hS (fun _ _ h => h)
      rfl
    · intro a W hd hS hdep hfree
      have x40 : a.tmps.getD 40 undef = .string ((((w32 s) ++ (w32 d)) ++ (two 0 (k % 256))) ++ (w16 l)) := hdep 12 40 rfl rfl
      clear hd hdep hfree
      simp only [Oper.wp, execOp]
      go_simp
      refine Nxt.mk _ rfl (fun _ _ => ?_) hS (fun _ _ h => h)
      rfl
    · intro a W hd hS hdep hfree
      clear hd hdep hfree
      simp only [Oper.wp, execOp]
      go_simp
      refine Nxt.mk _ rfl (fun _ _ => ?_) hS (fun _ _ h => h)
      rfl
  intro a W2 hs hd hS2 hdone hrest
  obtain ⟨u35, hu35⟩ : ∃ u, a.tmps.getD 35 undef = u := ⟨_, rfl⟩
  have ea := written_all [.int .i64 s, .string (w32 s), .int .i64 d, .string (w32 d), .string ((w32 s) ++ (w32 d)), .int .i64 k, .int .u8 (k % 256), u35, .string (two 0 (k % 256)), .string (((w32 s) ++ (w32 d)) ++ (two 0 (k % 256))), .int .i64 l, .string (w16 l), .string ((((w32 s) ++ (w32 d)) ++ (two 0 (k % 256))) ++ (w16 l)), .string ((((w32 s) ++ (w32 d)) ++ (two 0 (k % 256))) ++ (w16 l)), .bool true] rfl hs hd hrest (fun j d hj => by
    have h := hdone j d hj
    match j, hj, h with
    | 0, _, h => exact h
    | 1, _, h => exact h
    | 2, _, h => exact h
    | 3, _, h => exact h
    | 4, _, h => exact h
    | 5, _, h => exact h
    | 6, _, h => exact h
    | 7, hj, _ => exact (Option.some.inj hj) ▸ hu35
    | 8, _, h => exact h
    | 9, _, h => exact h
    | 10, _, h => exact h
    | 11, _, h => exact h
    | 12, _, h => exact h
    | 13, _, h => exact h
    | 14, _, h => exact h
    | n + 15, hj, _ => exact absurd (dstOf_lt hj) (by simp))
  clear hu35
  clear hs hd hdone hrest
  subst ea
  simp only [written, List.map_cons, List.map_nil, List.zip_cons_cons, List.zip_nil_right, putAll]
  simp only [Exit.then, Act.put, List.setIfInBounds_toArray, List.set_cons_zero, List.set_cons_succ]
  go_wp2
  go_ret2
  exact ⟨ret_str_bool rfl rfl, hS2⟩
set_option maxHeartbeats 4000000 in
theorem impl_pseudo_no (s d k l : Int) (w : World) (h : ¬ pseudoOk s d k l) :
    Calls Try.prog 74 #[.int .i64 s, .int .i64 d, .int .i64 k, .int .i64 l] w fun r w' => r = .returned (.tuple #[.string ⟨#[]⟩, .bool false]) ∧ Below w.heap.size w w' := by
  have HN := Lib.hid h
  clear h
  by_cases h1 : 0 ≤ s ∧ s ≤ 4294967295
  case' pos =>
    by_cases h2 : 0 ≤ d ∧ d ≤ 4294967295
    case' pos =>
      by_cases h3 : 0 ≤ k ∧ k ≤ 255
      case' pos =>
        have h4 : ¬ (0 ≤ l ∧ l ≤ 65535) := fun h4 => HN.out ⟨h1, h2, h3, h4⟩
  all_goals
    go_enter Try.func74, Try.ntmps74
    go_wp2_with (go_at_call 43; refine (impl_in _ _ _ _).mono ?_; simp only [*, decide_true, decide_false]; rintro e w' ⟨rfl, rfl⟩)
    go_ret2
    exact ⟨rfl, Below.refl _ _⟩
theorem impl_pseudo (s d k l : Int) (w : World) :
    Calls Try.prog 74 #[.int .i64 s, .int .i64 d, .int .i64 k, .int .i64 l] w fun r w' => r = .returned (.tuple #[.string (pseudoV s d k l), .bool (decide (pseudoOk s d k l))]) ∧ Below w.heap.size w w' := by
  by_cases h : pseudoOk s d k l
  · rw [show pseudoV s d k l = pseudoB s d k l from if_pos h, decide_eq_true h]; exact impl_pseudo_yes s d k l w h
  · rw [show pseudoV s d k l = ⟨#[]⟩ from if_neg h, decide_eq_false h]; exact impl_pseudo_no s d k l w h

end Go.Proofs.Ytkknfcnajgolfaa
