/- BuildEth of both sides. -/
import Derived.Test.YtioejbgdhmiiiaaMacB
import Derived.Test.YtioejbgdhmiiiaaEthOkB
import Derived.Test.YtioejbgdhmiiiaaRegion
namespace Go.Proofs.Ytioejbgdhmiiiaa
open Go.RowKit
set_option linter.unusedSimpArgs false
set_option linter.unusedVariables false
theorem bytes_tagged (d s v t : Int) (b : ByteArray) (h : 0 ≤ v) : mac d ++ mac s ++ w16 33024 ++ w16 v ++ w16 t ++ b = EthM.bytes ⟨d, s, v, t, b⟩ := by
  unfold EthM.bytes EthM.tag
  dsimp only
  rw [if_pos h]
  simp only [ByteArray.append_assoc]
theorem bytes_plain (d s v t : Int) (b : ByteArray) (h : v < 0) : mac d ++ mac s ++ w16 t ++ b = EthM.bytes ⟨d, s, v, t, b⟩ := by
  unfold EthM.bytes EthM.tag
  dsimp only
  rw [if_neg (by omega)]
  rw [show (⟨#[]⟩ : ByteArray) = ByteArray.empty from rfl]
  simp only [ByteArray.append_assoc, ByteArray.empty_append]

set_option maxHeartbeats 4000000 in
set_option maxRecDepth 100000 in
theorem spec_build_yes (e : EthM) (w : World) (h : e.Ok) :
    Calls Try.prog 47 #[e.val] w fun r w' => r = .returned (.tuple #[.string e.bytes, .bool true]) ∧ Below w.heap.size w w' := by
  have HV : Hid (∀ w1, Calls Try.prog 44 #[e.val] w1 fun r w' => r = .returned (.bool true) ∧ Below w1.heap.size w1 w') := Lib.hid fun w1 => by have := spec_ethok e w1; rwa [decide_eq_true h] at this
  obtain ⟨d, s, v, t, b⟩ := e
  unfold EthM.val at *
  dsimp only at *
  obtain ⟨h1, h2, h3, h4, h5, h6⟩ := h
  dsimp only at h1 h2 h3 h4 h5 h6
  have hv4 := h3
  have HM_d := Lib.hid fun W => spec_mac d W h1
  have HM_s := Lib.hid fun W => spec_mac s W h2
  have HW0 := Lib.hid fun W => (by have := spec_word16 33024 W; rwa [word16_in _ (by decide)] at this : Calls Try.prog 67 #[.int .i64 33024] W fun r w' => r = .returned (.string (w16 33024)) ∧ Below W.heap.size W w')
  have HWt := Lib.hid fun W => (by have := spec_word16 t W; rwa [word16_in _ (by omega)] at this : Calls Try.prog 67 #[.int .i64 t] W fun r w' => r = .returned (.string (w16 t)) ∧ Below W.heap.size W w')
  have z1 : (mac d).size ≤ 6 := Nat.le_refl _
  have z2 : (mac s).size ≤ 6 := Nat.le_refl _
  have z3 : (w16 33024).size ≤ 2 := Nat.le_refl _
  have z4 : (w16 v).size ≤ 2 := Nat.le_refl _
  have z5 : (w16 t).size ≤ 2 := Nat.le_refl _
  have H5 := Lib.hid h5
  clear h5
  have hv : 0 ≤ v ∨ v = -1 := by omega
  go_enter Try.func47, Try.ntmps47
  go_wp2_with (go_at_call 44; refine (HV.out _).mono ?_; rintro e w1 ⟨rfl, hb1⟩)
  have hg1 : w.heap.size < w1.heap.size := by have := hb1.size; simp at this; omega
  have HB1 := Lib.hid ((Box.new w #[.int .i64 d, .int .i64 s, .int .i64 v, .int .i64 t, .string b] 23).below hb1 (by simp))
  have hb01 := below_comp (below_new _) hb1
  clear hb1 h1 h2 h3
  refine wp_region_values (by kernel_rfl) (fun W => Below w1.heap.size w1 W) (Vals [.pointer (some ⟨w.heap.size, 0, none⟩), .int .i64 d, .string (mac d), .pointer (some ⟨w.heap.size, 1, none⟩), .int .i64 s, .string (mac s), .string ((mac d) ++ (mac s)), .string ((mac d) ++ (mac s))] [])
    33 rfl (by kernel_rfl) (by kernel_rfl) below_drew (eachOp_all ?_) ?_
  · refine ⟨?_, ?_, ?_, ?_, ?_, ?_, ?_, ?_, trivial⟩
    · intro a W hd hS hdep hfree
      have x1 : a.tmps.getD 1 undef = .pointer (some ⟨w.heap.size, 0, none⟩) := hfree 1 rfl
      clear hd hdep hfree
      simp only [Oper.wp, execOp]
      go_simp
      refine Nxt.mk _ rfl (fun _ _ => ?_) hS (fun _ _ h => h)
      rfl
    · intro a W hd hS hdep hfree
      have x8 : a.tmps.getD 8 undef = .pointer (some ⟨w.heap.size, 0, none⟩) := hdep 0 8 rfl rfl
      clear hd hdep hfree
      have c : W.cell? ⟨w.heap.size, 0, none⟩ = some (.int .i64 d) := (HB1.out.below hS hg1).cell 0 (by simp)
      simp only [Oper.wp, execOp]
      go_simp
      refine Nxt.mk _ rfl (fun _ _ => ?_) hS (fun _ _ h => h)
      rfl
    · intro a W hd hS hdep hfree
      have x9 : a.tmps.getD 9 undef = .int .i64 d := hdep 1 9 rfl rfl
      clear hd hdep hfree
      simp only [Oper.wp, execOp]
      go_simp
      refine (HM_d.out W).mono ?_
      rintro e W' ⟨rfl, hb⟩
      exact Nxt.mk _ rfl (fun _ _ => rfl) (below_comp hS hb) (fun j u h => Vals.below hb j u h)
    · intro a W hd hS hdep hfree
      have x1 : a.tmps.getD 1 undef = .pointer (some ⟨w.heap.size, 0, none⟩) := hfree 1 rfl
      clear hd hdep hfree
      simp only [Oper.wp, execOp]
      go_simp
      refine Nxt.mk _ rfl (fun _ _ => ?_) hS (fun _ _ h => h)
      rfl
    · intro a W hd hS hdep hfree
      have x11 : a.tmps.getD 11 undef = .pointer (some ⟨w.heap.size, 1, none⟩) := hdep 3 11 rfl rfl
      clear hd hdep hfree
      have c : W.cell? ⟨w.heap.size, 1, none⟩ = some (.int .i64 s) := (HB1.out.below hS hg1).cell 1 (by simp)
      simp only [Oper.wp, execOp]
      go_simp
      refine Nxt.mk _ rfl (fun _ _ => ?_) hS (fun _ _ h => h)
      rfl
    · intro a W hd hS hdep hfree
      have x12 : a.tmps.getD 12 undef = .int .i64 s := hdep 4 12 rfl rfl
      clear hd hdep hfree
      simp only [Oper.wp, execOp]
      go_simp
      refine (HM_s.out W).mono ?_
      rintro e W' ⟨rfl, hb⟩
      exact Nxt.mk _ rfl (fun _ _ => rfl) (below_comp hS hb) (fun j u h => Vals.below hb j u h)
    · intro a W hd hS hdep hfree
      have x10 : a.tmps.getD 10 undef = .string (mac d) := hdep 2 10 rfl rfl
      have x13 : a.tmps.getD 13 undef = .string (mac s) := hdep 5 13 rfl rfl
      clear hd hdep hfree
      have k : ¬ 9223372036854775807 < (mac d).size + (mac s).size := by (try simp only [ByteArray.size_append]); omega
      have k2 := k
      try simp only [ByteArray.size_append] at k2
      simp only [Oper.wp, execOp]
      go_simp
      refine Nxt.mk _ rfl (fun _ _ => ?_) hS (fun _ _ h => h)
      rfl
    · intro a W hd hS hdep hfree
      have x14 : a.tmps.getD 14 undef = .string ((mac d) ++ (mac s)) := hdep 6 14 rfl rfl
      clear hd hdep hfree
      simp only [Oper.wp, execOp]
      go_simp
      refine Nxt.mk _ rfl (fun _ _ => ?_) hS (fun _ _ h => h)
      rfl
  intro a W2 hs hd hS2 hdone hrest
  have ea := written_all [.pointer (some ⟨w.heap.size, 0, none⟩), .int .i64 d, .string (mac d), .pointer (some ⟨w.heap.size, 1, none⟩), .int .i64 s, .string (mac s), .string ((mac d) ++ (mac s)), .string ((mac d) ++ (mac s))] rfl hs hd hrest hdone
  clear hs hd hdone hrest
  subst ea
  simp only [written, List.map_cons, List.map_nil, List.zip_cons_cons, List.zip_nil_right, putAll]
  simp only [Exit.then, Act.put, List.setIfInBounds_toArray, List.set_cons_zero, List.set_cons_succ]
  have hg2 : w.heap.size < W2.heap.size := Nat.lt_of_lt_of_le hg1 hS2.size
  have HB2 := Lib.hid (HB1.out.below hS2 hg1)
  have hb02 := below_comp hb01 hS2
  have c2 : W2.cell? ⟨w.heap.size, 2, none⟩ = some (.int .i64 v) := HB2.out.cell 2 (by simp)
  clear hS2
  rcases hv with hv | hv
  · have e0 : 0 ≤ v := hv
    have HVV := Lib.hid hv
    have HWv := Lib.hid fun W => (by have := spec_word16 v W; rwa [word16_in _ ⟨HVV.out, by have := hv4.2; omega⟩] at this : Calls Try.prog 67 #[.int .i64 v] W fun r w' => r = .returned (.string (w16 v)) ∧ Below W.heap.size W w')
    clear hv
    go_wp2_with fail
    refine wp_region_values (by kernel_rfl) (fun W => Below W2.heap.size W2 W) (Vals [.string ((mac d) ++ (mac s)), .string (w16 33024), .string (((mac d) ++ (mac s)) ++ (w16 33024)), .pointer (some ⟨w.heap.size, 2, none⟩), .int .i64 v, .string (w16 v), .string ((((mac d) ++ (mac s)) ++ (w16 33024)) ++ (w16 v)), .string ((((mac d) ++ (mac s)) ++ (w16 33024)) ++ (w16 v))] [])
      33 rfl (by kernel_rfl) (by kernel_rfl) below_drew (eachOp_all ?_) ?_
    · refine ⟨?_, ?_, ?_, ?_, ?_, ?_, ?_, ?_, trivial⟩
      · intro a W hd hS hdep hfree
        have x4 : a.tmps.getD 4 undef = .string ((mac d) ++ (mac s)) := hfree 4 rfl
        clear hd hdep hfree
        simp only [Oper.wp, execOp]
        go_simp
        refine Nxt.mk _ rfl (fun _ _ => ?_) hS (fun _ _ h => h)
        rfl
      · intro a W hd hS hdep hfree
        clear hd hdep hfree
        simp only [Oper.wp, execOp]
        go_simp
        refine (HW0.out W).mono ?_
        rintro e W' ⟨rfl, hb⟩
        exact Nxt.mk _ rfl (fun _ _ => rfl) (below_comp hS hb) (fun j u h => Vals.below hb j u h)
      · intro a W hd hS hdep hfree
        have x18 : a.tmps.getD 18 undef = .string ((mac d) ++ (mac s)) := hdep 0 18 rfl rfl
        have x19 : a.tmps.getD 19 undef = .string (w16 33024) := hdep 1 19 rfl rfl
        clear hd hdep hfree
        have k : ¬ 9223372036854775807 < ((mac d) ++ (mac s)).size + (w16 33024).size := by (try simp only [ByteArray.size_append]); omega
        have k2 := k
        try simp only [ByteArray.size_append] at k2
        simp only [Oper.wp, execOp]
        go_simp
        refine Nxt.mk _ rfl (fun _ _ => ?_) hS (fun _ _ h => h)
        rfl
      · intro a W hd hS hdep hfree
        have x1 : a.tmps.getD 1 undef = .pointer (some ⟨w.heap.size, 0, none⟩) := hfree 1 rfl
        clear hd hdep hfree
        simp only [Oper.wp, execOp]
        go_simp
        refine Nxt.mk _ rfl (fun _ _ => ?_) hS (fun _ _ h => h)
        rfl
      · intro a W hd hS hdep hfree
        have x21 : a.tmps.getD 21 undef = .pointer (some ⟨w.heap.size, 2, none⟩) := hdep 3 21 rfl rfl
        clear hd hdep hfree
        have c : W.cell? ⟨w.heap.size, 2, none⟩ = some (.int .i64 v) := (HB2.out.below hS hg2).cell 2 (by simp)
        simp only [Oper.wp, execOp]
        go_simp
        refine Nxt.mk _ rfl (fun _ _ => ?_) hS (fun _ _ h => h)
        rfl
      · intro a W hd hS hdep hfree
        have x22 : a.tmps.getD 22 undef = .int .i64 v := hdep 4 22 rfl rfl
        clear hd hdep hfree
        simp only [Oper.wp, execOp]
        go_simp
        refine (HWv.out W).mono ?_
        rintro e W' ⟨rfl, hb⟩
        exact Nxt.mk _ rfl (fun _ _ => rfl) (below_comp hS hb) (fun j u h => Vals.below hb j u h)
      · intro a W hd hS hdep hfree
        have x20 : a.tmps.getD 20 undef = .string (((mac d) ++ (mac s)) ++ (w16 33024)) := hdep 2 20 rfl rfl
        have x23 : a.tmps.getD 23 undef = .string (w16 v) := hdep 5 23 rfl rfl
        clear hd hdep hfree
        have k : ¬ 9223372036854775807 < (((mac d) ++ (mac s)) ++ (w16 33024)).size + (w16 v).size := by (try simp only [ByteArray.size_append]); omega
        have k2 := k
        try simp only [ByteArray.size_append] at k2
        simp only [Oper.wp, execOp]
        go_simp
        refine Nxt.mk _ rfl (fun _ _ => ?_) hS (fun _ _ h => h)
        rfl
      · intro a W hd hS hdep hfree
        have x24 : a.tmps.getD 24 undef = .string ((((mac d) ++ (mac s)) ++ (w16 33024)) ++ (w16 v)) := hdep 6 24 rfl rfl
        clear hd hdep hfree
        simp only [Oper.wp, execOp]
        go_simp
        refine Nxt.mk _ rfl (fun _ _ => ?_) hS (fun _ _ h => h)
        rfl
    intro a W3 hs hd hS3 hdone hrest
    have ea := written_all [.string ((mac d) ++ (mac s)), .string (w16 33024), .string (((mac d) ++ (mac s)) ++ (w16 33024)), .pointer (some ⟨w.heap.size, 2, none⟩), .int .i64 v, .string (w16 v), .string ((((mac d) ++ (mac s)) ++ (w16 33024)) ++ (w16 v)), .string ((((mac d) ++ (mac s)) ++ (w16 33024)) ++ (w16 v))] rfl hs hd hrest hdone
    clear hs hd hdone hrest
    subst ea
    simp only [written, List.map_cons, List.map_nil, List.zip_cons_cons, List.zip_nil_right, putAll]
    simp only [Exit.then, Act.put, List.setIfInBounds_toArray, List.set_cons_zero, List.set_cons_succ]
    have hg3 : w.heap.size < W3.heap.size := Nat.lt_of_lt_of_le hg2 hS3.size
    have HB3 := Lib.hid (HB2.out.below hS3 hg2)
    have hb03 := below_comp hb02 hS3
    clear hS3 c2 e0
    go_wp2_with fail
    refine wp_region_values (by kernel_rfl) (fun W => Below W3.heap.size W3 W) (Vals [.string ((((mac d) ++ (mac s)) ++ (w16 33024)) ++ (w16 v)), .pointer (some ⟨w.heap.size, 3, none⟩), .int .i64 t, .string (w16 t), .string (((((mac d) ++ (mac s)) ++ (w16 33024)) ++ (w16 v)) ++ (w16 t)), .pointer (some ⟨w.heap.size, 4, none⟩), .string b, .string ((((((mac d) ++ (mac s)) ++ (w16 33024)) ++ (w16 v)) ++ (w16 t)) ++ b), .string ((((((mac d) ++ (mac s)) ++ (w16 33024)) ++ (w16 v)) ++ (w16 t)) ++ b), .bool true] [])
      33 rfl (by kernel_rfl) (by kernel_rfl) below_drew (eachOp_all ?_) ?_
    · refine ⟨?_, ?_, ?_, ?_, ?_, ?_, ?_, ?_, ?_, ?_, trivial⟩
      · intro a W hd hS hdep hfree
        have x4 : a.tmps.getD 4 undef = .string ((((mac d) ++ (mac s)) ++ (w16 33024)) ++ (w16 v)) := hfree 4 rfl
        clear hd hdep hfree
        simp only [Oper.wp, execOp]
        go_simp
        refine Nxt.mk _ rfl (fun _ _ => ?_) hS (fun _ _ h => h)
        rfl
      · intro a W hd hS hdep hfree
        have x1 : a.tmps.getD 1 undef = .pointer (some ⟨w.heap.size, 0, none⟩) := hfree 1 rfl
        clear hd hdep hfree
        simp only [Oper.wp, execOp]
        go_simp
        refine Nxt.mk _ rfl (fun _ _ => ?_) hS (fun _ _ h => h)
        rfl
      · intro a W hd hS hdep hfree
        have x26 : a.tmps.getD 26 undef = .pointer (some ⟨w.heap.size, 3, none⟩) := hdep 1 26 rfl rfl
        clear hd hdep hfree
        have c : W.cell? ⟨w.heap.size, 3, none⟩ = some (.int .i64 t) := (HB3.out.below hS hg3).cell 3 (by simp)
        simp only [Oper.wp, execOp]
        go_simp
        refine Nxt.mk _ rfl (fun _ _ => ?_) hS (fun _ _ h => h)
        rfl
      · intro a W hd hS hdep hfree
        have x27 : a.tmps.getD 27 undef = .int .i64 t := hdep 2 27 rfl rfl
        clear hd hdep hfree
        simp only [Oper.wp, execOp]
        go_simp
        refine (HWt.out W).mono ?_
        rintro e W' ⟨rfl, hb⟩
        exact Nxt.mk _ rfl (fun _ _ => rfl) (below_comp hS hb) (fun j u h => Vals.below hb j u h)
      · intro a W hd hS hdep hfree
        have x25 : a.tmps.getD 25 undef = .string ((((mac d) ++ (mac s)) ++ (w16 33024)) ++ (w16 v)) := hdep 0 25 rfl rfl
        have x28 : a.tmps.getD 28 undef = .string (w16 t) := hdep 3 28 rfl rfl
        clear hd hdep hfree
        have k : ¬ 9223372036854775807 < ((((mac d) ++ (mac s)) ++ (w16 33024)) ++ (w16 v)).size + (w16 t).size := by (try simp only [ByteArray.size_append]); omega
        have k2 := k
        try simp only [ByteArray.size_append] at k2
        simp only [Oper.wp, execOp]
        go_simp
        refine Nxt.mk _ rfl (fun _ _ => ?_) hS (fun _ _ h => h)
        rfl
      · intro a W hd hS hdep hfree
        have x1 : a.tmps.getD 1 undef = .pointer (some ⟨w.heap.size, 0, none⟩) := hfree 1 rfl
        clear hd hdep hfree
        simp only [Oper.wp, execOp]
        go_simp
        refine Nxt.mk _ rfl (fun _ _ => ?_) hS (fun _ _ h => h)
        rfl
      · intro a W hd hS hdep hfree
        have x30 : a.tmps.getD 30 undef = .pointer (some ⟨w.heap.size, 4, none⟩) := hdep 5 30 rfl rfl
        clear hd hdep hfree
        have c : W.cell? ⟨w.heap.size, 4, none⟩ = some (.string b) := (HB3.out.below hS hg3).cell 4 (by simp)
        simp only [Oper.wp, execOp]
        go_simp
        refine Nxt.mk _ rfl (fun _ _ => ?_) hS (fun _ _ h => h)
        rfl
      · intro a W hd hS hdep hfree
        have x29 : a.tmps.getD 29 undef = .string (((((mac d) ++ (mac s)) ++ (w16 33024)) ++ (w16 v)) ++ (w16 t)) := hdep 4 29 rfl rfl
        have x31 : a.tmps.getD 31 undef = .string b := hdep 6 31 rfl rfl
        clear hd hdep hfree
        have k : ¬ 9223372036854775807 < (((((mac d) ++ (mac s)) ++ (w16 33024)) ++ (w16 v)) ++ (w16 t)).size + b.size := by (try simp only [ByteArray.size_append]); omega
        have k2 := k
        try simp only [ByteArray.size_append] at k2
        simp only [Oper.wp, execOp]
        go_simp
        refine Nxt.mk _ rfl (fun _ _ => ?_) hS (fun _ _ h => h)
        rfl
      · intro a W hd hS hdep hfree
        have x32 : a.tmps.getD 32 undef = .string ((((((mac d) ++ (mac s)) ++ (w16 33024)) ++ (w16 v)) ++ (w16 t)) ++ b) := hdep 7 32 rfl rfl
        clear hd hdep hfree
        simp only [Oper.wp, execOp]
        go_simp
        refine Nxt.mk _ rfl (fun _ _ => ?_) hS (fun _ _ h => h)
        rfl
      · intro a W hd hS hdep hfree
        clear hd hdep hfree
        simp only [Oper.wp, execOp]
        go_simp
        refine Nxt.mk _ rfl (fun _ _ => ?_) hS (fun _ _ h => h)
        rfl
    intro a W4 hs hd hS4 hdone hrest
    have ea := written_all [.string ((((mac d) ++ (mac s)) ++ (w16 33024)) ++ (w16 v)), .pointer (some ⟨w.heap.size, 3, none⟩), .int .i64 t, .string (w16 t), .string (((((mac d) ++ (mac s)) ++ (w16 33024)) ++ (w16 v)) ++ (w16 t)), .pointer (some ⟨w.heap.size, 4, none⟩), .string b, .string ((((((mac d) ++ (mac s)) ++ (w16 33024)) ++ (w16 v)) ++ (w16 t)) ++ b), .string ((((((mac d) ++ (mac s)) ++ (w16 33024)) ++ (w16 v)) ++ (w16 t)) ++ b), .bool true] rfl hs hd hrest hdone
    clear hs hd hdone hrest
    subst ea
    simp only [written, List.map_cons, List.map_nil, List.zip_cons_cons, List.zip_nil_right, putAll]
    simp only [Exit.then, Act.put, List.setIfInBounds_toArray, List.set_cons_zero, List.set_cons_succ]
    go_wp2
    go_ret2
    refine ⟨ret_str_bool ?_ rfl, below_comp hb03 hS4⟩
    exact bytes_tagged d s v t b HVV.out
  · have e0 : ¬ 0 ≤ v := by omega
    have HVV := Lib.hid (show v < 0 by omega)
    clear hv
    go_wp2_with fail
    refine wp_region_values (by kernel_rfl) (fun W => Below W2.heap.size W2 W) (Vals [.string ((mac d) ++ (mac s)), .pointer (some ⟨w.heap.size, 3, none⟩), .int .i64 t, .string (w16 t), .string (((mac d) ++ (mac s)) ++ (w16 t)), .pointer (some ⟨w.heap.size, 4, none⟩), .string b, .string ((((mac d) ++ (mac s)) ++ (w16 t)) ++ b), .string ((((mac d) ++ (mac s)) ++ (w16 t)) ++ b), .bool true] [])
      33 rfl (by kernel_rfl) (by kernel_rfl) below_drew (eachOp_all ?_) ?_
    · refine ⟨?_, ?_, ?_, ?_, ?_, ?_, ?_, ?_, ?_, ?_, trivial⟩
      · intro a W hd hS hdep hfree
        have x4 : a.tmps.getD 4 undef = .string ((mac d) ++ (mac s)) := hfree 4 rfl
        clear hd hdep hfree
        simp only [Oper.wp, execOp]
        go_simp
        refine Nxt.mk _ rfl (fun _ _ => ?_) hS (fun _ _ h => h)
        rfl
      · intro a W hd hS hdep hfree
        have x1 : a.tmps.getD 1 undef = .pointer (some ⟨w.heap.size, 0, none⟩) := hfree 1 rfl
        clear hd hdep hfree
        simp only [Oper.wp, execOp]
        go_simp
        refine Nxt.mk _ rfl (fun _ _ => ?_) hS (fun _ _ h => h)
        rfl
      · intro a W hd hS hdep hfree
        have x26 : a.tmps.getD 26 undef = .pointer (some ⟨w.heap.size, 3, none⟩) := hdep 1 26 rfl rfl
        clear hd hdep hfree
        have c : W.cell? ⟨w.heap.size, 3, none⟩ = some (.int .i64 t) := (HB2.out.below hS hg2).cell 3 (by simp)
        simp only [Oper.wp, execOp]
        go_simp
        refine Nxt.mk _ rfl (fun _ _ => ?_) hS (fun _ _ h => h)
        rfl
      · intro a W hd hS hdep hfree
        have x27 : a.tmps.getD 27 undef = .int .i64 t := hdep 2 27 rfl rfl
        clear hd hdep hfree
        simp only [Oper.wp, execOp]
        go_simp
        refine (HWt.out W).mono ?_
        rintro e W' ⟨rfl, hb⟩
        exact Nxt.mk _ rfl (fun _ _ => rfl) (below_comp hS hb) (fun j u h => Vals.below hb j u h)
      · intro a W hd hS hdep hfree
        have x25 : a.tmps.getD 25 undef = .string ((mac d) ++ (mac s)) := hdep 0 25 rfl rfl
        have x28 : a.tmps.getD 28 undef = .string (w16 t) := hdep 3 28 rfl rfl
        clear hd hdep hfree
        have k : ¬ 9223372036854775807 < ((mac d) ++ (mac s)).size + (w16 t).size := by (try simp only [ByteArray.size_append]); omega
        have k2 := k
        try simp only [ByteArray.size_append] at k2
        simp only [Oper.wp, execOp]
        go_simp
        refine Nxt.mk _ rfl (fun _ _ => ?_) hS (fun _ _ h => h)
        rfl
      · intro a W hd hS hdep hfree
        have x1 : a.tmps.getD 1 undef = .pointer (some ⟨w.heap.size, 0, none⟩) := hfree 1 rfl
        clear hd hdep hfree
        simp only [Oper.wp, execOp]
        go_simp
        refine Nxt.mk _ rfl (fun _ _ => ?_) hS (fun _ _ h => h)
        rfl
      · intro a W hd hS hdep hfree
        have x30 : a.tmps.getD 30 undef = .pointer (some ⟨w.heap.size, 4, none⟩) := hdep 5 30 rfl rfl
        clear hd hdep hfree
        have c : W.cell? ⟨w.heap.size, 4, none⟩ = some (.string b) := (HB2.out.below hS hg2).cell 4 (by simp)
        simp only [Oper.wp, execOp]
        go_simp
        refine Nxt.mk _ rfl (fun _ _ => ?_) hS (fun _ _ h => h)
        rfl
      · intro a W hd hS hdep hfree
        have x29 : a.tmps.getD 29 undef = .string (((mac d) ++ (mac s)) ++ (w16 t)) := hdep 4 29 rfl rfl
        have x31 : a.tmps.getD 31 undef = .string b := hdep 6 31 rfl rfl
        clear hd hdep hfree
        have k : ¬ 9223372036854775807 < (((mac d) ++ (mac s)) ++ (w16 t)).size + b.size := by (try simp only [ByteArray.size_append]); omega
        have k2 := k
        try simp only [ByteArray.size_append] at k2
        simp only [Oper.wp, execOp]
        go_simp
        refine Nxt.mk _ rfl (fun _ _ => ?_) hS (fun _ _ h => h)
        rfl
      · intro a W hd hS hdep hfree
        have x32 : a.tmps.getD 32 undef = .string ((((mac d) ++ (mac s)) ++ (w16 t)) ++ b) := hdep 7 32 rfl rfl
        clear hd hdep hfree
        simp only [Oper.wp, execOp]
        go_simp
        refine Nxt.mk _ rfl (fun _ _ => ?_) hS (fun _ _ h => h)
        rfl
      · intro a W hd hS hdep hfree
        clear hd hdep hfree
        simp only [Oper.wp, execOp]
        go_simp
        refine Nxt.mk _ rfl (fun _ _ => ?_) hS (fun _ _ h => h)
        rfl
    intro a W4 hs hd hS4 hdone hrest
    have ea := written_all [.string ((mac d) ++ (mac s)), .pointer (some ⟨w.heap.size, 3, none⟩), .int .i64 t, .string (w16 t), .string (((mac d) ++ (mac s)) ++ (w16 t)), .pointer (some ⟨w.heap.size, 4, none⟩), .string b, .string ((((mac d) ++ (mac s)) ++ (w16 t)) ++ b), .string ((((mac d) ++ (mac s)) ++ (w16 t)) ++ b), .bool true] rfl hs hd hrest hdone
    clear hs hd hdone hrest
    subst ea
    simp only [written, List.map_cons, List.map_nil, List.zip_cons_cons, List.zip_nil_right, putAll]
    simp only [Exit.then, Act.put, List.setIfInBounds_toArray, List.set_cons_zero, List.set_cons_succ]
    go_wp2
    go_ret2
    refine ⟨ret_str_bool ?_ rfl, below_comp hb02 hS4⟩
    exact bytes_plain d s v t b HVV.out

set_option maxHeartbeats 4000000 in
set_option maxRecDepth 100000 in
theorem impl_build_yes (e : EthM) (w : World) (h : e.Ok) :
    Calls Try.prog 35 #[e.val] w fun r w' => r = .returned (.tuple #[.string e.bytes, .bool true]) ∧ Below w.heap.size w w' := by
  have HV : Hid (∀ w1, Calls Try.prog 36 #[e.val] w1 fun r w' => r = .returned (.bool true) ∧ Below w1.heap.size w1 w') := Lib.hid fun w1 => by have := impl_ethok e w1; rwa [decide_eq_true h] at this
  obtain ⟨d, s, v, t, b⟩ := e
  unfold EthM.val at *
  dsimp only at *
  obtain ⟨h1, h2, h3, h4, h5, h6⟩ := h
  dsimp only at h1 h2 h3 h4 h5 h6
  have hv4 := h3
  have HM_d := Lib.hid fun W => impl_mac d W h1
  have HM_s := Lib.hid fun W => impl_mac s W h2
  have HW0 := Lib.hid fun W => (by have := impl_word16 33024 W; rwa [word16_in _ (by decide)] at this : Calls Try.prog 71 #[.int .i64 33024] W fun r w' => r = .returned (.string (w16 33024)) ∧ Below W.heap.size W w')
  have HWt := Lib.hid fun W => (by have := impl_word16 t W; rwa [word16_in _ (by omega)] at this : Calls Try.prog 71 #[.int .i64 t] W fun r w' => r = .returned (.string (w16 t)) ∧ Below W.heap.size W w')
  have z1 : (mac d).size ≤ 6 := Nat.le_refl _
  have z2 : (mac s).size ≤ 6 := Nat.le_refl _
  have z3 : (w16 33024).size ≤ 2 := Nat.le_refl _
  have z4 : (w16 v).size ≤ 2 := Nat.le_refl _
  have z5 : (w16 t).size ≤ 2 := Nat.le_refl _
  have H5 := Lib.hid h5
  clear h5
  have hv : 0 ≤ v ∨ v = -1 := by omega
  go_enter Try.func35, Try.ntmps35
  go_wp2_with (go_at_call 36; refine (HV.out _).mono ?_; rintro e w1 ⟨rfl, hb1⟩)
  have hg1 : w.heap.size < w1.heap.size := by have := hb1.size; simp at this; omega
  have HB1 := Lib.hid ((Box.new w #[.int .i64 d, .int .i64 s, .int .i64 v, .int .i64 t, .string b] 23).below hb1 (by simp))
  have hb01 := below_comp (below_new _) hb1
  clear hb1 h1 h2 h3
  refine wp_region_values (by kernel_rfl) (fun W => Below w1.heap.size w1 W) (Vals [.pointer (some ⟨w.heap.size, 0, none⟩), .int .i64 d, .string (mac d), .pointer (some ⟨w.heap.size, 1, none⟩), .int .i64 s, .string (mac s), .string ((mac d) ++ (mac s)), .string ((mac d) ++ (mac s))] [])
    33 rfl (by kernel_rfl) (by kernel_rfl) below_drew (eachOp_all ?_) ?_
  · refine ⟨?_, ?_, ?_, ?_, ?_, ?_, ?_, ?_, trivial⟩
    · intro a W hd hS hdep hfree
      have x1 : a.tmps.getD 1 undef = .pointer (some ⟨w.heap.size, 0, none⟩) := hfree 1 rfl
      clear hd hdep hfree
      simp only [Oper.wp, execOp]
      go_simp
      refine Nxt.mk _ rfl (fun _ _ => ?_) hS (fun _ _ h => h)
      rfl
    · intro a W hd hS hdep hfree
      have x8 : a.tmps.getD 8 undef = .pointer (some ⟨w.heap.size, 0, none⟩) := hdep 0 8 rfl rfl
      clear hd hdep hfree
      have c : W.cell? ⟨w.heap.size, 0, none⟩ = some (.int .i64 d) := (HB1.out.below hS hg1).cell 0 (by simp)
      simp only [Oper.wp, execOp]
      go_simp
      refine Nxt.mk _ rfl (fun _ _ => ?_) hS (fun _ _ h => h)
      rfl
    · intro a W hd hS hdep hfree
      have x9 : a.tmps.getD 9 undef = .int .i64 d := hdep 1 9 rfl rfl
      clear hd hdep hfree
      simp only [Oper.wp, execOp]
      go_simp
      refine (HM_d.out W).mono ?_
      rintro e W' ⟨rfl, hb⟩
      exact Nxt.mk _ rfl (fun _ _ => rfl) (below_comp hS hb) (fun j u h => Vals.below hb j u h)
    · intro a W hd hS hdep hfree
      have x1 : a.tmps.getD 1 undef = .pointer (some ⟨w.heap.size, 0, none⟩) := hfree 1 rfl
      clear hd hdep hfree
      simp only [Oper.wp, execOp]
      go_simp
      refine Nxt.mk _ rfl (fun _ _ => ?_) hS (fun _ _ h => h)
      rfl
    · intro a W hd hS hdep hfree
      have x11 : a.tmps.getD 11 undef = .pointer (some ⟨w.heap.size, 1, none⟩) := hdep 3 11 rfl rfl
      clear hd hdep hfree
      have c : W.cell? ⟨w.heap.size, 1, none⟩ = some (.int .i64 s) := (HB1.out.below hS hg1).cell 1 (by simp)
      simp only [Oper.wp, execOp]
      go_simp
      refine Nxt.mk _ rfl (fun _ _ => ?_) hS (fun _ _ h => h)
      rfl
    · intro a W hd hS hdep hfree
      have x12 : a.tmps.getD 12 undef = .int .i64 s := hdep 4 12 rfl rfl
      clear hd hdep hfree
      simp only [Oper.wp, execOp]
      go_simp
      refine (HM_s.out W).mono ?_
      rintro e W' ⟨rfl, hb⟩
      exact Nxt.mk _ rfl (fun _ _ => rfl) (below_comp hS hb) (fun j u h => Vals.below hb j u h)
    · intro a W hd hS hdep hfree
      have x10 : a.tmps.getD 10 undef = .string (mac d) := hdep 2 10 rfl rfl
      have x13 : a.tmps.getD 13 undef = .string (mac s) := hdep 5 13 rfl rfl
      clear hd hdep hfree
      have k : ¬ 9223372036854775807 < (mac d).size + (mac s).size := by (try simp only [ByteArray.size_append]); omega
      have k2 := k
      try simp only [ByteArray.size_append] at k2
      simp only [Oper.wp, execOp]
      go_simp
      refine Nxt.mk _ rfl (fun _ _ => ?_) hS (fun _ _ h => h)
      rfl
    · intro a W hd hS hdep hfree
      have x14 : a.tmps.getD 14 undef = .string ((mac d) ++ (mac s)) := hdep 6 14 rfl rfl
      clear hd hdep hfree
      simp only [Oper.wp, execOp]
      go_simp
      refine Nxt.mk _ rfl (fun _ _ => ?_) hS (fun _ _ h => h)
      rfl
  intro a W2 hs hd hS2 hdone hrest
  have ea := written_all [.pointer (some ⟨w.heap.size, 0, none⟩), .int .i64 d, .string (mac d), .pointer (some ⟨w.heap.size, 1, none⟩), .int .i64 s, .string (mac s), .string ((mac d) ++ (mac s)), .string ((mac d) ++ (mac s))] rfl hs hd hrest hdone
  clear hs hd hdone hrest
  subst ea
  simp only [written, List.map_cons, List.map_nil, List.zip_cons_cons, List.zip_nil_right, putAll]
  simp only [Exit.then, Act.put, List.setIfInBounds_toArray, List.set_cons_zero, List.set_cons_succ]
  have hg2 : w.heap.size < W2.heap.size := Nat.lt_of_lt_of_le hg1 hS2.size
  have HB2 := Lib.hid (HB1.out.below hS2 hg1)
  have hb02 := below_comp hb01 hS2
  have c2 : W2.cell? ⟨w.heap.size, 2, none⟩ = some (.int .i64 v) := HB2.out.cell 2 (by simp)
  clear hS2
  rcases hv with hv | hv
  · have e0 : (v != -1) = true := by rw [bne_iff_ne]; omega
    have HVV := Lib.hid hv
    have HWv := Lib.hid fun W => (by have := impl_word16 v W; rwa [word16_in _ ⟨HVV.out, by have := hv4.2; omega⟩] at this : Calls Try.prog 71 #[.int .i64 v] W fun r w' => r = .returned (.string (w16 v)) ∧ Below W.heap.size W w')
    clear hv
    go_wp2_with fail
    refine wp_region_values (by kernel_rfl) (fun W => Below W2.heap.size W2 W) (Vals [.string ((mac d) ++ (mac s)), .string (w16 33024), .pointer (some ⟨w.heap.size, 2, none⟩), .int .i64 v, .string (w16 v), .string ((w16 33024) ++ (w16 v)), .string (((mac d) ++ (mac s)) ++ ((w16 33024) ++ (w16 v))), .string (((mac d) ++ (mac s)) ++ ((w16 33024) ++ (w16 v)))] [])
      33 rfl (by kernel_rfl) (by kernel_rfl) below_drew (eachOp_all ?_) ?_
    · refine ⟨?_, ?_, ?_, ?_, ?_, ?_, ?_, ?_, trivial⟩
      · intro a W hd hS hdep hfree
        have x4 : a.tmps.getD 4 undef = .string ((mac d) ++ (mac s)) := hfree 4 rfl
        clear hd hdep hfree
        simp only [Oper.wp, execOp]
        go_simp
        refine Nxt.mk _ rfl (fun _ _ => ?_) hS (fun _ _ h => h)
        rfl
      · intro a W hd hS hdep hfree
        clear hd hdep hfree
        simp only [Oper.wp, execOp]
        go_simp
        refine (HW0.out W).mono ?_
        rintro e W' ⟨rfl, hb⟩
        exact Nxt.mk _ rfl (fun _ _ => rfl) (below_comp hS hb) (fun j u h => Vals.below hb j u h)
      · intro a W hd hS hdep hfree
        have x1 : a.tmps.getD 1 undef = .pointer (some ⟨w.heap.size, 0, none⟩) := hfree 1 rfl
        clear hd hdep hfree
        simp only [Oper.wp, execOp]
        go_simp
        refine Nxt.mk _ rfl (fun _ _ => ?_) hS (fun _ _ h => h)
        rfl
      · intro a W hd hS hdep hfree
        have x20 : a.tmps.getD 20 undef = .pointer (some ⟨w.heap.size, 2, none⟩) := hdep 2 20 rfl rfl
        clear hd hdep hfree
        have c : W.cell? ⟨w.heap.size, 2, none⟩ = some (.int .i64 v) := (HB2.out.below hS hg2).cell 2 (by simp)
        simp only [Oper.wp, execOp]
        go_simp
        refine Nxt.mk _ rfl (fun _ _ => ?_) hS (fun _ _ h => h)
        rfl
      · intro a W hd hS hdep hfree
        have x21 : a.tmps.getD 21 undef = .int .i64 v := hdep 3 21 rfl rfl
        clear hd hdep hfree
        simp only [Oper.wp, execOp]
        go_simp
        refine (HWv.out W).mono ?_
        rintro e W' ⟨rfl, hb⟩
        exact Nxt.mk _ rfl (fun _ _ => rfl) (below_comp hS hb) (fun j u h => Vals.below hb j u h)
      · intro a W hd hS hdep hfree
        have x19 : a.tmps.getD 19 undef = .string (w16 33024) := hdep 1 19 rfl rfl
        have x22 : a.tmps.getD 22 undef = .string (w16 v) := hdep 4 22 rfl rfl
        clear hd hdep hfree
        have k : ¬ 9223372036854775807 < (w16 33024).size + (w16 v).size := by (try simp only [ByteArray.size_append]); omega
        have k2 := k
        try simp only [ByteArray.size_append] at k2
        simp only [Oper.wp, execOp]
        go_simp
        refine Nxt.mk _ rfl (fun _ _ => ?_) hS (fun _ _ h => h)
        rfl
      · intro a W hd hS hdep hfree
        have x18 : a.tmps.getD 18 undef = .string ((mac d) ++ (mac s)) := hdep 0 18 rfl rfl
        have x23 : a.tmps.getD 23 undef = .string ((w16 33024) ++ (w16 v)) := hdep 5 23 rfl rfl
        clear hd hdep hfree
        have k : ¬ 9223372036854775807 < ((mac d) ++ (mac s)).size + ((w16 33024) ++ (w16 v)).size := by (try simp only [ByteArray.size_append]); omega
        have k2 := k
        try simp only [ByteArray.size_append] at k2
        simp only [Oper.wp, execOp]
        go_simp
        refine Nxt.mk _ rfl (fun _ _ => ?_) hS (fun _ _ h => h)
        rfl
      · intro a W hd hS hdep hfree
        have x24 : a.tmps.getD 24 undef = .string (((mac d) ++ (mac s)) ++ ((w16 33024) ++ (w16 v))) := hdep 6 24 rfl rfl
        clear hd hdep hfree
        simp only [Oper.wp, execOp]
        go_simp
        refine Nxt.mk _ rfl (fun _ _ => ?_) hS (fun _ _ h => h)
        rfl
    intro a W3 hs hd hS3 hdone hrest
    have ea := written_all [.string ((mac d) ++ (mac s)), .string (w16 33024), .pointer (some ⟨w.heap.size, 2, none⟩), .int .i64 v, .string (w16 v), .string ((w16 33024) ++ (w16 v)), .string (((mac d) ++ (mac s)) ++ ((w16 33024) ++ (w16 v))), .string (((mac d) ++ (mac s)) ++ ((w16 33024) ++ (w16 v)))] rfl hs hd hrest hdone
    clear hs hd hdone hrest
    subst ea
    simp only [written, List.map_cons, List.map_nil, List.zip_cons_cons, List.zip_nil_right, putAll]
    simp only [Exit.then, Act.put, List.setIfInBounds_toArray, List.set_cons_zero, List.set_cons_succ]
    have hg3 : w.heap.size < W3.heap.size := Nat.lt_of_lt_of_le hg2 hS3.size
    have HB3 := Lib.hid (HB2.out.below hS3 hg2)
    have hb03 := below_comp hb02 hS3
    clear hS3 c2 e0
    go_wp2_with fail
    refine wp_region_values (by kernel_rfl) (fun W => Below W3.heap.size W3 W) (Vals [.string (((mac d) ++ (mac s)) ++ ((w16 33024) ++ (w16 v))), .pointer (some ⟨w.heap.size, 3, none⟩), .int .i64 t, .string (w16 t), .string ((((mac d) ++ (mac s)) ++ ((w16 33024) ++ (w16 v))) ++ (w16 t)), .pointer (some ⟨w.heap.size, 4, none⟩), .string b, .string (((((mac d) ++ (mac s)) ++ ((w16 33024) ++ (w16 v))) ++ (w16 t)) ++ b), .string (((((mac d) ++ (mac s)) ++ ((w16 33024) ++ (w16 v))) ++ (w16 t)) ++ b), .bool true] [])
      33 rfl (by kernel_rfl) (by kernel_rfl) below_drew (eachOp_all ?_) ?_
    · refine ⟨?_, ?_, ?_, ?_, ?_, ?_, ?_, ?_, ?_, ?_, trivial⟩
      · intro a W hd hS hdep hfree
        have x4 : a.tmps.getD 4 undef = .string (((mac d) ++ (mac s)) ++ ((w16 33024) ++ (w16 v))) := hfree 4 rfl
        clear hd hdep hfree
        simp only [Oper.wp, execOp]
        go_simp
        refine Nxt.mk _ rfl (fun _ _ => ?_) hS (fun _ _ h => h)
        rfl
      · intro a W hd hS hdep hfree
        have x1 : a.tmps.getD 1 undef = .pointer (some ⟨w.heap.size, 0, none⟩) := hfree 1 rfl
        clear hd hdep hfree
        simp only [Oper.wp, execOp]
        go_simp
        refine Nxt.mk _ rfl (fun _ _ => ?_) hS (fun _ _ h => h)
        rfl
      · intro a W hd hS hdep hfree
        have x26 : a.tmps.getD 26 undef = .pointer (some ⟨w.heap.size, 3, none⟩) := hdep 1 26 rfl rfl
        clear hd hdep hfree
        have c : W.cell? ⟨w.heap.size, 3, none⟩ = some (.int .i64 t) := (HB3.out.below hS hg3).cell 3 (by simp)
        simp only [Oper.wp, execOp]
        go_simp
        refine Nxt.mk _ rfl (fun _ _ => ?_) hS (fun _ _ h => h)
        rfl
      · intro a W hd hS hdep hfree
        have x27 : a.tmps.getD 27 undef = .int .i64 t := hdep 2 27 rfl rfl
        clear hd hdep hfree
        simp only [Oper.wp, execOp]
        go_simp
        refine (HWt.out W).mono ?_
        rintro e W' ⟨rfl, hb⟩
        exact Nxt.mk _ rfl (fun _ _ => rfl) (below_comp hS hb) (fun j u h => Vals.below hb j u h)
      · intro a W hd hS hdep hfree
        have x25 : a.tmps.getD 25 undef = .string (((mac d) ++ (mac s)) ++ ((w16 33024) ++ (w16 v))) := hdep 0 25 rfl rfl
        have x28 : a.tmps.getD 28 undef = .string (w16 t) := hdep 3 28 rfl rfl
        clear hd hdep hfree
        have k : ¬ 9223372036854775807 < (((mac d) ++ (mac s)) ++ ((w16 33024) ++ (w16 v))).size + (w16 t).size := by (try simp only [ByteArray.size_append]); omega
        have k2 := k
        try simp only [ByteArray.size_append] at k2
        simp only [Oper.wp, execOp]
        go_simp
        refine Nxt.mk _ rfl (fun _ _ => ?_) hS (fun _ _ h => h)
        rfl
      · intro a W hd hS hdep hfree
        have x1 : a.tmps.getD 1 undef = .pointer (some ⟨w.heap.size, 0, none⟩) := hfree 1 rfl
        clear hd hdep hfree
        simp only [Oper.wp, execOp]
        go_simp
        refine Nxt.mk _ rfl (fun _ _ => ?_) hS (fun _ _ h => h)
        rfl
      · intro a W hd hS hdep hfree
        have x30 : a.tmps.getD 30 undef = .pointer (some ⟨w.heap.size, 4, none⟩) := hdep 5 30 rfl rfl
        clear hd hdep hfree
        have c : W.cell? ⟨w.heap.size, 4, none⟩ = some (.string b) := (HB3.out.below hS hg3).cell 4 (by simp)
        simp only [Oper.wp, execOp]
        go_simp
        refine Nxt.mk _ rfl (fun _ _ => ?_) hS (fun _ _ h => h)
        rfl
      · intro a W hd hS hdep hfree
        have x29 : a.tmps.getD 29 undef = .string ((((mac d) ++ (mac s)) ++ ((w16 33024) ++ (w16 v))) ++ (w16 t)) := hdep 4 29 rfl rfl
        have x31 : a.tmps.getD 31 undef = .string b := hdep 6 31 rfl rfl
        clear hd hdep hfree
        have k : ¬ 9223372036854775807 < ((((mac d) ++ (mac s)) ++ ((w16 33024) ++ (w16 v))) ++ (w16 t)).size + b.size := by (try simp only [ByteArray.size_append]); omega
        have k2 := k
        try simp only [ByteArray.size_append] at k2
        simp only [Oper.wp, execOp]
        go_simp
        refine Nxt.mk _ rfl (fun _ _ => ?_) hS (fun _ _ h => h)
        rfl
      · intro a W hd hS hdep hfree
        have x32 : a.tmps.getD 32 undef = .string (((((mac d) ++ (mac s)) ++ ((w16 33024) ++ (w16 v))) ++ (w16 t)) ++ b) := hdep 7 32 rfl rfl
        clear hd hdep hfree
        simp only [Oper.wp, execOp]
        go_simp
        refine Nxt.mk _ rfl (fun _ _ => ?_) hS (fun _ _ h => h)
        rfl
      · intro a W hd hS hdep hfree
        clear hd hdep hfree
        simp only [Oper.wp, execOp]
        go_simp
        refine Nxt.mk _ rfl (fun _ _ => ?_) hS (fun _ _ h => h)
        rfl
    intro a W4 hs hd hS4 hdone hrest
    have ea := written_all [.string (((mac d) ++ (mac s)) ++ ((w16 33024) ++ (w16 v))), .pointer (some ⟨w.heap.size, 3, none⟩), .int .i64 t, .string (w16 t), .string ((((mac d) ++ (mac s)) ++ ((w16 33024) ++ (w16 v))) ++ (w16 t)), .pointer (some ⟨w.heap.size, 4, none⟩), .string b, .string (((((mac d) ++ (mac s)) ++ ((w16 33024) ++ (w16 v))) ++ (w16 t)) ++ b), .string (((((mac d) ++ (mac s)) ++ ((w16 33024) ++ (w16 v))) ++ (w16 t)) ++ b), .bool true] rfl hs hd hrest hdone
    clear hs hd hdone hrest
    subst ea
    simp only [written, List.map_cons, List.map_nil, List.zip_cons_cons, List.zip_nil_right, putAll]
    simp only [Exit.then, Act.put, List.setIfInBounds_toArray, List.set_cons_zero, List.set_cons_succ]
    go_wp2
    go_ret2
    refine ⟨ret_str_bool ?_ rfl, below_comp hb03 hS4⟩
    rw [← bytes_tagged d s v t b HVV.out]; simp only [ByteArray.append_assoc]
  · have e0 : (v != -1) = false := by rw [hv]; rfl
    have HVV := Lib.hid (show v < 0 by omega)
    clear hv
    go_wp2_with fail
    refine wp_region_values (by kernel_rfl) (fun W => Below W2.heap.size W2 W) (Vals [.string ((mac d) ++ (mac s)), .pointer (some ⟨w.heap.size, 3, none⟩), .int .i64 t, .string (w16 t), .string (((mac d) ++ (mac s)) ++ (w16 t)), .pointer (some ⟨w.heap.size, 4, none⟩), .string b, .string ((((mac d) ++ (mac s)) ++ (w16 t)) ++ b), .string ((((mac d) ++ (mac s)) ++ (w16 t)) ++ b), .bool true] [])
      33 rfl (by kernel_rfl) (by kernel_rfl) below_drew (eachOp_all ?_) ?_
    · refine ⟨?_, ?_, ?_, ?_, ?_, ?_, ?_, ?_, ?_, ?_, trivial⟩
      · intro a W hd hS hdep hfree
        have x4 : a.tmps.getD 4 undef = .string ((mac d) ++ (mac s)) := hfree 4 rfl
        clear hd hdep hfree
        simp only [Oper.wp, execOp]
        go_simp
        refine Nxt.mk _ rfl (fun _ _ => ?_) hS (fun _ _ h => h)
        rfl
      · intro a W hd hS hdep hfree
        have x1 : a.tmps.getD 1 undef = .pointer (some ⟨w.heap.size, 0, none⟩) := hfree 1 rfl
        clear hd hdep hfree
        simp only [Oper.wp, execOp]
        go_simp
        refine Nxt.mk _ rfl (fun _ _ => ?_) hS (fun _ _ h => h)
        rfl
      · intro a W hd hS hdep hfree
        have x26 : a.tmps.getD 26 undef = .pointer (some ⟨w.heap.size, 3, none⟩) := hdep 1 26 rfl rfl
        clear hd hdep hfree
        have c : W.cell? ⟨w.heap.size, 3, none⟩ = some (.int .i64 t) := (HB2.out.below hS hg2).cell 3 (by simp)
        simp only [Oper.wp, execOp]
        go_simp
        refine Nxt.mk _ rfl (fun _ _ => ?_) hS (fun _ _ h => h)
        rfl
      · intro a W hd hS hdep hfree
        have x27 : a.tmps.getD 27 undef = .int .i64 t := hdep 2 27 rfl rfl
        clear hd hdep hfree
        simp only [Oper.wp, execOp]
        go_simp
        refine (HWt.out W).mono ?_
        rintro e W' ⟨rfl, hb⟩
        exact Nxt.mk _ rfl (fun _ _ => rfl) (below_comp hS hb) (fun j u h => Vals.below hb j u h)
      · intro a W hd hS hdep hfree
        have x25 : a.tmps.getD 25 undef = .string ((mac d) ++ (mac s)) := hdep 0 25 rfl rfl
        have x28 : a.tmps.getD 28 undef = .string (w16 t) := hdep 3 28 rfl rfl
        clear hd hdep hfree
        have k : ¬ 9223372036854775807 < ((mac d) ++ (mac s)).size + (w16 t).size := by (try simp only [ByteArray.size_append]); omega
        have k2 := k
        try simp only [ByteArray.size_append] at k2
        simp only [Oper.wp, execOp]
        go_simp
        refine Nxt.mk _ rfl (fun _ _ => ?_) hS (fun _ _ h => h)
        rfl
      · intro a W hd hS hdep hfree
        have x1 : a.tmps.getD 1 undef = .pointer (some ⟨w.heap.size, 0, none⟩) := hfree 1 rfl
        clear hd hdep hfree
        simp only [Oper.wp, execOp]
        go_simp
        refine Nxt.mk _ rfl (fun _ _ => ?_) hS (fun _ _ h => h)
        rfl
      · intro a W hd hS hdep hfree
        have x30 : a.tmps.getD 30 undef = .pointer (some ⟨w.heap.size, 4, none⟩) := hdep 5 30 rfl rfl
        clear hd hdep hfree
        have c : W.cell? ⟨w.heap.size, 4, none⟩ = some (.string b) := (HB2.out.below hS hg2).cell 4 (by simp)
        simp only [Oper.wp, execOp]
        go_simp
        refine Nxt.mk _ rfl (fun _ _ => ?_) hS (fun _ _ h => h)
        rfl
      · intro a W hd hS hdep hfree
        have x29 : a.tmps.getD 29 undef = .string (((mac d) ++ (mac s)) ++ (w16 t)) := hdep 4 29 rfl rfl
        have x31 : a.tmps.getD 31 undef = .string b := hdep 6 31 rfl rfl
        clear hd hdep hfree
        have k : ¬ 9223372036854775807 < (((mac d) ++ (mac s)) ++ (w16 t)).size + b.size := by (try simp only [ByteArray.size_append]); omega
        have k2 := k
        try simp only [ByteArray.size_append] at k2
        simp only [Oper.wp, execOp]
        go_simp
        refine Nxt.mk _ rfl (fun _ _ => ?_) hS (fun _ _ h => h)
        rfl
      · intro a W hd hS hdep hfree
        have x32 : a.tmps.getD 32 undef = .string ((((mac d) ++ (mac s)) ++ (w16 t)) ++ b) := hdep 7 32 rfl rfl
        clear hd hdep hfree
        simp only [Oper.wp, execOp]
        go_simp
        refine Nxt.mk _ rfl (fun _ _ => ?_) hS (fun _ _ h => h)
        rfl
      · intro a W hd hS hdep hfree
        clear hd hdep hfree
        simp only [Oper.wp, execOp]
        go_simp
        refine Nxt.mk _ rfl (fun _ _ => ?_) hS (fun _ _ h => h)
        rfl
    intro a W4 hs hd hS4 hdone hrest
    have ea := written_all [.string ((mac d) ++ (mac s)), .pointer (some ⟨w.heap.size, 3, none⟩), .int .i64 t, .string (w16 t), .string (((mac d) ++ (mac s)) ++ (w16 t)), .pointer (some ⟨w.heap.size, 4, none⟩), .string b, .string ((((mac d) ++ (mac s)) ++ (w16 t)) ++ b), .string ((((mac d) ++ (mac s)) ++ (w16 t)) ++ b), .bool true] rfl hs hd hrest hdone
    clear hs hd hdone hrest
    subst ea
    simp only [written, List.map_cons, List.map_nil, List.zip_cons_cons, List.zip_nil_right, putAll]
    simp only [Exit.then, Act.put, List.setIfInBounds_toArray, List.set_cons_zero, List.set_cons_succ]
    go_wp2
    go_ret2
    refine ⟨ret_str_bool ?_ rfl, below_comp hb02 hS4⟩
    exact bytes_plain d s v t b HVV.out

end Go.Proofs.Ytioejbgdhmiiiaa
