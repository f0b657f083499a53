/- Texts of one claim, merged. -/
import Derived.Test.YtbidaccdjnbhfaaMgFrame1
import Derived.Test.YtbidaccdjnbhfaaRegion
import Derived.Test.YtbidaccdjnbhfaaBase
import Derived.Test.YtbidaccdjnbhfaaKit
import Derived.Test.YtbidaccdjnbhfaaShelfR
import Derived.Test.YtbidaccdjnbhfaaSuperOkB
import Derived.Test.YtbidaccdjnbhfaaCrcMath
import Derived.Laws.Cover3
import Derived.Laws.IdiomArrays
import Derived.Deep.RegionHeld3
import Derived.Deep.RegionWith
import Derived.BigRegion
import Derived.Laws.DeepStrings4
import Derived.ChangeKeysEq
/- BuildEth of both sides. -/
namespace Go.Proofs.Ytbidaccdjnbhfaa
open Go.RowKit
set_option linter.unusedSimpArgs false
set_option linter.unusedVariables false
theorem bytes_tagged (d s v t : Int) (b : ByteArray) (h : 0 ≤ v) : mac d ++ mac s ++ w16 33024 ++ w16 v ++ w16 t ++ b = EthM.bytes ⟨d, s, v, t, b⟩ := by
  unfold EthM.bytes EthM.tag
  dsimp only
  rw [if_pos h]
  simp only [ByteArray.append_assoc]
theorem bytes_plain (d s v t : Int) (b : ByteArray) (h : v < 0) : mac d ++ mac s ++ w16 t ++ b = EthM.bytes ⟨d, s, v, t, b⟩ := by
  unfold EthM.bytes EthM.tag
  dsimp only
  rw [if_neg (by omega)]
  rw [show (⟨#[]⟩ : ByteArray) = ByteArray.empty from rfl]
  simp only [ByteArray.append_assoc, ByteArray.empty_append]

set_option maxHeartbeats 4000000 in
set_option maxRecDepth 100000 in
theorem spec_build_yes (e : EthM) (w : World) (h : e.Ok) :
    Calls Try.prog 115 #[e.val] w fun r w' => r = .returned (.tuple #[.string e.bytes, .bool true]) ∧ Below w.heap.size w w' := by
  have HV : Hid (∀ w1, Calls Try.prog 129 #[e.val] w1 fun r w' => r = .returned (.bool true) ∧ Below w1.heap.size w1 w') := Lib.hid fun w1 => by have := spec_ethok e w1; rwa [decide_eq_true h] at this
  obtain ⟨d, s, v, t, b⟩ := e
  unfold EthM.val at *
  dsimp only at *
  obtain ⟨h1, h2, h3, h4, h5, h6⟩ := h
  dsimp only at h1 h2 h3 h4 h5 h6
  have hv4 := h3
  have HM_d := Lib.hid fun W => spec_mac d W h1
  have HM_s := Lib.hid fun W => spec_mac s W h2
  have HW0 := Lib.hid fun W => (by have := spec_word16 33024 W; rwa [word16_in _ (by decide)] at this : Calls Try.prog 83 #[.int .i64 33024] W fun r w' => r = .returned (.string (w16 33024)) ∧ Below W.heap.size W w')
  have HWt := Lib.hid fun W => (by have := spec_word16 t W; rwa [word16_in _ (by omega)] at this : Calls Try.prog 83 #[.int .i64 t] W fun r w' => r = .returned (.string (w16 t)) ∧ Below W.heap.size W w')
  have z1 : (mac d).size ≤ 6 := Nat.le_refl _
  have z2 : (mac s).size ≤ 6 := Nat.le_refl _
  have z3 : (w16 33024).size ≤ 2 := Nat.le_refl _
  have z4 : (w16 v).size ≤ 2 := Nat.le_refl _
  have z5 : (w16 t).size ≤ 2 := Nat.le_refl _
  have H5 := Lib.hid h5
  clear h5
  have hv : 0 ≤ v ∨ v = -1 := by omega
  go_enter Try.func115, Try.ntmps115
  go_wp2_with (go_at_call 129; refine (HV.out _).mono ?_; rintro e w1 ⟨rfl, hb1⟩)
  have hg1 : w.heap.size < w1.heap.size := by have := hb1.size; simp at this; omega
  have HB1 := Lib.hid ((Box.new w #[.int .i64 d, .int .i64 s, .int .i64 v, .int .i64 t, .string b] 128).below hb1 (by simp))
  have hb01 := below_comp (below_new _) hb1
  clear hb1 h1 h2 h3
  refine wp_region_values (by kernel_rfl) (fun W => Below w1.heap.size w1 W) (Vals [.pointer (some ⟨w.heap.size, 0, none⟩), .int .i64 d, .string (mac d), .pointer (some ⟨w.heap.size, 1, none⟩), .int .i64 s, .string (mac s), .string ((mac d) ++ (mac s)), .string ((mac d) ++ (mac s))] [])
    33 rfl (by kernel_rfl) (by kernel_rfl) below_drew (eachOp_all ?_) ?_
  · refine ⟨?_, ?_, ?_, ?_, ?_, ?_, ?_, ?_, trivial⟩
    · intro a W hd hS hdep hfree
      have x1 : a.tmps.getD 1 undef = .pointer (some ⟨w.heap.size, 0, none⟩) := hfree 1 rfl
      clear hd hdep hfree
      simp only [Oper.wp, execOp]
      go_simp
      refine Nxt.mk _ rfl (fun _ _ => ?_) hS (fun _ _ h => h)
      rfl
    · intro a W hd hS hdep hfree
      have x8 : a.tmps.getD 8 undef = .pointer (some ⟨w.heap.size, 0, none⟩) := hdep 0 8 rfl rfl
      clear hd hdep hfree
      have c : W.cell? ⟨w.heap.size, 0, none⟩ = some (.int .i64 d) := (HB1.out.below hS hg1).cell 0 (by simp)
      simp only [Oper.wp, execOp]
      go_simp
      refine Nxt.mk _ rfl (fun _ _ => ?_) hS (fun _ _ h => h)
      rfl
    · intro a W hd hS hdep hfree
      have x9 : a.tmps.getD 9 undef = .int .i64 d := hdep 1 9 rfl rfl
      clear hd hdep hfree
      simp only [Oper.wp, execOp]
      go_simp
      refine (HM_d.out W).mono ?_
      rintro e W' ⟨rfl, hb⟩
      exact Nxt.mk _ rfl (fun _ _ => rfl) (below_comp hS hb) (fun j u h => Vals.below hb j u h)
    · intro a W hd hS hdep hfree
      have x1 : a.tmps.getD 1 undef = .pointer (some ⟨w.heap.size, 0, none⟩) := hfree 1 rfl
      clear hd hdep hfree
      simp only [Oper.wp, execOp]
      go_simp
      refine Nxt.mk _ rfl (fun _ _ => ?_) hS (fun _ _ h => h)
      rfl
    · intro a W hd hS hdep hfree
      have x11 : a.tmps.getD 11 undef = .pointer (some ⟨w.heap.size, 1, none⟩) := hdep 3 11 rfl rfl
      clear hd hdep hfree
      have c : W.cell? ⟨w.heap.size, 1, none⟩ = some (.int .i64 s) := (HB1.out.below hS hg1).cell 1 (by simp)
      simp only [Oper.wp, execOp]
      go_simp
      refine Nxt.mk _ rfl (fun _ _ => ?_) hS (fun _ _ h => h)
      rfl
    · intro a W hd hS hdep hfree
      have x12 : a.tmps.getD 12 undef = .int .i64 s := hdep 4 12 rfl rfl
      clear hd hdep hfree
      simp only [Oper.wp, execOp]
      go_simp
      refine (HM_s.out W).mono ?_
      rintro e W' ⟨rfl, hb⟩
      exact Nxt.mk _ rfl (fun _ _ => rfl) (below_comp hS hb) (fun j u h => Vals.below hb j u h)
    · intro a W hd hS hdep hfree
      have x10 : a.tmps.getD 10 undef = .string (mac d) := hdep 2 10 rfl rfl
      have x13 : a.tmps.getD 13 undef = .string (mac s) := hdep 5 13 rfl rfl
      clear hd hdep hfree
      have k : ¬ 9223372036854775807 < (mac d).size + (mac s).size := by (try simp only [ByteArray.size_append]); omega
      have k2 := k
      try simp only [ByteArray.size_append] at k2
      simp only [Oper.wp, execOp]
      go_simp
      refine Nxt.mk _ rfl (fun _ _ => ?_) hS (fun _ _ h => h)
      rfl
    · intro a W hd hS hdep hfree
      have x14 : a.tmps.getD 14 undef = .string ((mac d) ++ (mac s)) := hdep 6 14 rfl rfl
      clear hd hdep hfree
      simp only [Oper.wp, execOp]
      go_simp
      refine Nxt.mk _ rfl (fun _ _ => ?_) hS (fun _ _ h => h)
      rfl
  intro a W2 hs hd hS2 hdone hrest
  have ea := written_all [.pointer (some ⟨w.heap.size, 0, none⟩), .int .i64 d, .string (mac d), .pointer (some ⟨w.heap.size, 1, none⟩), .int .i64 s, .string (mac s), .string ((mac d) ++ (mac s)), .string ((mac d) ++ (mac s))] rfl hs hd hrest hdone
  clear hs hd hdone hrest
  subst ea
  simp only [written, List.map_cons, List.map_nil, List.zip_cons_cons, List.zip_nil_right, putAll]
  simp only [Exit.then, Act.put, List.setIfInBounds_toArray, List.set_cons_zero, List.set_cons_succ]
  have hg2 : w.heap.size < W2.heap.size := Nat.lt_of_lt_of_le hg1 hS2.size
  have HB2 := Lib.hid (HB1.out.below hS2 hg1)
  have hb02 := below_comp hb01 hS2
  have c2 : W2.cell? ⟨w.heap.size, 2, none⟩ = some (.int .i64 v) := HB2.out.cell 2 (by simp)
  clear hS2
  rcases hv with hv | hv
  · have e0 : 0 ≤ v := hv
    have HVV := Lib.hid hv
    have HWv := Lib.hid fun W => (by have := spec_word16 v W; rwa [word16_in _ ⟨HVV.out, by have := hv4.2; omega⟩] at this : Calls Try.prog 83 #[.int .i64 v] W fun r w' => r = .returned (.string (w16 v)) ∧ Below W.heap.size W w')
    clear hv
    go_wp2_with fail
    refine wp_region_values (by kernel_rfl) (fun W => Below W2.heap.size W2 W) (Vals [.string ((mac d) ++ (mac s)), .string (w16 33024), .string (((mac d) ++ (mac s)) ++ (w16 33024)), .pointer (some ⟨w.heap.size, 2, none⟩), .int .i64 v, .string (w16 v), .string ((((mac d) ++ (mac s)) ++ (w16 33024)) ++ (w16 v)), .string ((((mac d) ++ (mac s)) ++ (w16 33024)) ++ (w16 v))] [])
      33 rfl (by kernel_rfl) (by kernel_rfl) below_drew (eachOp_all ?_) ?_
    · refine ⟨?_, ?_, ?_, ?_, ?_, ?_, ?_, ?_, trivial⟩
      · intro a W hd hS hdep hfree
        have x4 : a.tmps.getD 4 undef = .string ((mac d) ++ (mac s)) := hfree 4 rfl
        clear hd hdep hfree
        simp only [Oper.wp, execOp]
        go_simp
        refine Nxt.mk _ rfl (fun _ _ => ?_) hS (fun _ _ h => h)
        rfl
      · intro a W hd hS hdep hfree
        clear hd hdep hfree
        simp only [Oper.wp, execOp]
        go_simp
        refine (HW0.out W).mono ?_
        rintro e W' ⟨rfl, hb⟩
        exact Nxt.mk _ rfl (fun _ _ => rfl) (below_comp hS hb) (fun j u h => Vals.below hb j u h)
      · intro a W hd hS hdep hfree
        have x18 : a.tmps.getD 18 undef = .string ((mac d) ++ (mac s)) := hdep 0 18 rfl rfl
        have x19 : a.tmps.getD 19 undef = .string (w16 33024) := hdep 1 19 rfl rfl
        clear hd hdep hfree
        have k : ¬ 9223372036854775807 < ((mac d) ++ (mac s)).size + (w16 33024).size := by (try simp only [ByteArray.size_append]); omega
        have k2 := k
        try simp only [ByteArray.size_append] at k2
        simp only [Oper.wp, execOp]
        go_simp
        refine Nxt.mk _ rfl (fun _ _ => ?_) hS (fun _ _ h => h)
        rfl
      · intro a W hd hS hdep hfree
        have x1 : a.tmps.getD 1 undef = .pointer (some ⟨w.heap.size, 0, none⟩) := hfree 1 rfl
        clear hd hdep hfree
        simp only [Oper.wp, execOp]
        go_simp
        refine Nxt.mk _ rfl (fun _ _ => ?_) hS (fun _ _ h => h)
        rfl
      · intro a W hd hS hdep hfree
        have x21 : a.tmps.getD 21 undef = .pointer (some ⟨w.heap.size, 2, none⟩) := hdep 3 21 rfl rfl
        clear hd hdep hfree
        have c : W.cell? ⟨w.heap.size, 2, none⟩ = some (.int .i64 v) := (HB2.out.below hS hg2).cell 2 (by simp)
        simp only [Oper.wp, execOp]
        go_simp
        refine Nxt.mk _ rfl (fun _ _ => ?_) hS (fun _ _ h => h)
        rfl
      · intro a W hd hS hdep hfree
        have x22 : a.tmps.getD 22 undef = .int .i64 v := hdep 4 22 rfl rfl
        clear hd hdep hfree
        simp only [Oper.wp, execOp]
        go_simp
        refine (HWv.out W).mono ?_
        rintro e W' ⟨rfl, hb⟩
        exact Nxt.mk _ rfl (fun _ _ => rfl) (below_comp hS hb) (fun j u h => Vals.below hb j u h)
      · intro a W hd hS hdep hfree
        have x20 : a.tmps.getD 20 undef = .string (((mac d) ++ (mac s)) ++ (w16 33024)) := hdep 2 20 rfl rfl
        have x23 : a.tmps.getD 23 undef = .string (w16 v) := hdep 5 23 rfl rfl
        clear hd hdep hfree
        have k : ¬ 9223372036854775807 < (((mac d) ++ (mac s)) ++ (w16 33024)).size + (w16 v).size := by (try simp only [ByteArray.size_append]); omega
        have k2 := k
        try simp only [ByteArray.size_append] at k2
        simp only [Oper.wp, execOp]
        go_simp
        refine Nxt.mk _ rfl (fun _ _ => ?_) hS (fun _ _ h => h)
        rfl
      · intro a W hd hS hdep hfree
        have x24 : a.tmps.getD 24 undef = .string ((((mac d) ++ (mac s)) ++ (w16 33024)) ++ (w16 v)) := hdep 6 24 rfl rfl
        clear hd hdep hfree
        simp only [Oper.wp, execOp]
        go_simp
        refine Nxt.mk _ rfl (fun _ _ => ?_) hS (fun _ _ h => h)
        rfl
    intro a W3 hs hd hS3 hdone hrest
    have ea := written_all [.string ((mac d) ++ (mac s)), .string (w16 33024), .string (((mac d) ++ (mac s)) ++ (w16 33024)), .pointer (some ⟨w.heap.size, 2, none⟩), .int .i64 v, .string (w16 v), .string ((((mac d) ++ (mac s)) ++ (w16 33024)) ++ (w16 v)), .string ((((mac d) ++ (mac s)) ++ (w16 33024)) ++ (w16 v))] rfl hs hd hrest hdone
    clear hs hd hdone hrest
    subst ea
    simp only [written, List.map_cons, List.map_nil, List.zip_cons_cons, List.zip_nil_right, putAll]
    simp only [Exit.then, Act.put, List.setIfInBounds_toArray, List.set_cons_zero, List.set_cons_succ]
    have hg3 : w.heap.size < W3.heap.size := Nat.lt_of_lt_of_le hg2 hS3.size
    have HB3 := Lib.hid (HB2.out.below hS3 hg2)
    have hb03 := below_comp hb02 hS3
    clear hS3 c2 e0
    go_wp2_with fail
    refine wp_region_values (by kernel_rfl) (fun W => Below W3.heap.size W3 W) (Vals [.string ((((mac d) ++ (mac s)) ++ (w16 33024)) ++ (w16 v)), .pointer (some ⟨w.heap.size, 3, none⟩), .int .i64 t, .string (w16 t), .string (((((mac d) ++ (mac s)) ++ (w16 33024)) ++ (w16 v)) ++ (w16 t)), .pointer (some ⟨w.heap.size, 4, none⟩), .string b, .string ((((((mac d) ++ (mac s)) ++ (w16 33024)) ++ (w16 v)) ++ (w16 t)) ++ b), .string ((((((mac d) ++ (mac s)) ++ (w16 33024)) ++ (w16 v)) ++ (w16 t)) ++ b), .bool true] [])
      33 rfl (by kernel_rfl) (by kernel_rfl) below_drew (eachOp_all ?_) ?_
    · refine ⟨?_, ?_, ?_, ?_, ?_, ?_, ?_, ?_, ?_, ?_, trivial⟩
      · intro a W hd hS hdep hfree
        have x4 : a.tmps.getD 4 undef = .string ((((mac d) ++ (mac s)) ++ (w16 33024)) ++ (w16 v)) := hfree 4 rfl
        clear hd hdep hfree
        simp only [Oper.wp, execOp]
        go_simp
        refine Nxt.mk _ rfl (fun _ _ => ?_) hS (fun _ _ h => h)
        rfl
      · intro a W hd hS hdep hfree
        have x1 : a.tmps.getD 1 undef = .pointer (some ⟨w.heap.size, 0, none⟩) := hfree 1 rfl
        clear hd hdep hfree
        simp only [Oper.wp, execOp]
        go_simp
        refine Nxt.mk _ rfl (fun _ _ => ?_) hS (fun _ _ h => h)
        rfl
      · intro a W hd hS hdep hfree
        have x26 : a.tmps.getD 26 undef = .pointer (some ⟨w.heap.size, 3, none⟩) := hdep 1 26 rfl rfl
        clear hd hdep hfree
        have c : W.cell? ⟨w.heap.size, 3, none⟩ = some (.int .i64 t) := (HB3.out.below hS hg3).cell 3 (by simp)
        simp only [Oper.wp, execOp]
        go_simp
        refine Nxt.mk _ rfl (fun _ _ => ?_) hS (fun _ _ h => h)
        rfl
      · intro a W hd hS hdep hfree
        have x27 : a.tmps.getD 27 undef = .int .i64 t := hdep 2 27 rfl rfl
        clear hd hdep hfree
        simp only [Oper.wp, execOp]
        go_simp
        refine (HWt.out W).mono ?_
        rintro e W' ⟨rfl, hb⟩
        exact Nxt.mk _ rfl (fun _ _ => rfl) (below_comp hS hb) (fun j u h => Vals.below hb j u h)
      · intro a W hd hS hdep hfree
        have x25 : a.tmps.getD 25 undef = .string ((((mac d) ++ (mac s)) ++ (w16 33024)) ++ (w16 v)) := hdep 0 25 rfl rfl
        have x28 : a.tmps.getD 28 undef = .string (w16 t) := hdep 3 28 rfl rfl
        clear hd hdep hfree
        have k : ¬ 9223372036854775807 < ((((mac d) ++ (mac s)) ++ (w16 33024)) ++ (w16 v)).size + (w16 t).size := by (try simp only [ByteArray.size_append]); omega
        have k2 := k
        try simp only [ByteArray.size_append] at k2
        simp only [Oper.wp, execOp]
        go_simp
        refine Nxt.mk _ rfl (fun _ _ => ?_) hS (fun _ _ h => h)
        rfl
      · intro a W hd hS hdep hfree
        have x1 : a.tmps.getD 1 undef = .pointer (some ⟨w.heap.size, 0, none⟩) := hfree 1 rfl
        clear hd hdep hfree
        simp only [Oper.wp, execOp]
        go_simp
        refine Nxt.mk _ rfl (fun _ _ => ?_) hS (fun _ _ h => h)
        rfl
      · intro a W hd hS hdep hfree
        have x30 : a.tmps.getD 30 undef = .pointer (some ⟨w.heap.size, 4, none⟩) := hdep 5 30 rfl rfl
        clear hd hdep hfree
        have c : W.cell? ⟨w.heap.size, 4, none⟩ = some (.string b) := (HB3.out.below hS hg3).cell 4 (by simp)
        simp only [Oper.wp, execOp]
        go_simp
        refine Nxt.mk _ rfl (fun _ _ => ?_) hS (fun _ _ h => h)
        rfl
      · intro a W hd hS hdep hfree
        have x29 : a.tmps.getD 29 undef = .string (((((mac d) ++ (mac s)) ++ (w16 33024)) ++ (w16 v)) ++ (w16 t)) := hdep 4 29 rfl rfl
        have x31 : a.tmps.getD 31 undef = .string b := hdep 6 31 rfl rfl
        clear hd hdep hfree
        have k : ¬ 9223372036854775807 < (((((mac d) ++ (mac s)) ++ (w16 33024)) ++ (w16 v)) ++ (w16 t)).size + b.size := by (try simp only [ByteArray.size_append]); omega
        have k2 := k
        try simp only [ByteArray.size_append] at k2
        simp only [Oper.wp, execOp]
        go_simp
        refine Nxt.mk _ rfl (fun _ _ => ?_) hS (fun _ _ h => h)
        rfl
      · intro a W hd hS hdep hfree
        have x32 : a.tmps.getD 32 undef = .string ((((((mac d) ++ (mac s)) ++ (w16 33024)) ++ (w16 v)) ++ (w16 t)) ++ b) := hdep 7 32 rfl rfl
        clear hd hdep hfree
        simp only [Oper.wp, execOp]
        go_simp
        refine Nxt.mk _ rfl (fun _ _ => ?_) hS (fun _ _ h => h)
        rfl
      · intro a W hd hS hdep hfree
        clear hd hdep hfree
        simp only [Oper.wp, execOp]
        go_simp
        refine Nxt.mk _ rfl (fun _ _ => ?_) hS (fun _ _ h => h)
        rfl
    intro a W4 hs hd hS4 hdone hrest
    have ea := written_all [.string ((((mac d) ++ (mac s)) ++ (w16 33024)) ++ (w16 v)), .pointer (some ⟨w.heap.size, 3, none⟩), .int .i64 t, .string (w16 t), .string (((((mac d) ++ (mac s)) ++ (w16 33024)) ++ (w16 v)) ++ (w16 t)), .pointer (some ⟨w.heap.size, 4, none⟩), .string b, .string ((((((mac d) ++ (mac s)) ++ (w16 33024)) ++ (w16 v)) ++ (w16 t)) ++ b), .string ((((((mac d) ++ (mac s)) ++ (w16 33024)) ++ (w16 v)) ++ (w16 t)) ++ b), .bool true] rfl hs hd hrest hdone
    clear hs hd hdone hrest
    subst ea
    simp only [written, List.map_cons, List.map_nil, List.zip_cons_cons, List.zip_nil_right, putAll]
    simp only [Exit.then, Act.put, List.setIfInBounds_toArray, List.set_cons_zero, List.set_cons_succ]
    go_wp2
    go_ret2
    refine ⟨ret_str_bool ?_ rfl, below_comp hb03 hS4⟩
    exact bytes_tagged d s v t b HVV.out
  · have e0 : ¬ 0 ≤ v := by omega
    have HVV := Lib.hid (show v < 0 by omega)
    clear hv
    go_wp2_with fail
    refine wp_region_values (by kernel_rfl) (fun W => Below W2.heap.size W2 W) (Vals [.string ((mac d) ++ (mac s)), .pointer (some ⟨w.heap.size, 3, none⟩), .int .i64 t, .string (w16 t), .string (((mac d) ++ (mac s)) ++ (w16 t)), .pointer (some ⟨w.heap.size, 4, none⟩), .string b, .string ((((mac d) ++ (mac s)) ++ (w16 t)) ++ b), .string ((((mac d) ++ (mac s)) ++ (w16 t)) ++ b), .bool true] [])
      33 rfl (by kernel_rfl) (by kernel_rfl) below_drew (eachOp_all ?_) ?_
    · refine ⟨?_, ?_, ?_, ?_, ?_, ?_, ?_, ?_, ?_, ?_, trivial⟩
      · intro a W hd hS hdep hfree
        have x4 : a.tmps.getD 4 undef = .string ((mac d) ++ (mac s)) := hfree 4 rfl
        clear hd hdep hfree
        simp only [Oper.wp, execOp]
        go_simp
        refine Nxt.mk _ rfl (fun _ _ => ?_) hS (fun _ _ h => h)
        rfl
      · intro a W hd hS hdep hfree
        have x1 : a.tmps.getD 1 undef = .pointer (some ⟨w.heap.size, 0, none⟩) := hfree 1 rfl
        clear hd hdep hfree
        simp only [Oper.wp, execOp]
        go_simp
        refine Nxt.mk _ rfl (fun _ _ => ?_) hS (fun _ _ h => h)
        rfl
      · intro a W hd hS hdep hfree
        have x26 : a.tmps.getD 26 undef = .pointer (some ⟨w.heap.size, 3, none⟩) := hdep 1 26 rfl rfl
        clear hd hdep hfree
        have c : W.cell? ⟨w.heap.size, 3, none⟩ = some (.int .i64 t) := (HB2.out.below hS hg2).cell 3 (by simp)
        simp only [Oper.wp, execOp]
        go_simp
        refine Nxt.mk _ rfl (fun _ _ => ?_) hS (fun _ _ h => h)
        rfl
      · intro a W hd hS hdep hfree
        have x27 : a.tmps.getD 27 undef = .int .i64 t := hdep 2 27 rfl rfl
        clear hd hdep hfree
        simp only [Oper.wp, execOp]
        go_simp
        refine (HWt.out W).mono ?_
        rintro e W' ⟨rfl, hb⟩
        exact Nxt.mk _ rfl (fun _ _ => rfl) (below_comp hS hb) (fun j u h => Vals.below hb j u h)
      · intro a W hd hS hdep hfree
        have x25 : a.tmps.getD 25 undef = .string ((mac d) ++ (mac s)) := hdep 0 25 rfl rfl
        have x28 : a.tmps.getD 28 undef = .string (w16 t) := hdep 3 28 rfl rfl
        clear hd hdep hfree
        have k : ¬ 9223372036854775807 < ((mac d) ++ (mac s)).size + (w16 t).size := by (try simp only [ByteArray.size_append]); omega
        have k2 := k
        try simp only [ByteArray.size_append] at k2
        simp only [Oper.wp, execOp]
        go_simp
        refine Nxt.mk _ rfl (fun _ _ => ?_) hS (fun _ _ h => h)
        rfl
      · intro a W hd hS hdep hfree
        have x1 : a.tmps.getD 1 undef = .pointer (some ⟨w.heap.size, 0, none⟩) := hfree 1 rfl
        clear hd hdep hfree
        simp only [Oper.wp, execOp]
        go_simp
        refine Nxt.mk _ rfl (fun _ _ => ?_) hS (fun _ _ h => h)
        rfl
      · intro a W hd hS hdep hfree
        have x30 : a.tmps.getD 30 undef = .pointer (some ⟨w.heap.size, 4, none⟩) := hdep 5 30 rfl rfl
        clear hd hdep hfree
        have c : W.cell? ⟨w.heap.size, 4, none⟩ = some (.string b) := (HB2.out.below hS hg2).cell 4 (by simp)
        simp only [Oper.wp, execOp]
        go_simp
        refine Nxt.mk _ rfl (fun _ _ => ?_) hS (fun _ _ h => h)
        rfl
      · intro a W hd hS hdep hfree
        have x29 : a.tmps.getD 29 undef = .string (((mac d) ++ (mac s)) ++ (w16 t)) := hdep 4 29 rfl rfl
        have x31 : a.tmps.getD 31 undef = .string b := hdep 6 31 rfl rfl
        clear hd hdep hfree
        have k : ¬ 9223372036854775807 < (((mac d) ++ (mac s)) ++ (w16 t)).size + b.size := by (try simp only [ByteArray.size_append]); omega
        have k2 := k
        try simp only [ByteArray.size_append] at k2
        simp only [Oper.wp, execOp]
        go_simp
        refine Nxt.mk _ rfl (fun _ _ => ?_) hS (fun _ _ h => h)
        rfl
      · intro a W hd hS hdep hfree
        have x32 : a.tmps.getD 32 undef = .string ((((mac d) ++ (mac s)) ++ (w16 t)) ++ b) := hdep 7 32 rfl rfl
        clear hd hdep hfree
        simp only [Oper.wp, execOp]
        go_simp
        refine Nxt.mk _ rfl (fun _ _ => ?_) hS (fun _ _ h => h)
        rfl
      · intro a W hd hS hdep hfree
        clear hd hdep hfree
        simp only [Oper.wp, execOp]
        go_simp
        refine Nxt.mk _ rfl (fun _ _ => ?_) hS (fun _ _ h => h)
        rfl
    intro a W4 hs hd hS4 hdone hrest
    have ea := written_all [.string ((mac d) ++ (mac s)), .pointer (some ⟨w.heap.size, 3, none⟩), .int .i64 t, .string (w16 t), .string (((mac d) ++ (mac s)) ++ (w16 t)), .pointer (some ⟨w.heap.size, 4, none⟩), .string b, .string ((((mac d) ++ (mac s)) ++ (w16 t)) ++ b), .string ((((mac d) ++ (mac s)) ++ (w16 t)) ++ b), .bool true] rfl hs hd hrest hdone
    clear hs hd hdone hrest
    subst ea
    simp only [written, List.map_cons, List.map_nil, List.zip_cons_cons, List.zip_nil_right, putAll]
    simp only [Exit.then, Act.put, List.setIfInBounds_toArray, List.set_cons_zero, List.set_cons_succ]
    go_wp2
    go_ret2
    refine ⟨ret_str_bool ?_ rfl, below_comp hb02 hS4⟩
    exact bytes_plain d s v t b HVV.out

set_option maxHeartbeats 4000000 in
set_option maxRecDepth 100000 in
theorem impl_build_yes (e : EthM) (w : World) (h : e.Ok) :
    Calls Try.prog 120 #[e.val] w fun r w' => r = .returned (.tuple #[.string e.bytes, .bool true]) ∧ Below w.heap.size w w' := by
  have HV : Hid (∀ w1, Calls Try.prog 136 #[e.val] w1 fun r w' => r = .returned (.bool true) ∧ Below w1.heap.size w1 w') := Lib.hid fun w1 => by have := impl_ethok e w1; rwa [decide_eq_true h] at this
  obtain ⟨d, s, v, t, b⟩ := e
  unfold EthM.val at *
  dsimp only at *
  obtain ⟨h1, h2, h3, h4, h5, h6⟩ := h
  dsimp only at h1 h2 h3 h4 h5 h6
  have hv4 := h3
  have HM_d := Lib.hid fun W => impl_mac d W h1
  have HM_s := Lib.hid fun W => impl_mac s W h2
  have HW0 := Lib.hid fun W => (by have := impl_word16 33024 W; rwa [word16_in _ (by decide)] at this : Calls Try.prog 123 #[.int .i64 33024] W fun r w' => r = .returned (.string (w16 33024)) ∧ Below W.heap.size W w')
  have HWt := Lib.hid fun W => (by have := impl_word16 t W; rwa [word16_in _ (by omega)] at this : Calls Try.prog 123 #[.int .i64 t] W fun r w' => r = .returned (.string (w16 t)) ∧ Below W.heap.size W w')
  have z1 : (mac d).size ≤ 6 := Nat.le_refl _
  have z2 : (mac s).size ≤ 6 := Nat.le_refl _
  have z3 : (w16 33024).size ≤ 2 := Nat.le_refl _
  have z4 : (w16 v).size ≤ 2 := Nat.le_refl _
  have z5 : (w16 t).size ≤ 2 := Nat.le_refl _
  have H5 := Lib.hid h5
  clear h5
  have hv : 0 ≤ v ∨ v = -1 := by omega
  go_enter Try.func120, Try.ntmps120
  go_wp2_with (go_at_call 136; refine (HV.out _).mono ?_; rintro e w1 ⟨rfl, hb1⟩)
  have hg1 : w.heap.size < w1.heap.size := by have := hb1.size; simp at this; omega
  have HB1 := Lib.hid ((Box.new w #[.int .i64 d, .int .i64 s, .int .i64 v, .int .i64 t, .string b] 128).below hb1 (by simp))
  have hb01 := below_comp (below_new _) hb1
  clear hb1 h1 h2 h3
  refine wp_region_values (by kernel_rfl) (fun W => Below w1.heap.size w1 W) (Vals [.pointer (some ⟨w.heap.size, 0, none⟩), .int .i64 d, .string (mac d), .pointer (some ⟨w.heap.size, 1, none⟩), .int .i64 s, .string (mac s), .string ((mac d) ++ (mac s)), .string ((mac d) ++ (mac s))] [])
    33 rfl (by kernel_rfl) (by kernel_rfl) below_drew (eachOp_all ?_) ?_
  · refine ⟨?_, ?_, ?_, ?_, ?_, ?_, ?_, ?_, trivial⟩
    · intro a W hd hS hdep hfree
      have x1 : a.tmps.getD 1 undef = .pointer (some ⟨w.heap.size, 0, none⟩) := hfree 1 rfl
      clear hd hdep hfree
      simp only [Oper.wp, execOp]
      go_simp
      refine Nxt.mk _ rfl (fun _ _ => ?_) hS (fun _ _ h => h)
      rfl
    · intro a W hd hS hdep hfree
      have x8 : a.tmps.getD 8 undef = .pointer (some ⟨w.heap.size, 0, none⟩) := hdep 0 8 rfl rfl
      clear hd hdep hfree
      have c : W.cell? ⟨w.heap.size, 0, none⟩ = some (.int .i64 d) := (HB1.out.below hS hg1).cell 0 (by simp)
      simp only [Oper.wp, execOp]
      go_simp
      refine Nxt.mk _ rfl (fun _ _ => ?_) hS (fun _ _ h => h)
      rfl
    · intro a W hd hS hdep hfree
      have x9 : a.tmps.getD 9 undef = .int .i64 d := hdep 1 9 rfl rfl
      clear hd hdep hfree
      simp only [Oper.wp, execOp]
      go_simp
      refine (HM_d.out W).mono ?_
      rintro e W' ⟨rfl, hb⟩
      exact Nxt.mk _ rfl (fun _ _ => rfl) (below_comp hS hb) (fun j u h => Vals.below hb j u h)
    · intro a W hd hS hdep hfree
      have x1 : a.tmps.getD 1 undef = .pointer (some ⟨w.heap.size, 0, none⟩) := hfree 1 rfl
      clear hd hdep hfree
      simp only [Oper.wp, execOp]
      go_simp
      refine Nxt.mk _ rfl (fun _ _ => ?_) hS (fun _ _ h => h)
      rfl
    · intro a W hd hS hdep hfree
      have x11 : a.tmps.getD 11 undef = .pointer (some ⟨w.heap.size, 1, none⟩) := hdep 3 11 rfl rfl
      clear hd hdep hfree
      have c : W.cell? ⟨w.heap.size, 1, none⟩ = some (.int .i64 s) := (HB1.out.below hS hg1).cell 1 (by simp)
      simp only [Oper.wp, execOp]
      go_simp
      refine Nxt.mk _ rfl (fun _ _ => ?_) hS (fun _ _ h => h)
      rfl
    · intro a W hd hS hdep hfree
      have x12 : a.tmps.getD 12 undef = .int .i64 s := hdep 4 12 rfl rfl
      clear hd hdep hfree
      simp only [Oper.wp, execOp]
      go_simp
      refine (HM_s.out W).mono ?_
      rintro e W' ⟨rfl, hb⟩
      exact Nxt.mk _ rfl (fun _ _ => rfl) (below_comp hS hb) (fun j u h => Vals.below hb j u h)
    · intro a W hd hS hdep hfree
      have x10 : a.tmps.getD 10 undef = .string (mac d) := hdep 2 10 rfl rfl
      have x13 : a.tmps.getD 13 undef = .string (mac s) := hdep 5 13 rfl rfl
      clear hd hdep hfree
      have k : ¬ 9223372036854775807 < (mac d).size + (mac s).size := by (try simp only [ByteArray.size_append]); omega
      have k2 := k
      try simp only [ByteArray.size_append] at k2
      simp only [Oper.wp, execOp]
      go_simp
      refine Nxt.mk _ rfl (fun _ _ => ?_) hS (fun _ _ h => h)
      rfl
    · intro a W hd hS hdep hfree
      have x14 : a.tmps.getD 14 undef = .string ((mac d) ++ (mac s)) := hdep 6 14 rfl rfl
      clear hd hdep hfree
      simp only [Oper.wp, execOp]
      go_simp
      refine Nxt.mk _ rfl (fun _ _ => ?_) hS (fun _ _ h => h)
      rfl
  intro a W2 hs hd hS2 hdone hrest
  have ea := written_all [.pointer (some ⟨w.heap.size, 0, none⟩), .int .i64 d, .string (mac d), .pointer (some ⟨w.heap.size, 1, none⟩), .int .i64 s, .string (mac s), .string ((mac d) ++ (mac s)), .string ((mac d) ++ (mac s))] rfl hs hd hrest hdone
  clear hs hd hdone hrest
  subst ea
  simp only [written, List.map_cons, List.map_nil, List.zip_cons_cons, List.zip_nil_right, putAll]
  simp only [Exit.then, Act.put, List.setIfInBounds_toArray, List.set_cons_zero, List.set_cons_succ]
  have hg2 : w.heap.size < W2.heap.size := Nat.lt_of_lt_of_le hg1 hS2.size
  have HB2 := Lib.hid (HB1.out.below hS2 hg1)
  have hb02 := below_comp hb01 hS2
  have c2 : W2.cell? ⟨w.heap.size, 2, none⟩ = some (.int .i64 v) := HB2.out.cell 2 (by simp)
  clear hS2
  rcases hv with hv | hv
  · have e0 : (v != -1) = true := by rw [bne_iff_ne]; omega
    have HVV := Lib.hid hv
    have HWv := Lib.hid fun W => (by have := impl_word16 v W; rwa [word16_in _ ⟨HVV.out, by have := hv4.2; omega⟩] at this : Calls Try.prog 123 #[.int .i64 v] W fun r w' => r = .returned (.string (w16 v)) ∧ Below W.heap.size W w')
    clear hv
    go_wp2_with fail
    refine wp_region_values (by kernel_rfl) (fun W => Below W2.heap.size W2 W) (Vals [.string ((mac d) ++ (mac s)), .string (w16 33024), .pointer (some ⟨w.heap.size, 2, none⟩), .int .i64 v, .string (w16 v), .string ((w16 33024) ++ (w16 v)), .string (((mac d) ++ (mac s)) ++ ((w16 33024) ++ (w16 v))), .string (((mac d) ++ (mac s)) ++ ((w16 33024) ++ (w16 v)))] [])
      33 rfl (by kernel_rfl) (by kernel_rfl) below_drew (eachOp_all ?_) ?_
    · refine ⟨?_, ?_, ?_, ?_, ?_, ?_, ?_, ?_, trivial⟩
      · intro a W hd hS hdep hfree
        have x4 : a.tmps.getD 4 undef = .string ((mac d) ++ (mac s)) := hfree 4 rfl
        clear hd hdep hfree
        simp only [Oper.wp, execOp]
        go_simp
        refine Nxt.mk _ rfl (fun _ _ => ?_) hS (fun _ _ h => h)
        rfl
      · intro a W hd hS hdep hfree
        clear hd hdep hfree
        simp only [Oper.wp, execOp]
        go_simp
        refine (HW0.out W).mono ?_
        rintro e W' ⟨rfl, hb⟩
        exact Nxt.mk _ rfl (fun _ _ => rfl) (below_comp hS hb) (fun j u h => Vals.below hb j u h)
      · intro a W hd hS hdep hfree
        have x1 : a.tmps.getD 1 undef = .pointer (some ⟨w.heap.size, 0, none⟩) := hfree 1 rfl
        clear hd hdep hfree
        simp only [Oper.wp, execOp]
        go_simp
        refine Nxt.mk _ rfl (fun _ _ => ?_) hS (fun _ _ h => h)
        rfl
      · intro a W hd hS hdep hfree
        have x20 : a.tmps.getD 20 undef = .pointer (some ⟨w.heap.size, 2, none⟩) := hdep 2 20 rfl rfl
        clear hd hdep hfree
        have c : W.cell? ⟨w.heap.size, 2, none⟩ = some (.int .i64 v) := (HB2.out.below hS hg2).cell 2 (by simp)
        simp only [Oper.wp, execOp]
        go_simp
        refine Nxt.mk _ rfl (fun _ _ => ?_) hS (fun _ _ h => h)
        rfl
      · intro a W hd hS hdep hfree
        have x21 : a.tmps.getD 21 undef = .int .i64 v := hdep 3 21 rfl rfl
        clear hd hdep hfree
        simp only [Oper.wp, execOp]
        go_simp
        refine (HWv.out W).mono ?_
        rintro e W' ⟨rfl, hb⟩
        exact Nxt.mk _ rfl (fun _ _ => rfl) (below_comp hS hb) (fun j u h => Vals.below hb j u h)
      · intro a W hd hS hdep hfree
        have x19 : a.tmps.getD 19 undef = .string (w16 33024) := hdep 1 19 rfl rfl
        have x22 : a.tmps.getD 22 undef = .string (w16 v) := hdep 4 22 rfl rfl
        clear hd hdep hfree
        have k : ¬ 9223372036854775807 < (w16 33024).size + (w16 v).size := by (try simp only [ByteArray.size_append]); omega
        have k2 := k
        try simp only [ByteArray.size_append] at k2
        simp only [Oper.wp, execOp]
        go_simp
        refine Nxt.mk _ rfl (fun _ _ => ?_) hS (fun _ _ h => h)
        rfl
      · intro a W hd hS hdep hfree
        have x18 : a.tmps.getD 18 undef = .string ((mac d) ++ (mac s)) := hdep 0 18 rfl rfl
        have x23 : a.tmps.getD 23 undef = .string ((w16 33024) ++ (w16 v)) := hdep 5 23 rfl rfl
        clear hd hdep hfree
        have k : ¬ 9223372036854775807 < ((mac d) ++ (mac s)).size + ((w16 33024) ++ (w16 v)).size := by (try simp only [ByteArray.size_append]); omega
        have k2 := k
        try simp only [ByteArray.size_append] at k2
        simp only [Oper.wp, execOp]
        go_simp
        refine Nxt.mk _ rfl (fun _ _ => ?_) hS (fun _ _ h => h)
        rfl
      · intro a W hd hS hdep hfree
        have x24 : a.tmps.getD 24 undef = .string (((mac d) ++ (mac s)) ++ ((w16 33024) ++ (w16 v))) := hdep 6 24 rfl rfl
        clear hd hdep hfree
        simp only [Oper.wp, execOp]
        go_simp
        refine Nxt.mk _ rfl (fun _ _ => ?_) hS (fun _ _ h => h)
        rfl
    intro a W3 hs hd hS3 hdone hrest
    have ea := written_all [.string ((mac d) ++ (mac s)), .string (w16 33024), .pointer (some ⟨w.heap.size, 2, none⟩), .int .i64 v, .string (w16 v), .string ((w16 33024) ++ (w16 v)), .string (((mac d) ++ (mac s)) ++ ((w16 33024) ++ (w16 v))), .string (((mac d) ++ (mac s)) ++ ((w16 33024) ++ (w16 v)))] rfl hs hd hrest hdone
    clear hs hd hdone hrest
    subst ea
    simp only [written, List.map_cons, List.map_nil, List.zip_cons_cons, List.zip_nil_right, putAll]
    simp only [Exit.then, Act.put, List.setIfInBounds_toArray, List.set_cons_zero, List.set_cons_succ]
    have hg3 : w.heap.size < W3.heap.size := Nat.lt_of_lt_of_le hg2 hS3.size
    have HB3 := Lib.hid (HB2.out.below hS3 hg2)
    have hb03 := below_comp hb02 hS3
    clear hS3 c2 e0
    go_wp2_with fail
    refine wp_region_values (by kernel_rfl) (fun W => Below W3.heap.size W3 W) (Vals [.string (((mac d) ++ (mac s)) ++ ((w16 33024) ++ (w16 v))), .pointer (some ⟨w.heap.size, 3, none⟩), .int .i64 t, .string (w16 t), .string ((((mac d) ++ (mac s)) ++ ((w16 33024) ++ (w16 v))) ++ (w16 t)), .pointer (some ⟨w.heap.size, 4, none⟩), .string b, .string (((((mac d) ++ (mac s)) ++ ((w16 33024) ++ (w16 v))) ++ (w16 t)) ++ b), .string (((((mac d) ++ (mac s)) ++ ((w16 33024) ++ (w16 v))) ++ (w16 t)) ++ b), .bool true] [])
      33 rfl (by kernel_rfl) (by kernel_rfl) below_drew (eachOp_all ?_) ?_
    · refine ⟨?_, ?_, ?_, ?_, ?_, ?_, ?_, ?_, ?_, ?_, trivial⟩
      · intro a W hd hS hdep hfree
        have x4 : a.tmps.getD 4 undef = .string (((mac d) ++ (mac s)) ++ ((w16 33024) ++ (w16 v))) := hfree 4 rfl
        clear hd hdep hfree
        simp only [Oper.wp, execOp]
        go_simp
        refine Nxt.mk _ rfl (fun _ _ => ?_) hS (fun _ _ h => h)
        rfl
      · intro a W hd hS hdep hfree
        have x1 : a.tmps.getD 1 undef = .pointer (some ⟨w.heap.size, 0, none⟩) := hfree 1 rfl
        clear hd hdep hfree
        simp only [Oper.wp, execOp]
        go_simp
        refine Nxt.mk _ rfl (fun _ _ => ?_) hS (fun _ _ h => h)
        rfl
      · intro a W hd hS hdep hfree
        have x26 : a.tmps.getD 26 undef = .pointer (some ⟨w.heap.size, 3, none⟩) := hdep 1 26 rfl rfl
        clear hd hdep hfree
        have c : W.cell? ⟨w.heap.size, 3, none⟩ = some (.int .i64 t) := (HB3.out.below hS hg3).cell 3 (by simp)
        simp only [Oper.wp, execOp]
        go_simp
        refine Nxt.mk _ rfl (fun _ _ => ?_) hS (fun _ _ h => h)
        rfl
      · intro a W hd hS hdep hfree
        have x27 : a.tmps.getD 27 undef = .int .i64 t := hdep 2 27 rfl rfl
        clear hd hdep hfree
        simp only [Oper.wp, execOp]
        go_simp
        refine (HWt.out W).mono ?_
        rintro e W' ⟨rfl, hb⟩
        exact Nxt.mk _ rfl (fun _ _ => rfl) (below_comp hS hb) (fun j u h => Vals.below hb j u h)
      · intro a W hd hS hdep hfree
        have x25 : a.tmps.getD 25 undef = .string (((mac d) ++ (mac s)) ++ ((w16 33024) ++ (w16 v))) := hdep 0 25 rfl rfl
        have x28 : a.tmps.getD 28 undef = .string (w16 t) := hdep 3 28 rfl rfl
        clear hd hdep hfree
        have k : ¬ 9223372036854775807 < (((mac d) ++ (mac s)) ++ ((w16 33024) ++ (w16 v))).size + (w16 t).size := by (try simp only [ByteArray.size_append]); omega
        have k2 := k
        try simp only [ByteArray.size_append] at k2
        simp only [Oper.wp, execOp]
        go_simp
        refine Nxt.mk _ rfl (fun _ _ => ?_) hS (fun _ _ h => h)
        rfl
      · intro a W hd hS hdep hfree
        have x1 : a.tmps.getD 1 undef = .pointer (some ⟨w.heap.size, 0, none⟩) := hfree 1 rfl
        clear hd hdep hfree
        simp only [Oper.wp, execOp]
        go_simp
        refine Nxt.mk _ rfl (fun _ _ => ?_) hS (fun _ _ h => h)
        rfl
      · intro a W hd hS hdep hfree
        have x30 : a.tmps.getD 30 undef = .pointer (some ⟨w.heap.size, 4, none⟩) := hdep 5 30 rfl rfl
        clear hd hdep hfree
        have c : W.cell? ⟨w.heap.size, 4, none⟩ = some (.string b) := (HB3.out.below hS hg3).cell 4 (by simp)
        simp only [Oper.wp, execOp]
        go_simp
        refine Nxt.mk _ rfl (fun _ _ => ?_) hS (fun _ _ h => h)
        rfl
      · intro a W hd hS hdep hfree
        have x29 : a.tmps.getD 29 undef = .string ((((mac d) ++ (mac s)) ++ ((w16 33024) ++ (w16 v))) ++ (w16 t)) := hdep 4 29 rfl rfl
        have x31 : a.tmps.getD 31 undef = .string b := hdep 6 31 rfl rfl
        clear hd hdep hfree
        have k : ¬ 9223372036854775807 < ((((mac d) ++ (mac s)) ++ ((w16 33024) ++ (w16 v))) ++ (w16 t)).size + b.size := by (try simp only [ByteArray.size_append]); omega
        have k2 := k
        try simp only [ByteArray.size_append] at k2
        simp only [Oper.wp, execOp]
        go_simp
        refine Nxt.mk _ rfl (fun _ _ => ?_) hS (fun _ _ h => h)
        rfl
      · intro a W hd hS hdep hfree
        have x32 : a.tmps.getD 32 undef = .string (((((mac d) ++ (mac s)) ++ ((w16 33024) ++ (w16 v))) ++ (w16 t)) ++ b) := hdep 7 32 rfl rfl
        clear hd hdep hfree
        simp only [Oper.wp, execOp]
        go_simp
        refine Nxt.mk _ rfl (fun _ _ => ?_) hS (fun _ _ h => h)
        rfl
      · intro a W hd hS hdep hfree
        clear hd hdep hfree
        simp only [Oper.wp, execOp]
        go_simp
        refine Nxt.mk _ rfl (fun _ _ => ?_) hS (fun _ _ h => h)
        rfl
    intro a W4 hs hd hS4 hdone hrest
    have ea := written_all [.string (((mac d) ++ (mac s)) ++ ((w16 33024) ++ (w16 v))), .pointer (some ⟨w.heap.size, 3, none⟩), .int .i64 t, .string (w16 t), .string ((((mac d) ++ (mac s)) ++ ((w16 33024) ++ (w16 v))) ++ (w16 t)), .pointer (some ⟨w.heap.size, 4, none⟩), .string b, .string (((((mac d) ++ (mac s)) ++ ((w16 33024) ++ (w16 v))) ++ (w16 t)) ++ b), .string (((((mac d) ++ (mac s)) ++ ((w16 33024) ++ (w16 v))) ++ (w16 t)) ++ b), .bool true] rfl hs hd hrest hdone
    clear hs hd hdone hrest
    subst ea
    simp only [written, List.map_cons, List.map_nil, List.zip_cons_cons, List.zip_nil_right, putAll]
    simp only [Exit.then, Act.put, List.setIfInBounds_toArray, List.set_cons_zero, List.set_cons_succ]
    go_wp2
    go_ret2
    refine ⟨ret_str_bool ?_ rfl, below_comp hb03 hS4⟩
    rw [← bytes_tagged d s v t b HVV.out]; simp only [ByteArray.append_assoc]
  · have e0 : (v != -1) = false := by rw [hv]; rfl
    have HVV := Lib.hid (show v < 0 by omega)
    clear hv
    go_wp2_with fail
    refine wp_region_values (by kernel_rfl) (fun W => Below W2.heap.size W2 W) (Vals [.string ((mac d) ++ (mac s)), .pointer (some ⟨w.heap.size, 3, none⟩), .int .i64 t, .string (w16 t), .string (((mac d) ++ (mac s)) ++ (w16 t)), .pointer (some ⟨w.heap.size, 4, none⟩), .string b, .string ((((mac d) ++ (mac s)) ++ (w16 t)) ++ b), .string ((((mac d) ++ (mac s)) ++ (w16 t)) ++ b), .bool true] [])
      33 rfl (by kernel_rfl) (by kernel_rfl) below_drew (eachOp_all ?_) ?_
    · refine ⟨?_, ?_, ?_, ?_, ?_, ?_, ?_, ?_, ?_, ?_, trivial⟩
      · intro a W hd hS hdep hfree
        have x4 : a.tmps.getD 4 undef = .string ((mac d) ++ (mac s)) := hfree 4 rfl
        clear hd hdep hfree
        simp only [Oper.wp, execOp]
        go_simp
        refine Nxt.mk _ rfl (fun _ _ => ?_) hS (fun _ _ h => h)
        rfl
      · intro a W hd hS hdep hfree
        have x1 : a.tmps.getD 1 undef = .pointer (some ⟨w.heap.size, 0, none⟩) := hfree 1 rfl
        clear hd hdep hfree
        simp only [Oper.wp, execOp]
        go_simp
        refine Nxt.mk _ rfl (fun _ _ => ?_) hS (fun _ _ h => h)
        rfl
      · intro a W hd hS hdep hfree
        have x26 : a.tmps.getD 26 undef = .pointer (some ⟨w.heap.size, 3, none⟩) := hdep 1 26 rfl rfl
        clear hd hdep hfree
        have c : W.cell? ⟨w.heap.size, 3, none⟩ = some (.int .i64 t) := (HB2.out.below hS hg2).cell 3 (by simp)
        simp only [Oper.wp, execOp]
        go_simp
        refine Nxt.mk _ rfl (fun _ _ => ?_) hS (fun _ _ h => h)
        rfl
      · intro a W hd hS hdep hfree
        have x27 : a.tmps.getD 27 undef = .int .i64 t := hdep 2 27 rfl rfl
        clear hd hdep hfree
        simp only [Oper.wp, execOp]
        go_simp
        refine (HWt.out W).mono ?_
        rintro e W' ⟨rfl, hb⟩
        exact Nxt.mk _ rfl (fun _ _ => rfl) (below_comp hS hb) (fun j u h => Vals.below hb j u h)
      · intro a W hd hS hdep hfree
        have x25 : a.tmps.getD 25 undef = .string ((mac d) ++ (mac s)) := hdep 0 25 rfl rfl
        have x28 : a.tmps.getD 28 undef = .string (w16 t) := hdep 3 28 rfl rfl
        clear hd hdep hfree
        have k : ¬ 9223372036854775807 < ((mac d) ++ (mac s)).size + (w16 t).size := by (try simp only [ByteArray.size_append]); omega
        have k2 := k
        try simp only [ByteArray.size_append] at k2
        simp only [Oper.wp, execOp]
        go_simp
        refine Nxt.mk _ rfl (fun _ _ => ?_) hS (fun _ _ h => h)
        rfl
      · intro a W hd hS hdep hfree
        have x1 : a.tmps.getD 1 undef = .pointer (some ⟨w.heap.size, 0, none⟩) := hfree 1 rfl
        clear hd hdep hfree
        simp only [Oper.wp, execOp]
        go_simp
        refine Nxt.mk _ rfl (fun _ _ => ?_) hS (fun _ _ h => h)
        rfl
      · intro a W hd hS hdep hfree
        have x30 : a.tmps.getD 30 undef = .pointer (some ⟨w.heap.size, 4, none⟩) := hdep 5 30 rfl rfl
        clear hd hdep hfree
        have c : W.cell? ⟨w.heap.size, 4, none⟩ = some (.string b) := (HB2.out.below hS hg2).cell 4 (by simp)
        simp only [Oper.wp, execOp]
        go_simp
        refine Nxt.mk _ rfl (fun _ _ => ?_) hS (fun _ _ h => h)
        rfl
      · intro a W hd hS hdep hfree
        have x29 : a.tmps.getD 29 undef = .string (((mac d) ++ (mac s)) ++ (w16 t)) := hdep 4 29 rfl rfl
        have x31 : a.tmps.getD 31 undef = .string b := hdep 6 31 rfl rfl
        clear hd hdep hfree
        have k : ¬ 9223372036854775807 < (((mac d) ++ (mac s)) ++ (w16 t)).size + b.size := by (try simp only [ByteArray.size_append]); omega
        have k2 := k
        try simp only [ByteArray.size_append] at k2
        simp only [Oper.wp, execOp]
        go_simp
        refine Nxt.mk _ rfl (fun _ _ => ?_) hS (fun _ _ h => h)
        rfl
      · intro a W hd hS hdep hfree
        have x32 : a.tmps.getD 32 undef = .string ((((mac d) ++ (mac s)) ++ (w16 t)) ++ b) := hdep 7 32 rfl rfl
        clear hd hdep hfree
        simp only [Oper.wp, execOp]
        go_simp
        refine Nxt.mk _ rfl (fun _ _ => ?_) hS (fun _ _ h => h)
        rfl
      · intro a W hd hS hdep hfree
        clear hd hdep hfree
        simp only [Oper.wp, execOp]
        go_simp
        refine Nxt.mk _ rfl (fun _ _ => ?_) hS (fun _ _ h => h)
        rfl
    intro a W4 hs hd hS4 hdone hrest
    have ea := written_all [.string ((mac d) ++ (mac s)), .pointer (some ⟨w.heap.size, 3, none⟩), .int .i64 t, .string (w16 t), .string (((mac d) ++ (mac s)) ++ (w16 t)), .pointer (some ⟨w.heap.size, 4, none⟩), .string b, .string ((((mac d) ++ (mac s)) ++ (w16 t)) ++ b), .string ((((mac d) ++ (mac s)) ++ (w16 t)) ++ b), .bool true] rfl hs hd hrest hdone
    clear hs hd hdone hrest
    subst ea
    simp only [written, List.map_cons, List.map_nil, List.zip_cons_cons, List.zip_nil_right, putAll]
    simp only [Exit.then, Act.put, List.setIfInBounds_toArray, List.set_cons_zero, List.set_cons_succ]
    go_wp2
    go_ret2
    refine ⟨ret_str_bool ?_ rfl, below_comp hb02 hS4⟩
    exact bytes_plain d s v t b HVV.out

end Go.Proofs.Ytbidaccdjnbhfaa

/- BuildEth of both sides, at every frame. -/
namespace Go.Proofs.Ytbidaccdjnbhfaa
open Go.RowKit
set_option linter.unusedSimpArgs false
theorem built_yes {e : EthM} (h : e.Ok) : e.built = e.bytes := if_pos h
theorem built_no {e : EthM} (h : ¬ e.Ok) : e.built = ⟨#[]⟩ := if_neg h
set_option maxHeartbeats 2000000 in
theorem spec_build_no (e : EthM) (w : World) (h : ¬ e.Ok) :
    Calls Try.prog 115 #[e.val] w fun r w' => r = .returned (.tuple #[.string ⟨#[]⟩, .bool false]) ∧ Below w.heap.size w w' := by
  have HV : Hid (∀ w1, Calls Try.prog 129 #[e.val] w1 fun r w' => r = .returned (.bool false) ∧ Below w1.heap.size w1 w') := Lib.hid fun w1 => by have := spec_ethok e w1; rwa [decide_eq_false h] at this
  clear h
  obtain ⟨d, s, v, t, b⟩ := e
  unfold EthM.val at *
  dsimp only at *
  go_enter Try.func115, Try.ntmps115
  go_wp2_with (go_at_call 129; refine (HV.out _).mono ?_; rintro e w1 ⟨rfl, hb1⟩)
  go_ret2
  exact ⟨rfl, below_comp (below_new _) hb1⟩
set_option maxHeartbeats 2000000 in
theorem impl_build_no (e : EthM) (w : World) (h : ¬ e.Ok) :
    Calls Try.prog 120 #[e.val] w fun r w' => r = .returned (.tuple #[.string ⟨#[]⟩, .bool false]) ∧ Below w.heap.size w w' := by
  have HV : Hid (∀ w1, Calls Try.prog 136 #[e.val] w1 fun r w' => r = .returned (.bool false) ∧ Below w1.heap.size w1 w') := Lib.hid fun w1 => by have := impl_ethok e w1; rwa [decide_eq_false h] at this
  clear h
  obtain ⟨d, s, v, t, b⟩ := e
  unfold EthM.val at *
  dsimp only at *
  go_enter Try.func120, Try.ntmps120
  go_wp2_with (go_at_call 136; refine (HV.out _).mono ?_; rintro e w1 ⟨rfl, hb1⟩)
  go_ret2
  exact ⟨rfl, below_comp (below_new _) hb1⟩
theorem spec_build (e : EthM) (w : World) :
    Calls Try.prog 115 #[e.val] w fun r w' => r = .returned (.tuple #[.string e.built, .bool (decide e.Ok)]) ∧ Below w.heap.size w w' := by
  by_cases h : e.Ok
  · rw [built_yes h, decide_eq_true h]; exact spec_build_yes e w h
  · rw [built_no h, decide_eq_false h]; exact spec_build_no e w h
theorem impl_build (e : EthM) (w : World) :
    Calls Try.prog 120 #[e.val] w fun r w' => r = .returned (.tuple #[.string e.built, .bool (decide e.Ok)]) ∧ Below w.heap.size w w' := by
  by_cases h : e.Ok
  · rw [built_yes h, decide_eq_true h]; exact impl_build_yes e w h
  · rw [built_no h, decide_eq_false h]; exact impl_build_no e w h
end Go.Proofs.Ytbidaccdjnbhfaa

/- Rows of bytes of the call's own. -/

namespace Go.Proofs.Ytbidaccdjnbhfaa
open Go.RowKit

theorem u8s_set (l : List UInt8) (k : Nat) (c : UInt8) : (u8s l).set k (.int .u8 c.toNat) = u8s (l.set k c) := by simp [u8s, List.map_set]
theorem u8s_zero (n : Nat) : (madeCells #[Value.int .u8 0] (n * 1)).toList = u8s (List.replicate n 0) := by
  rw [Nat.mul_one, toList_madeCells_one]; simp [u8s]


end Go.Proofs.Ytbidaccdjnbhfaa

/- PadBody of both sides. -/
namespace Go.Proofs.Ytbidaccdjnbhfaa
open Go.RowKit
set_option linter.unusedSimpArgs false
set_option linter.unusedVariables false
theorem set_rep (n k : Nat) (c d : UInt8) (h : k < n) : (List.replicate k c ++ List.replicate (n - k) d).set k c = List.replicate (k + 1) c ++ List.replicate (n - (k + 1)) d := by
  obtain ⟨m, rfl⟩ : ∃ m, n = k + (m + 1) := ⟨n - k - 1, by omega⟩
  rw [show k + (m + 1) - k = m + 1 from by omega, show k + (m + 1) - (k + 1) = m from by omega, List.set_append_right _ _ (by simp), List.replicate_succ (n := m)]
  simp only [List.length_replicate, Nat.sub_self, List.set_cons_zero]
  rw [List.replicate_succ' (n := k), List.append_assoc]
  rfl
def longB (n : Nat) (c : UInt8) : ByteArray := ⟨(List.replicate n c).toArray⟩
theorem longB_size (n : Nat) (c : UInt8) : (longB n c).size = n := by
  show (List.replicate n c).toArray.size = n
  simp
set_option maxHeartbeats 2000000 in
set_option maxRecDepth 100000 in
theorem spec_long (n : Nat) (c : UInt8) (w : World) (hn : n ≤ 30000) :
    Calls Try.prog 131 #[.int .i64 n, .int .u8 c.toNat] w fun e w' => e = .returned (.string (longB n c)) ∧ Below w.heap.size w w' := by
  obtain ⟨i0, hi, hz0, hz1, hz2⟩ := info_parts Try.info8
  go_enter Try.func131, Try.ntmps131
  go_wp2_with (at_make; refine wpList_make_full _ rfl _ _ 110 rfl w.heap.size 5 i0 (.int .u8 0) 1 Try.underlying110 hi hz0 hz1 .i64 .i64 _ _ n rfl rfl rfl rfl (by rw [hz2]; omega) (by unfold maxLen; omega) (Nat.le_refl _) ?_; intro w0 hown0 hgrow0)
  have hb0 : Below w.heap.size w w0 := (Below.refl _ _).grown hgrow0 (Nat.le_refl _) (by intro k hk; cases hk)
  rw [show (Value.int IntKind.u8 0).cells = #[Value.int .u8 0] from rfl, u8s_zero] at hown0
  go_loopw [6] (fun i wr => ∃ k : Nat, k ≤ n ∧ i = .int .i64 k ∧ ∃ l : List UInt8, Hid (l = List.replicate k c ++ List.replicate (n - k) 0) ∧ Hid (l.length = n) ∧ wr.ownsRow w.heap.size 5 1 (.slice (some ⟨w.heap.size, 0, none⟩) n n) n (u8s l) ∧ Below w.heap.size w wr)
    (fun i _ => n - (intOf i).toNat)
  case atStart => exact ⟨0, Nat.zero_le _, rfl, List.replicate n 0, Lib.hid (by simp), Lib.hid (by simp), hown0, hb0⟩
  case round =>
    clear hown0 hgrow0 hb0
    obtain ⟨k, hk, rfl, l, HR, HL, hown, hb⟩ := hrel
    by_cases hlt : k < n
    · have hll : k < l.length := by have := HL.out; omega
      have hcell : wr.cell? ⟨w.heap.size, k, none⟩ = some (.int .u8 l[k].toNat) := by
        rw [hown.cellAt k (by omega)]; simp [u8s, List.getElem?_eq_getElem hll]
      have hfr := hown.frozenAt k
      have HO := Lib.hid hown
      have HR2 : Hid (l.set k c = List.replicate (k + 1) c ++ List.replicate (n - (k + 1)) 0) := Lib.hid (by rw [HR.out]; exact set_rep n k c 0 hlt)
      clear hown
      go_wp2
      go_roundw
      case rel =>
        refine ⟨k + 1, by omega, by go_num, l.set k c, HR2, Lib.hid (by simpa using (show l.length = n from HL.out)), ?_, hb.setCell (Nat.le_refl _) _⟩
        rw [← u8s_set]
        exact (HO.out.stored k _).1
      case measure => simp [intOf]; omega
    · obtain rfl : k = n := by omega
      have hs := run_string_own (P := Try.prog) (dst := 9) Try.underlying110 Try.underlying5 Try.underlying9 hown
      have HE : Hid ((⟨l.toArray⟩ : ByteArray) = longB k c) := Lib.hid (by rw [HR.out]; unfold longB; simp)
      go_wp2
      go_ret
      exact ⟨by rw [HE.out]; rfl, hb⟩
/-- Zero bytes behind a short string. -/
def padB (s : ByteArray) : ByteArray := if s.size < 46 then s ++ longB (46 - s.size) 0 else s
theorem spec_pad (s : ByteArray) (w : World) (hs : s.size ≤ 4194304) :
    Calls Try.prog 116 #[.string s] w fun e w' => e = .returned (.string (padB s)) ∧ Below w.heap.size w w' := by
  by_cases h : s.size < 46
  · have hi : (s.size : Int) < 46 := by omega
    have HC := Lib.hid fun W => (by have := spec_long (46 - s.size) 0 W (by omega); rwa [show ((46 - s.size : Nat) : Int) = 46 - (s.size : Int) from by omega] at this : Calls Try.prog 131 #[.int .i64 (46 - (s.size : Int)), .int .u8 0] W fun e w' => e = .returned (.string (longB (46 - s.size) 0)) ∧ Below W.heap.size W w')
    have HP : Hid (padB s = s ++ longB (46 - s.size) 0) := Lib.hid (if_pos h)
    have hz := longB_size (46 - s.size) 0
    have hz2 : (longB (46 - s.size) 0).size ≤ 46 := by omega
    clear hz
    go_enter Try.func116, Try.ntmps116
    go_wp2_with (go_at_call 131; refine (HC.out _).mono ?_; rintro e w1 ⟨rfl, hb1⟩)
    go_ret
    exact ⟨by rw [HP.out]; rfl, hb1⟩
  · have hi : ¬ (s.size : Int) < 46 := by omega
    have HP : Hid (padB s = s) := Lib.hid (if_neg h)
    go_enter Try.func116, Try.ntmps116
    go_wp2
    go_ret
    exact ⟨by rw [HP.out]; rfl, Below.refl _ _⟩
theorem repeat_one (n : Nat) : (⟨(Lib.repeatL [0] n).toArray⟩ : ByteArray) = longB n 0 := by
  unfold longB
  congr 2
  induction n with
  | zero => rfl
  | succ n ih => simp [Lib.repeatL, ih, List.replicate_succ]
theorem impl_pad (s : ByteArray) (w : World) (hs : s.size ≤ 4194304) :
    Calls Try.prog 121 #[.string s] w fun e w' => e = .returned (.string (padB s)) ∧ Below w.heap.size w w' := by
  have HC : ∀ n : Nat, n ≤ 46 → ∀ W, Calls Try.prog 138 #[.string ⟨#[0]⟩, .int .i64 n] W fun e w' => e = .returned (.string (longB n 0)) ∧ Below W.heap.size W w' := fun n hn W => by
    have := Try.strings_Repeat ⟨#[0]⟩ n W (by omega) (by show 1 * n ≤ _; omega)
    rwa [show (⟨#[0]⟩ : ByteArray).data.toList = [0] from rfl, repeat_one] at this
  by_cases h : s.size < 46
  · have H1 := Lib.hid fun W => (by have := HC (46 - s.size) (by omega) W; rwa [show ((46 - s.size : Nat) : Int) = 46 - (s.size : Int) from by omega] at this : Calls Try.prog 138 #[.string ⟨#[0]⟩, .int .i64 (46 - (s.size : Int))] W fun e w' => e = .returned (.string (longB (46 - s.size) 0)) ∧ Below W.heap.size W w')
    have HP : Hid (padB s = s ++ longB (46 - s.size) 0) := Lib.hid (if_pos h)
    have hz := longB_size (46 - s.size) 0
    have hz2 : (longB (46 - s.size) 0).size ≤ 46 := by omega
    have hmx : max (46 - (s.size : Int)) 0 = 46 - (s.size : Int) := by omega
    clear hz HC
    go_enter Try.func121, Try.ntmps121
    go_wp2_with fail
    refine (H1.out _).mono ?_
    rintro e w1 ⟨rfl, hb1⟩
    go_wp2
    go_ret
    exact ⟨by rw [HP.out]; rfl, hb1⟩
  · have H1 := Lib.hid fun W => HC 0 (by omega) W
    have HP : Hid (padB s = s) := Lib.hid (if_neg h)
    have hmx : max (46 - (s.size : Int)) 0 = 0 := by omega
    clear HC
    go_enter Try.func121, Try.ntmps121
    go_wp2_with fail
    refine (H1.out _).mono ?_
    rintro e w1 ⟨rfl, hb1⟩
    have hz : (longB 0 0).size ≤ 46 := by rw [longB_size]; omega
    go_wp2
    go_ret
    exact ⟨by rw [HP.out, show longB 0 0 = ByteArray.empty from rfl, ByteArray.append_empty]; rfl, hb1⟩
end Go.Proofs.Ytbidaccdjnbhfaa

/- BuildImage of both sides. -/
namespace Go.Proofs.Ytbidaccdjnbhfaa
open Go.RowKit
set_option linter.unusedSimpArgs false
set_option linter.unusedVariables false
def PktM.segB (p : PktM) : ByteArray := p.seg.built p.sip p.dip
def PktM.ip (p : PktM) : IpM := ⟨p.tos, p.id, p.ttl, p.seg.kind, p.sip, p.dip, p.segB⟩
def PktM.eth (p : PktM) : EthM := ⟨p.dmac, p.smac, p.vlan, 2048, padB p.ip.built⟩
def PktM.image (p : PktM) : ByteArray := if p.SuperOk then p.eth.built else ⟨#[]⟩
def PktM.imageOk (p : PktM) : Bool := decide p.SuperOk && decide p.eth.Ok
theorem ipbuilt_size (e : IpM) : e.built.size ≤ 400 := by
  by_cases h : e.Ok
  · have h7 := h.2.2.2.2.2.2
    rw [ipbuilt_yes h]
    unfold IpM.bytes
    rw [ByteArray.size_append, e.header_size]
    omega
  · rw [ipbuilt_no h]
    decide

set_option maxHeartbeats 8000000 in
set_option maxRecDepth 100000 in
theorem spec_image_yes (p : PktM) (w : World) (h : p.SuperOk) :
    Calls Try.prog 101 #[p.val] w fun r w' => r = .returned (.tuple #[.string p.eth.built, .bool (decide p.eth.Ok)]) ∧ Below w.heap.size w w' := by
  have HV : Hid (∀ W, Calls Try.prog 70 #[p.val] W fun r w' => r = .returned (.bool true) ∧ Below W.heap.size W w') := Lib.hid fun W => by have := spec_superok p W; rwa [decide_eq_true h] at this
  have HSeg := Lib.hid fun W => spec_buildseg p.seg p.sip p.dip W
  have HIp := Lib.hid fun W => spec_buildip p.ip W
  have HPad := Lib.hid fun W => spec_pad p.ip.built W (by have := ipbuilt_size p.ip; omega)
  have HEth := Lib.hid fun W => spec_build p.eth W
  obtain ⟨R, HR⟩ : ∃ R, Hid (p.eth.built = R) := ⟨_, Lib.hid rfl⟩
  rw [HR.out] at HEth ⊢
  obtain ⟨B, HB⟩ : ∃ B, Hid (decide p.eth.Ok = B) := ⟨_, Lib.hid rfl⟩
  rw [HB.out] at HEth ⊢
  unfold PktM.eth EthM.val at HEth
  dsimp only at HEth
  obtain ⟨Q, HQ⟩ : ∃ Q, Hid (padB p.ip.built = Q) := ⟨_, Lib.hid rfl⟩
  rw [HQ.out] at HEth HPad
  obtain ⟨D, HD⟩ : ∃ D, Hid (p.ip.built = D) := ⟨_, Lib.hid rfl⟩
  rw [HD.out] at HPad HIp
  generalize decide p.ip.Ok = B2 at HIp
  unfold PktM.ip IpM.val PktM.segB at HIp
  dsimp only at HIp
  obtain ⟨G, HG⟩ : ∃ G, Hid (p.seg.built p.sip p.dip = G) := ⟨_, Lib.hid rfl⟩
  rw [HG.out] at HIp HSeg
  generalize decide (p.seg.OkB p.sip p.dip) = B3 at HSeg
  clear HG HD HQ HB HR h
  obtain ⟨dm, sm, vl, ts, id, tl, si, di, ⟨k, sp, dp, q, c, f, n, b⟩⟩ := p
  unfold PktM.val at *
  unfold SegM.val at HSeg
  dsimp only at *
  go_enter Try.func101, Try.ntmps101
  go_wp2_with fail
  refine (HV.out _).mono ?_
  rintro e w1 ⟨rfl, hb1⟩
  obtain ⟨hc, hf, _⟩ := bcell hb1
  have hg1 : w.heap.size < w1.heap.size := by have := hb1.size; simp at this; omega
  have HB1 := Lib.hid ((Box.new w #[.int .i64 dm, .int .i64 sm, .int .i64 vl, .int .i64 ts, .int .i64 id, .int .i64 tl, .int .i64 si, .int .i64 di, .int .i64 k, .int .i64 sp, .int .i64 dp, .int .i64 q, .int .i64 c, .int .i64 f, .int .i64 n, .string b] 41).below hb1 (by simp))
  have hb01 := below_comp (below_new _) hb1
  clear hb1
  go_wp2_with fail
  refine (HSeg.out _).mono ?_
  rintro e w2 ⟨rfl, hb2⟩
  obtain ⟨hc2, hf2, _⟩ := bcell hb2
  have hg2 : w.heap.size < w2.heap.size := Nat.lt_of_lt_of_le hg1 hb2.size
  go_wp2_with fail
  refine (HIp.out _).mono ?_
  rintro e w3 ⟨rfl, hb3⟩
  have hg3 : w.heap.size < w3.heap.size := Nat.lt_of_lt_of_le hg2 hb3.size
  have HB3 := Lib.hid ((HB1.out.below hb2 hg1).below hb3 hg2)
  have hb03 := below_comp (below_comp hb01 hb2) hb3
  clear hc hf hc2 hf2 hb2 hb3 hb01
  go_wp2_with fail
  refine wp_region_values (by kernel_rfl) (fun W => Below w3.heap.size w3 W) (Vals [.pointer (some ⟨w.heap.size, 0, none⟩), .int .i64 dm, .pointer (some ⟨w.heap.size, 1, none⟩), .int .i64 sm, .pointer (some ⟨w.heap.size, 2, none⟩), .int .i64 vl, .string D, .string Q, .agg #[.int .i64 dm, .int .i64 sm, .int .i64 vl, .int .i64 2048, .string Q], .tuple #[.string R, .bool B], .string R, .bool B, .string R, .bool B] [])
    52 rfl (by kernel_rfl) (by kernel_rfl) below_drew (eachOp_all ?_) ?_
  · refine ⟨?_, ?_, ?_, ?_, ?_, ?_, ?_, ?_, ?_, ?_, ?_, ?_, ?_, ?_, trivial⟩
    · intro a W hd hS hdep hfree
      have x1 : a.tmps.getD 1 undef = .pointer (some ⟨w.heap.size, 0, none⟩) := hfree 1 rfl
      clear hd hdep hfree
      simp only [Oper.wp, execOp]
      go_simp
      refine Nxt.mk _ rfl (fun _ _ => ?_) hS (fun _ _ h => h)
      rfl
    · intro a W hd hS hdep hfree
      have x40 : a.tmps.getD 40 undef = .pointer (some ⟨w.heap.size, 0, none⟩) := hdep 0 40 rfl rfl
      clear hd hdep hfree
      have c : W.cell? ⟨w.heap.size, 0, none⟩ = some (.int .i64 dm) := (HB3.out.below hS hg3).cell 0 (by simp)
      simp only [Oper.wp, execOp]
      go_simp
      refine Nxt.mk _ rfl (fun _ _ => ?_) hS (fun _ _ h => h)
      rfl
    · intro a W hd hS hdep hfree
      have x1 : a.tmps.getD 1 undef = .pointer (some ⟨w.heap.size, 0, none⟩) := hfree 1 rfl
      clear hd hdep hfree
      simp only [Oper.wp, execOp]
      go_simp
      refine Nxt.mk _ rfl (fun _ _ => ?_) hS (fun _ _ h => h)
      rfl
    · intro a W hd hS hdep hfree
      have x42 : a.tmps.getD 42 undef = .pointer (some ⟨w.heap.size, 1, none⟩) := hdep 2 42 rfl rfl
      clear hd hdep hfree
      have c : W.cell? ⟨w.heap.size, 1, none⟩ = some (.int .i64 sm) := (HB3.out.below hS hg3).cell 1 (by simp)
      simp only [Oper.wp, execOp]
      go_simp
      refine Nxt.mk _ rfl (fun _ _ => ?_) hS (fun _ _ h => h)
      rfl
    · intro a W hd hS hdep hfree
      have x1 : a.tmps.getD 1 undef = .pointer (some ⟨w.heap.size, 0, none⟩) := hfree 1 rfl
      clear hd hdep hfree
      simp only [Oper.wp, execOp]
      go_simp
      refine Nxt.mk _ rfl (fun _ _ => ?_) hS (fun _ _ h => h)
      rfl
    · intro a W hd hS hdep hfree
      have x44 : a.tmps.getD 44 undef = .pointer (some ⟨w.heap.size, 2, none⟩) := hdep 4 44 rfl rfl
      clear hd hdep hfree
      have c : W.cell? ⟨w.heap.size, 2, none⟩ = some (.int .i64 vl) := (HB3.out.below hS hg3).cell 2 (by simp)
      simp only [Oper.wp, execOp]
      go_simp
      refine Nxt.mk _ rfl (fun _ _ => ?_) hS (fun _ _ h => h)
      rfl
    · intro a W hd hS hdep hfree
      have x6 : a.tmps.getD 6 undef = .string D := hfree 6 rfl
      clear hd hdep hfree
      simp only [Oper.wp, execOp]
      go_simp
      refine Nxt.mk _ rfl (fun _ _ => ?_) hS (fun _ _ h => h)
      rfl
    · intro a W hd hS hdep hfree
      have x46 : a.tmps.getD 46 undef = .string D := hdep 6 46 rfl rfl
      clear hd hdep hfree
      simp only [Oper.wp, execOp]
      go_simp
      refine (HPad.out W).mono ?_
      rintro e W' ⟨rfl, hb⟩
      exact Nxt.mk _ rfl (fun _ _ => rfl) (below_comp hS hb) (fun j u h => Vals.below hb j u h)
    · intro a W hd hS hdep hfree
      have x41 : a.tmps.getD 41 undef = .int .i64 dm := hdep 1 41 rfl rfl
      have x43 : a.tmps.getD 43 undef = .int .i64 sm := hdep 3 43 rfl rfl
      have x45 : a.tmps.getD 45 undef = .int .i64 vl := hdep 5 45 rfl rfl
      have x47 : a.tmps.getD 47 undef = .string Q := hdep 7 47 rfl rfl
      have y41 : a.tmps[41]?.getD undef = .int .i64 dm := by rw [← Array.getD_eq_getD_getElem?]; exact x41
      have y43 : a.tmps[43]?.getD undef = .int .i64 sm := by rw [← Array.getD_eq_getD_getElem?]; exact x43
      have y45 : a.tmps[45]?.getD undef = .int .i64 vl := by rw [← Array.getD_eq_getD_getElem?]; exact x45
      have y47 : a.tmps[47]?.getD undef = .string Q := by rw [← Array.getD_eq_getD_getElem?]; exact x47
      clear hd hdep hfree
      simp only [Oper.wp, execOp]
      go_simp
      refine Nxt.mk _ rfl (fun _ _ => ?_) hS (fun _ _ h => h)
      rfl
    · intro a W hd hS hdep hfree
      have x48 : a.tmps.getD 48 undef = .agg #[.int .i64 dm, .int .i64 sm, .int .i64 vl, .int .i64 2048, .string Q] := hdep 8 48 rfl rfl
      clear hd hdep hfree
      simp only [Oper.wp, execOp]
      go_simp
      refine (HEth.out W).mono ?_
      rintro e W' ⟨rfl, hb⟩
      exact Nxt.mk _ rfl (fun _ _ => rfl) (below_comp hS hb) (fun j u h => Vals.below hb j u h)
    · intro a W hd hS hdep hfree
      have x49 : a.tmps.getD 49 undef = .tuple #[.string R, .bool B] := hdep 9 49 rfl rfl
      clear hd hdep hfree
      simp only [Oper.wp, execOp]
      go_simp
      refine Nxt.mk _ rfl (fun _ _ => ?_) hS (fun _ _ h => h)
      rfl
    · intro a W hd hS hdep hfree
      have x49 : a.tmps.getD 49 undef = .tuple #[.string R, .bool B] := hdep 9 49 rfl rfl
      clear hd hdep hfree
      simp only [Oper.wp, execOp]
      go_simp
      refine Nxt.mk _ rfl (fun _ _ => ?_) hS (fun _ _ h => h)
      rfl
    · intro a W hd hS hdep hfree
      have x50 : a.tmps.getD 50 undef = .string R := hdep 10 50 rfl rfl
      clear hd hdep hfree
      simp only [Oper.wp, execOp]
      go_simp
      refine Nxt.mk _ rfl (fun _ _ => ?_) hS (fun _ _ h => h)
      rfl
    · intro a W hd hS hdep hfree
      have x51 : a.tmps.getD 51 undef = .bool B := hdep 11 51 rfl rfl
      clear hd hdep hfree
      simp only [Oper.wp, execOp]
      go_simp
      refine Nxt.mk _ rfl (fun _ _ => ?_) hS (fun _ _ h => h)
      rfl
  intro a W4 hs hd hS4 hdone hrest
  have ea := written_all [.pointer (some ⟨w.heap.size, 0, none⟩), .int .i64 dm, .pointer (some ⟨w.heap.size, 1, none⟩), .int .i64 sm, .pointer (some ⟨w.heap.size, 2, none⟩), .int .i64 vl, .string D, .string Q, .agg #[.int .i64 dm, .int .i64 sm, .int .i64 vl, .int .i64 2048, .string Q], .tuple #[.string R, .bool B], .string R, .bool B, .string R, .bool B] rfl hs hd hrest hdone
  clear hs hd hdone hrest
  subst ea
  simp only [written, List.map_cons, List.map_nil, List.zip_cons_cons, List.zip_nil_right, putAll]
  simp only [Exit.then, Act.put, List.setIfInBounds_toArray, List.set_cons_zero, List.set_cons_succ]
  go_wp2
  go_ret2
  exact ⟨rfl, below_comp hb03 hS4⟩
set_option maxHeartbeats 4000000 in
set_option maxRecDepth 100000 in
theorem spec_image_no (p : PktM) (w : World) (h : ¬ p.SuperOk) :
    Calls Try.prog 101 #[p.val] w fun r w' => r = .returned (.tuple #[.string ⟨#[]⟩, .bool false]) ∧ Below w.heap.size w w' := by
  have HV : Hid (∀ W, Calls Try.prog 70 #[p.val] W fun r w' => r = .returned (.bool false) ∧ Below W.heap.size W w') := Lib.hid fun W => by have := spec_superok p W; rwa [decide_eq_false h] at this
  clear h
  obtain ⟨dm, sm, vl, ts, id, tl, si, di, ⟨k, sp, dp, q, c, f, n, b⟩⟩ := p
  unfold PktM.val at *
  dsimp only at *
  go_enter Try.func101, Try.ntmps101
  go_wp2_with fail
  refine (HV.out _).mono ?_
  rintro e w1 ⟨rfl, hb1⟩
  go_wp2
  go_ret2
  exact ⟨rfl, below_comp (below_new _) hb1⟩
theorem spec_image (p : PktM) (w : World) :
    Calls Try.prog 101 #[p.val] w fun r w' => r = .returned (.tuple #[.string p.image, .bool p.imageOk]) ∧ Below w.heap.size w w' := by
  by_cases h : p.SuperOk
  · rw [show p.image = p.eth.built from if_pos h, show p.imageOk = decide p.eth.Ok from by unfold PktM.imageOk; rw [decide_eq_true h, Bool.true_and]]; exact spec_image_yes p w h
  · rw [show p.image = ⟨#[]⟩ from if_neg h, show p.imageOk = false from by unfold PktM.imageOk; rw [decide_eq_false h, Bool.false_and]]; exact spec_image_no p w h

set_option maxHeartbeats 8000000 in
set_option maxRecDepth 100000 in
theorem impl_image_yes (p : PktM) (w : World) (h : p.SuperOk) :
    Calls Try.prog 103 #[p.val] w fun r w' => r = .returned (.tuple #[.string p.eth.built, .bool (decide p.eth.Ok)]) ∧ Below w.heap.size w w' := by
  have HV : Hid (∀ W, Calls Try.prog 68 #[p.val] W fun r w' => r = .returned (.bool true) ∧ Below W.heap.size W w') := Lib.hid fun W => by have := impl_superok p W; rwa [decide_eq_true h] at this
  have HSeg := Lib.hid fun W => impl_buildseg p.seg p.sip p.dip W
  have HIp := Lib.hid fun W => impl_buildip p.ip W
  have HPad := Lib.hid fun W => impl_pad p.ip.built W (by have := ipbuilt_size p.ip; omega)
  have HEth := Lib.hid fun W => impl_build p.eth W
  obtain ⟨R, HR⟩ : ∃ R, Hid (p.eth.built = R) := ⟨_, Lib.hid rfl⟩
  rw [HR.out] at HEth ⊢
  obtain ⟨B, HB⟩ : ∃ B, Hid (decide p.eth.Ok = B) := ⟨_, Lib.hid rfl⟩
  rw [HB.out] at HEth ⊢
  unfold PktM.eth EthM.val at HEth
  dsimp only at HEth
  obtain ⟨Q, HQ⟩ : ∃ Q, Hid (padB p.ip.built = Q) := ⟨_, Lib.hid rfl⟩
  rw [HQ.out] at HEth HPad
  obtain ⟨D, HD⟩ : ∃ D, Hid (p.ip.built = D) := ⟨_, Lib.hid rfl⟩
  rw [HD.out] at HPad HIp
  generalize decide p.ip.Ok = B2 at HIp
  unfold PktM.ip IpM.val PktM.segB at HIp
  dsimp only at HIp
  obtain ⟨G, HG⟩ : ∃ G, Hid (p.seg.built p.sip p.dip = G) := ⟨_, Lib.hid rfl⟩
  rw [HG.out] at HIp HSeg
  generalize decide (p.seg.OkB p.sip p.dip) = B3 at HSeg
  clear HG HD HQ HB HR h
  obtain ⟨dm, sm, vl, ts, id, tl, si, di, ⟨k, sp, dp, q, c, f, n, b⟩⟩ := p
  unfold PktM.val at *
  unfold SegM.val at HSeg
  dsimp only at *
  go_enter Try.func103, Try.ntmps103
  go_wp2_with fail
  refine (HV.out _).mono ?_
  rintro e w1 ⟨rfl, hb1⟩
  obtain ⟨hc, hf, _⟩ := bcell hb1
  have hg1 : w.heap.size < w1.heap.size := by have := hb1.size; simp at this; omega
  have HB1 := Lib.hid ((Box.new w #[.int .i64 dm, .int .i64 sm, .int .i64 vl, .int .i64 ts, .int .i64 id, .int .i64 tl, .int .i64 si, .int .i64 di, .int .i64 k, .int .i64 sp, .int .i64 dp, .int .i64 q, .int .i64 c, .int .i64 f, .int .i64 n, .string b] 41).below hb1 (by simp))
  have hb01 := below_comp (below_new _) hb1
  clear hb1
  go_wp2_with fail
  refine (HSeg.out _).mono ?_
  rintro e w2 ⟨rfl, hb2⟩
  obtain ⟨hc2, hf2, _⟩ := bcell hb2
  have hg2 : w.heap.size < w2.heap.size := Nat.lt_of_lt_of_le hg1 hb2.size
  go_wp2_with fail
  refine (HIp.out _).mono ?_
  rintro e w3 ⟨rfl, hb3⟩
  have hg3 : w.heap.size < w3.heap.size := Nat.lt_of_lt_of_le hg2 hb3.size
  have HB3 := Lib.hid ((HB1.out.below hb2 hg1).below hb3 hg2)
  have hb03 := below_comp (below_comp hb01 hb2) hb3
  clear hc hf hc2 hf2 hb2 hb3 hb01
  go_wp2_with fail
  refine wp_region_values (by kernel_rfl) (fun W => Below w3.heap.size w3 W) (Vals [.pointer (some ⟨w.heap.size, 0, none⟩), .int .i64 dm, .pointer (some ⟨w.heap.size, 1, none⟩), .int .i64 sm, .pointer (some ⟨w.heap.size, 2, none⟩), .int .i64 vl, .string D, .string Q, .agg #[.int .i64 dm, .int .i64 sm, .int .i64 vl, .int .i64 2048, .string Q], .tuple #[.string R, .bool B], .string R, .bool B, .string R, .bool B] [])
    52 rfl (by kernel_rfl) (by kernel_rfl) below_drew (eachOp_all ?_) ?_
  · refine ⟨?_, ?_, ?_, ?_, ?_, ?_, ?_, ?_, ?_, ?_, ?_, ?_, ?_, ?_, trivial⟩
    · intro a W hd hS hdep hfree
      have x1 : a.tmps.getD 1 undef = .pointer (some ⟨w.heap.size, 0, none⟩) := hfree 1 rfl
      clear hd hdep hfree
      simp only [Oper.wp, execOp]
      go_simp
      refine Nxt.mk _ rfl (fun _ _ => ?_) hS (fun _ _ h => h)
      rfl
    · intro a W hd hS hdep hfree
      have x40 : a.tmps.getD 40 undef = .pointer (some ⟨w.heap.size, 0, none⟩) := hdep 0 40 rfl rfl
      clear hd hdep hfree
      have c : W.cell? ⟨w.heap.size, 0, none⟩ = some (.int .i64 dm) := (HB3.out.below hS hg3).cell 0 (by simp)
      simp only [Oper.wp, execOp]
      go_simp
      refine Nxt.mk _ rfl (fun _ _ => ?_) hS (fun _ _ h => h)
      rfl
    · intro a W hd hS hdep hfree
      have x1 : a.tmps.getD 1 undef = .pointer (some ⟨w.heap.size, 0, none⟩) := hfree 1 rfl
      clear hd hdep hfree
      simp only [Oper.wp, execOp]
      go_simp
      refine Nxt.mk _ rfl (fun _ _ => ?_) hS (fun _ _ h => h)
      rfl
    · intro a W hd hS hdep hfree
      have x42 : a.tmps.getD 42 undef = .pointer (some ⟨w.heap.size, 1, none⟩) := hdep 2 42 rfl rfl
      clear hd hdep hfree
      have c : W.cell? ⟨w.heap.size, 1, none⟩ = some (.int .i64 sm) := (HB3.out.below hS hg3).cell 1 (by simp)
      simp only [Oper.wp, execOp]
      go_simp
      refine Nxt.mk _ rfl (fun _ _ => ?_) hS (fun _ _ h => h)
      rfl
    · intro a W hd hS hdep hfree
      have x1 : a.tmps.getD 1 undef = .pointer (some ⟨w.heap.size, 0, none⟩) := hfree 1 rfl
      clear hd hdep hfree
      simp only [Oper.wp, execOp]
      go_simp
      refine Nxt.mk _ rfl (fun _ _ => ?_) hS (fun _ _ h => h)
      rfl
    · intro a W hd hS hdep hfree
      have x44 : a.tmps.getD 44 undef = .pointer (some ⟨w.heap.size, 2, none⟩) := hdep 4 44 rfl rfl
      clear hd hdep hfree
      have c : W.cell? ⟨w.heap.size, 2, none⟩ = some (.int .i64 vl) := (HB3.out.below hS hg3).cell 2 (by simp)
      simp only [Oper.wp, execOp]
      go_simp
      refine Nxt.mk _ rfl (fun _ _ => ?_) hS (fun _ _ h => h)
      rfl
    · intro a W hd hS hdep hfree
      have x6 : a.tmps.getD 6 undef = .string D := hfree 6 rfl
      clear hd hdep hfree
      simp only [Oper.wp, execOp]
      go_simp
      refine Nxt.mk _ rfl (fun _ _ => ?_) hS (fun _ _ h => h)
      rfl
    · intro a W hd hS hdep hfree
      have x46 : a.tmps.getD 46 undef = .string D := hdep 6 46 rfl rfl
      clear hd hdep hfree
      simp only [Oper.wp, execOp]
      go_simp
      refine (HPad.out W).mono ?_
      rintro e W' ⟨rfl, hb⟩
      exact Nxt.mk _ rfl (fun _ _ => rfl) (below_comp hS hb) (fun j u h => Vals.below hb j u h)
    · intro a W hd hS hdep hfree
      have x41 : a.tmps.getD 41 undef = .int .i64 dm := hdep 1 41 rfl rfl
      have x43 : a.tmps.getD 43 undef = .int .i64 sm := hdep 3 43 rfl rfl
      have x45 : a.tmps.getD 45 undef = .int .i64 vl := hdep 5 45 rfl rfl
      have x47 : a.tmps.getD 47 undef = .string Q := hdep 7 47 rfl rfl
      have y41 : a.tmps[41]?.getD undef = .int .i64 dm := by rw [← Array.getD_eq_getD_getElem?]; exact x41
      have y43 : a.tmps[43]?.getD undef = .int .i64 sm := by rw [← Array.getD_eq_getD_getElem?]; exact x43
      have y45 : a.tmps[45]?.getD undef = .int .i64 vl := by rw [← Array.getD_eq_getD_getElem?]; exact x45
      have y47 : a.tmps[47]?.getD undef = .string Q := by rw [← Array.getD_eq_getD_getElem?]; exact x47
      clear hd hdep hfree
      simp only [Oper.wp, execOp]
      go_simp
      refine Nxt.mk _ rfl (fun _ _ => ?_) hS (fun _ _ h => h)
      rfl
    · intro a W hd hS hdep hfree
      have x48 : a.tmps.getD 48 undef = .agg #[.int .i64 dm, .int .i64 sm, .int .i64 vl, .int .i64 2048, .string Q] := hdep 8 48 rfl rfl
      clear hd hdep hfree
      simp only [Oper.wp, execOp]
      go_simp
      refine (HEth.out W).mono ?_
      rintro e W' ⟨rfl, hb⟩
      exact Nxt.mk _ rfl (fun _ _ => rfl) (below_comp hS hb) (fun j u h => Vals.below hb j u h)
    · intro a W hd hS hdep hfree
      have x49 : a.tmps.getD 49 undef = .tuple #[.string R, .bool B] := hdep 9 49 rfl rfl
      clear hd hdep hfree
      simp only [Oper.wp, execOp]
      go_simp
      refine Nxt.mk _ rfl (fun _ _ => ?_) hS (fun _ _ h => h)
      rfl
    · intro a W hd hS hdep hfree
      have x49 : a.tmps.getD 49 undef = .tuple #[.string R, .bool B] := hdep 9 49 rfl rfl
      clear hd hdep hfree
      simp only [Oper.wp, execOp]
      go_simp
      refine Nxt.mk _ rfl (fun _ _ => ?_) hS (fun _ _ h => h)
      rfl
    · intro a W hd hS hdep hfree
      have x50 : a.tmps.getD 50 undef = .string R := hdep 10 50 rfl rfl
      clear hd hdep hfree
      simp only [Oper.wp, execOp]
      go_simp
      refine Nxt.mk _ rfl (fun _ _ => ?_) hS (fun _ _ h => h)
      rfl
    · intro a W hd hS hdep hfree
      have x51 : a.tmps.getD 51 undef = .bool B := hdep 11 51 rfl rfl
      clear hd hdep hfree
      simp only [Oper.wp, execOp]
      go_simp
      refine Nxt.mk _ rfl (fun _ _ => ?_) hS (fun _ _ h => h)
      rfl
  intro a W4 hs hd hS4 hdone hrest
  have ea := written_all [.pointer (some ⟨w.heap.size, 0, none⟩), .int .i64 dm, .pointer (some ⟨w.heap.size, 1, none⟩), .int .i64 sm, .pointer (some ⟨w.heap.size, 2, none⟩), .int .i64 vl, .string D, .string Q, .agg #[.int .i64 dm, .int .i64 sm, .int .i64 vl, .int .i64 2048, .string Q], .tuple #[.string R, .bool B], .string R, .bool B, .string R, .bool B] rfl hs hd hrest hdone
  clear hs hd hdone hrest
  subst ea
  simp only [written, List.map_cons, List.map_nil, List.zip_cons_cons, List.zip_nil_right, putAll]
  simp only [Exit.then, Act.put, List.setIfInBounds_toArray, List.set_cons_zero, List.set_cons_succ]
  go_wp2
  go_ret2
  exact ⟨rfl, below_comp hb03 hS4⟩
set_option maxHeartbeats 4000000 in
set_option maxRecDepth 100000 in
theorem impl_image_no (p : PktM) (w : World) (h : ¬ p.SuperOk) :
    Calls Try.prog 103 #[p.val] w fun r w' => r = .returned (.tuple #[.string ⟨#[]⟩, .bool false]) ∧ Below w.heap.size w w' := by
  have HV : Hid (∀ W, Calls Try.prog 68 #[p.val] W fun r w' => r = .returned (.bool false) ∧ Below W.heap.size W w') := Lib.hid fun W => by have := impl_superok p W; rwa [decide_eq_false h] at this
  clear h
  obtain ⟨dm, sm, vl, ts, id, tl, si, di, ⟨k, sp, dp, q, c, f, n, b⟩⟩ := p
  unfold PktM.val at *
  dsimp only at *
  go_enter Try.func103, Try.ntmps103
  go_wp2_with fail
  refine (HV.out _).mono ?_
  rintro e w1 ⟨rfl, hb1⟩
  go_wp2
  go_ret2
  exact ⟨rfl, below_comp (below_new _) hb1⟩
theorem impl_image (p : PktM) (w : World) :
    Calls Try.prog 103 #[p.val] w fun r w' => r = .returned (.tuple #[.string p.image, .bool p.imageOk]) ∧ Below w.heap.size w w' := by
  by_cases h : p.SuperOk
  · rw [show p.image = p.eth.built from if_pos h, show p.imageOk = decide p.eth.Ok from by unfold PktM.imageOk; rw [decide_eq_true h, Bool.true_and]]; exact impl_image_yes p w h
  · rw [show p.image = ⟨#[]⟩ from if_neg h, show p.imageOk = false from by unfold PktM.imageOk; rw [decide_eq_false h, Bool.false_and]]; exact impl_image_no p w h

end Go.Proofs.Ytbidaccdjnbhfaa

/- Contracts of the model's frame check. -/
namespace Go.Proofs.Ytbidaccdjnbhfaa
open Go.RowKit

set_option maxHeartbeats 2000000 in
set_option maxRecDepth 100000 in
theorem spec_crc (s : ByteArray) (w : World) (hs : s.size ≤ 4194304) :
    Calls Try.prog 117 #[.string s] w fun e w' => e = .returned (.int .i64 (crc s : Nat)) ∧ w = w' := by
  go_enter Try.func117, Try.ntmps117
  go_wp2
  go_loop [3, 4, 5] (fun t i _ => ∃ k : Nat, k ≤ s.size ∧ i = .int .i64 k ∧ ∃ n : Nat, t = .int .i64 n ∧ n < 4294967296 ∧ Hid (n = crcL 4294967295 (s.data.toList.take k))) (fun _ i _ => s.size - (intOf i).toNat)
  case atStart => exact ⟨0, Nat.zero_le _, rfl, 4294967295, rfl, by omega, Lib.hid rfl⟩
  case round =>
    obtain ⟨k, hk, rfl, n, rfl, hn, HN⟩ := hrel
    by_cases hlt : k < s.size
    · have b1 : s[k].toNat < 256 := UInt8.toNat_lt _
      have ex : bits .xor .i64 (n : Int) (s[k].toNat : Int) = ((n ^^^ s[k].toNat : Nat) : Int) := xor64 _ _ (by omega) (by omega)
      have hx : n ^^^ s[k].toNat < 4294967296 := Nat.xor_lt_two_pow (n := 32) hn (by omega)
      have HB : Hid (crcN (n ^^^ s[k].toNat) 8 = crcL 4294967295 (s.data.toList.take (k + 1))) := Lib.hid (by rw [crcL_take s k hlt, ← HN.out]; rfl)
      generalize n ^^^ s[k].toNat = c at ex hx HB
      go_wp2
      go_loop [3, 5] (fun t j => ∃ m : Nat, m ≤ 8 ∧ j = .int .i64 m ∧ ∃ x : Nat, t = .int .i64 x ∧ x < 4294967296 ∧ Hid (x = crcN c m)) (fun _ j => 8 - (intOf j).toNat)
      case atStart => exact ⟨0, by omega, rfl, c, rfl, hx, Lib.hid rfl⟩
      case round =>
        clear ex
        obtain ⟨m, hm, rfl, x, rfl, hx2, HX⟩ := hrel
        by_cases hm8 : m < 8
        · have hm8' : (m : Int) < 8 := by omega
          have HS : Hid (crcStep x = crcN c (m + 1)) := Lib.hid (by rw [HX.out]; rfl)
          have HL : Hid (crcStep x < 4294967296) := Lib.hid (crcStep_lt x hx2)
          by_cases hodd : x % 2 = 1
          · have ea : bits .and .i64 (x : Int) 1 = 1 := by
              rw [show (1 : Int) = ((1 : Nat) : Int) from rfl, and64 x 1 (by omega) (by omega), nat_mask1, hodd]
            have ey : bits .xor .i64 ((x : Int) / 2) 3988292384 = ((crcStep x : Nat) : Int) := by
              unfold crcStep
              rw [if_pos hodd, show (x : Int) / 2 = ((x / 2 : Nat) : Int) from by omega]
              exact xor64 (x / 2) poly (by omega) (by decide)
            clear hodd
            go_wp2
            go_round
            case rel => exact ⟨m + 1, by omega, by go_num, crcStep x, rfl, HL.out, HS⟩
            case measure => simp [intOf] <;> omega
          · have ea : bits .and .i64 (x : Int) 1 = 0 := by
              rw [show (1 : Int) = ((1 : Nat) : Int) from rfl, and64 x 1 (by omega) (by omega), nat_mask1, show x % 2 = 0 from by omega]
              rfl
            have HY : Hid ((x : Int) / 2 = ((crcStep x : Nat) : Int)) := Lib.hid (by unfold crcStep; rw [if_neg hodd]; omega)
            clear hodd
            go_wp2
            go_round
            case rel => exact ⟨m + 1, by omega, by go_num, crcStep x, by rw [HY.out], HL.out, HS⟩
            case measure => simp [intOf] <;> omega
        · have hm9 : m = 8 := by omega
          have HC : Hid (x = crcL 4294967295 (s.data.toList.take (k + 1))) := Lib.hid (by rw [HX.out, hm9]; exact HB.out)
          have hm8' : ¬ (m : Int) < 8 := by omega
          clear hm9
          go_wp2
          go_round
          case rel => exact ⟨k + 1, by omega, by go_num, x, rfl, hx2, HC⟩
          case measure => simp [intOf] <;> omega
    · have HE : Hid ((4294967295 : Int) - n = ((crc s : Nat) : Int)) := Lib.hid (by
        have h1 := HN.out
        rw [List.take_of_length_le (by simp; omega)] at h1
        unfold crc
        rw [← h1]
        omega)
      go_wp2
      go_ret
      exact ⟨ret_int HE.out, rfl⟩

theorem fcs_conv (s : ByteArray) : (⟨#[UInt8.ofNat ((crc s : Int) % 256).toNat, UInt8.ofNat ((crc s : Int) / 256 % 256).toNat, UInt8.ofNat ((crc s : Int) / 65536 % 256).toNat, UInt8.ofNat ((crc s : Int) / 16777216).toNat]⟩ : ByteArray) = fcs s := by
  have := crc_lt s
  unfold fcs low
  rw [show (crc s : Int) / 16777216 % 256 = (crc s : Int) / 16777216 from by omega]

theorem spec_with (s : ByteArray) (w : World) (hs : s.size ≤ 4194304) :
    Calls Try.prog 102 #[.string s] w fun e w' => e = .returned (.string (withF s)) ∧ Below w.heap.size w w' := by
  have hc := crc_lt s
  have hz : (fcs s).size = 4 := rfl
  have hconv := conv_four ((crc s : Int) % 256) ((crc s : Int) / 256 % 256) ((crc s : Int) / 65536 % 256) ((crc s : Int) / 16777216) (by omega) (by omega) (by omega) (by omega)
  rw [fcs_conv] at hconv
  have hz4 : (fcs s).size ≤ 4 := by omega
  clear hz
  go_enter Try.func102, Try.ntmps102
  go_wp2_with (go_at_call 117; refine (spec_crc s _ hs).mono ?_; rintro e w' ⟨rfl, rfl⟩)
  go_ret
  exact ⟨rfl, (Below.refl _ _).alloc (Nat.le_refl _) _⟩

end Go.Proofs.Ytbidaccdjnbhfaa

/- Contracts of the program's frame check: making it. -/
namespace Go.Proofs.Ytbidaccdjnbhfaa
open Go.RowKit

theorem ofInt32 (a : Nat) (ha : a < 4294967296) : (BitVec.ofInt 32 (a : Int)).toNat = a := by
  rw [BitVec.ofInt_natCast, BitVec.toNat_ofNat]; exact Nat.mod_eq_of_lt (by omega)
theorem xor32 (a b : Nat) (ha : a < 4294967296) (hb : b < 4294967296) : bits .xor .u32 (a : Int) (b : Int) = ((a ^^^ b : Nat) : Int) := by
  have hx : a ^^^ b < 2 ^ 32 := Nat.xor_lt_two_pow (by omega) (by omega)
  show IntKind.u32.wrap ((BitVec.ofInt 32 (a : Int) ^^^ BitVec.ofInt 32 (b : Int)).toNat : Int) = _
  rw [BitVec.toNat_xor, ofInt32 a ha, ofInt32 b hb, IntKind.wrap_u32]
  omega

set_option maxHeartbeats 2000000 in
set_option maxRecDepth 100000 in
theorem impl_crc (s : ByteArray) (w : World) (hs : s.size ≤ 4194304) :
    Calls Try.prog 139 #[.string s] w fun e w' => e = .returned (.int .i64 (crc s : Nat)) ∧ w = w' := by
  go_enter Try.func139, Try.ntmps139
  go_wp2
  go_loop [3, 8] (fun t i => ∃ k : Nat, k ≤ s.size ∧ i = .int .i64 k ∧ ∃ n : Nat, t = .int .u32 n ∧ n < 4294967296 ∧ Hid (n = crcL 4294967295 (s.data.toList.take k))) (fun _ i => s.size - (intOf i).toNat)
  case atStart => exact ⟨0, Nat.zero_le _, rfl, 4294967295, rfl, by omega, Lib.hid rfl⟩
  case round =>
    obtain ⟨k, hk, rfl, n, rfl, hn, HN⟩ := hrel
    by_cases hlt : k < s.size
    · have b1 : s[k].toNat < 256 := UInt8.toNat_lt _
      have ex : bits .xor .u32 (n : Int) (s[k].toNat : Int) = ((n ^^^ s[k].toNat : Nat) : Int) := xor32 _ _ (by omega) (by omega)
      have hx : n ^^^ s[k].toNat < 4294967296 := Nat.xor_lt_two_pow (n := 32) hn (by omega)
      have HB : Hid (crcN (n ^^^ s[k].toNat) 8 = crcL 4294967295 (s.data.toList.take (k + 1))) := Lib.hid (by rw [crcL_take s k hlt, ← HN.out]; rfl)
      generalize n ^^^ s[k].toNat = c at ex hx HB
      go_wp2
      go_loop [3, 17] (fun t j => ∃ m : Nat, m ≤ 8 ∧ j = .int .i64 m ∧ ∃ x : Nat, t = .int .u32 x ∧ x < 4294967296 ∧ Hid (x = crcN c m)) (fun _ j => 8 - (intOf j).toNat)
      case atStart => exact ⟨0, by omega, rfl, c, rfl, hx, Lib.hid rfl⟩
      case round =>
        clear ex
        obtain ⟨m, hm, rfl, x, rfl, hx2, HX⟩ := hrel
        by_cases hm8 : m < 8
        · have hm8' : (m : Int) < 8 := by omega
          have HS : Hid (crcStep x = crcN c (m + 1)) := Lib.hid (by rw [HX.out]; rfl)
          have HL : Hid (crcStep x < 4294967296) := Lib.hid (crcStep_lt x hx2)
          by_cases hodd : x % 2 = 1
          · have ey : bits .xor .u32 ((x : Int) / 2) 3988292384 = ((crcStep x : Nat) : Int) := by
              unfold crcStep
              rw [if_pos hodd, show (x : Int) / 2 = ((x / 2 : Nat) : Int) from by omega]
              exact xor32 (x / 2) poly (by omega) (by decide)
            have e1 : ((x : Int) % 2 != 0) = true := by rw [show (x : Int) % 2 = 1 from by omega]; rfl
            clear hodd
            go_wp2
            go_round
            case rel => exact ⟨m + 1, by omega, by go_num, crcStep x, rfl, HL.out, HS⟩
            case measure => simp [intOf] <;> omega
          · have e1 : ((x : Int) % 2 != 0) = false := by rw [show (x : Int) % 2 = 0 from by omega]; rfl
            have HY : Hid ((x : Int) / 2 = ((crcStep x : Nat) : Int)) := Lib.hid (by unfold crcStep; rw [if_neg hodd]; omega)
            clear hodd
            go_wp2
            go_round
            case rel => exact ⟨m + 1, by omega, by go_num, crcStep x, by rw [HY.out], HL.out, HS⟩
            case measure => simp [intOf] <;> omega
        · have hm9 : m = 8 := by omega
          have HC : Hid (x = crcL 4294967295 (s.data.toList.take (k + 1))) := Lib.hid (by rw [HX.out, hm9]; exact HB.out)
          have hm8' : ¬ (m : Int) < 8 := by omega
          clear hm9
          go_wp2
          go_round
          case rel => exact ⟨k + 1, by omega, by go_num, x, rfl, hx2, HC⟩
          case measure => simp [intOf] <;> omega
    · have HE : Hid ((4294967295 : Int) - n = ((crc s : Nat) : Int)) := Lib.hid (by
        have h1 := HN.out
        rw [List.take_of_length_le (by simp; omega)] at h1
        unfold crc
        rw [← h1]
        omega)
      go_wp2
      go_ret
      exact ⟨ret_int HE.out, rfl⟩

/-- The four check bytes as the program's array. -/
theorem impl_fcs (s : ByteArray) (w : World) (hs : s.size ≤ 4194304) :
    Calls Try.prog 122 #[.string s] w fun e w' => e = .returned (.agg #[.int .u8 ((crc s : Int) % 256), .int .u8 ((crc s : Int) / 256 % 256), .int .u8 ((crc s : Int) / 65536 % 256), .int .u8 ((crc s : Int) / 16777216)]) ∧ Below w.heap.size w w' := by
  have hc := crc_lt s
  go_enter Try.func122, Try.ntmps122
  go_wp2_with (go_at_call 139; refine (impl_crc s _ hs).mono ?_; rintro e w' ⟨rfl, rfl⟩)
  exact bodyPost_ret (v := .agg #[.int .u8 ((crc s : Int) % 256), .int .u8 ((crc s : Int) / 256 % 256), .int .u8 ((crc s : Int) / 65536 % 256), .int .u8 ((crc s : Int) / 16777216)]) (by simp [results, Try.results122, go_sem]) rfl ⟨rfl, (Below.refl _ _).alloc (Nat.le_refl _) _⟩

/-- 'string(b)' of four bytes that lie in a block of whatever type. -/
theorem conv_four_at (t : TypeId) (a b c d : Int) (ha : 0 ≤ a ∧ a < 256) (hb : 0 ≤ b ∧ b < 256) (hc : 0 ≤ c ∧ c < 256) (hd : 0 ≤ d ∧ d < 256) (W : World) :
    (convert 110 9 (.slice (some ⟨W.heap.size, 0, none⟩) 4 4)).run Try.prog (W.alloc (.cells #[.int .u8 a, .int .u8 b, .int .u8 c, .int .u8 d] t)) =
    .ok (.string ⟨#[UInt8.ofNat a.toNat, UInt8.ofNat b.toNat, UInt8.ofNat c.toNat, UInt8.ofNat d.toNat]⟩) (W.alloc (.cells #[.int .u8 a, .int .u8 b, .int .u8 c, .int .u8 d] t)) := by
  have h0 := run_convert_bytes_back (P := Try.prog) (W.alloc (.cells #[.int .u8 a, .int .u8 b, .int .u8 c, .int .u8 d] t)) 110 9 5 ⟨W.heap.size, 0, none⟩ 4 [UInt8.ofNat a.toNat, UInt8.ofNat b.toNat, UInt8.ofNat c.toNat, UInt8.ofNat d.toNat]
    Try.underlying110 Try.underlying5 Try.underlying9 (fun j hj => by
      have hadd : (⟨W.heap.size, 0, none⟩ : Addr).add j = ⟨W.heap.size, j, none⟩ := by unfold Addr.add; split <;> simp_all
      rw [hadd, cell_of_row _ _ j _ _ _ (heap_alloc_new W _)]
      have hj' : j < 4 := hj
      rcases (show j = 0 ∨ j = 1 ∨ j = 2 ∨ j = 3 by omega) with rfl | rfl | rfl | rfl <;> simp [UInt8.toNat_ofNat'] <;> omega)
  exact h0

theorem impl_with (s : ByteArray) (w : World) (hs : s.size ≤ 4194304) :
    Calls Try.prog 104 #[.string s] w fun e w' => e = .returned (.string (withF s)) ∧ Below w.heap.size w w' := by
  have hc := crc_lt s
  have hz4 : (fcs s).size ≤ 4 := Nat.le_refl _
  have hconv := conv_four_at 130 ((crc s : Int) % 256) ((crc s : Int) / 256 % 256) ((crc s : Int) / 65536 % 256) ((crc s : Int) / 16777216) (by omega) (by omega) (by omega) (by omega)
  rw [fcs_conv] at hconv
  go_enter Try.func104, Try.ntmps104
  go_wp2_with (go_at_call 122; refine (impl_fcs s _ hs).mono ?_; rintro e w' ⟨rfl, hb1⟩)
  go_ret
  exact ⟨rfl, hb1.alloc hb1.size _⟩

end Go.Proofs.Ytbidaccdjnbhfaa

/- BuildFrame of both sides. -/
namespace Go.Proofs.Ytbidaccdjnbhfaa
open Go.RowKit
set_option linter.unusedSimpArgs false
set_option linter.unusedVariables false
def PktM.frame (p : PktM) : ByteArray := if p.Ok then withF p.image else ⟨#[]⟩
theorem withsum_size (g : SegM) (c : Int) : (g.withSum c).size ≤ 20 + g.body.size := by
  unfold SegM.withSum
  split
  · rw [SegM.udp_size]; omega
  · rw [SegM.tcp_size]; omega
theorem segB_ok (p : PktM) (h : p.SuperOk) : p.seg.OkB p.sip p.dip := by
  refine ⟨h.2.2.2.2.2.2.2.2.1, h.2.2.2.2.2.2.1, h.2.2.2.2.2.2.2.1, ?_, ?_⟩
  · have := h.2.2.2.2.2.2.2.2.1.2.2.2; omega
  · have h1 := h.2.2.2.2.2.2.2.2.1.2.2.1
    have h2 := withsum_size p.seg 0
    unfold SegM.len
    omega
theorem segB_size (p : PktM) : p.segB.size ≤ 20 + p.seg.body.size := by
  unfold PktM.segB SegM.built
  split
  · exact withsum_size _ _
  · exact Nat.zero_le _
theorem ip_ok (p : PktM) (h : p.SuperOk) : p.ip.Ok := by
  obtain ⟨h1, h2, h3, h4, h5, h6, h7, h8, h9, h10⟩ := h
  have hk := h9.2.2.2
  have hb := h9.2.2.1
  have hs := segB_size p
  refine ⟨h4, h5, ?_, h6, h7, h8, ?_⟩
  · show 0 ≤ p.seg.kind ∧ p.seg.kind ≤ 255
    omega
  · show (p.segB.size : Int) ≤ 380
    omega
theorem padB_size (s : ByteArray) (h : s.size ≤ 400) : 46 ≤ (padB s).size ∧ (padB s).size ≤ 400 := by
  unfold padB
  split
  · rw [ByteArray.size_append, longB_size]; omega
  · omega
theorem eth_ok (p : PktM) (h : p.SuperOk) : p.eth.Ok := by
  obtain ⟨h1, h2, h3, _⟩ := h
  exact ⟨h1, h2, h3, ⟨by show (1536 : Int) ≤ 2048; decide, by show (2048 : Int) ≤ 65535; decide⟩, by show (2048 : Int) ≠ 33024; decide, padB_size _ (ipbuilt_size _)⟩
theorem imageOk_super (p : PktM) (h : p.SuperOk) : p.imageOk = true := by
  unfold PktM.imageOk
  rw [decide_eq_true h, decide_eq_true (eth_ok p h)]
  rfl
theorem ethbytes_size (e : EthM) (h : e.Ok) : e.bytes.size ≤ 420 := by
  have := h.2.2.2.2.2
  unfold EthM.bytes EthM.tag
  simp only [ByteArray.size_append]
  have h1 : (mac e.dst).size = 6 := rfl
  have h2 : (mac e.src).size = 6 := rfl
  have h3 : (w16 e.type).size = 2 := rfl
  split
  · have h4 : (w16 33024 ++ w16 e.vlan).size = 4 := rfl
    omega
  · have h4 : (⟨#[]⟩ : ByteArray).size = 0 := rfl
    omega
theorem image_size (p : PktM) : p.image.size ≤ 420 := by
  unfold PktM.image EthM.built
  split
  · split
    · exact ethbytes_size _ (by assumption)
    · exact Nat.zero_le _
  · exact Nat.zero_le _

set_option maxHeartbeats 8000000 in
set_option maxRecDepth 100000 in
theorem spec_frame (p : PktM) (w : World) :
    Calls Try.prog 73 #[p.val] w fun r w' => r = .returned (.tuple #[.string p.frame, .bool (decide p.Ok)]) ∧ Below w.heap.size w w' := by
  have HV := Lib.hid fun W => spec_packetok p W
  have HW := Lib.hid fun W => spec_with p.image W (by have := image_size p; omega)
  by_cases h : p.Ok
  case' pos =>
    have HI : Hid (∀ W, Calls Try.prog 101 #[p.val] W fun r w' => r = .returned (.tuple #[.string p.image, .bool true]) ∧ Below W.heap.size W w') := Lib.hid fun W => by have := spec_image p W; rwa [imageOk_super p h.1] at this
    rw [show p.frame = withF p.image from if_pos h, decide_eq_true h]
    rw [decide_eq_true h] at HV
  case' neg =>
    have HI : Hid True := Lib.hid trivial
    rw [show p.frame = ⟨#[]⟩ from if_neg h, decide_eq_false h]
    rw [decide_eq_false h] at HV
  all_goals
    clear h
    generalize p.image = I at HW HI ⊢
    generalize withF I = R at HW ⊢
    obtain ⟨dm, sm, vl, ts, id, tl, si, di, ⟨k, sp, dp, q, c, f, n, b⟩⟩ := p
    unfold PktM.val at *
    dsimp only at *
    go_enter Try.func73, Try.ntmps73
    go_wp2_with fail
    refine (HV.out _).mono ?_
    rintro e w1 ⟨rfl, hb1⟩
    obtain ⟨hc, hf, _⟩ := bcell hb1
    have hg1 : w.heap.size < w1.heap.size := by have := hb1.size; simp at this; omega
    go_wp2_with (first
      | (go_at_call 101; refine (HI.out _).mono ?_; rintro e w2 ⟨rfl, hb2⟩)
      | (go_at_call 102; refine (HW.out _).mono ?_; rintro e w3 ⟨rfl, hb3⟩))
    go_ret2
    refine ⟨rfl, ?_⟩
    first | exact below_comp (below_comp (below_comp (below_new _) hb1) hb2) hb3 | exact below_comp (below_new _) hb1

set_option maxHeartbeats 8000000 in
set_option maxRecDepth 100000 in
theorem impl_frame (p : PktM) (w : World) :
    Calls Try.prog 74 #[p.val] w fun r w' => r = .returned (.tuple #[.string p.frame, .bool (decide p.Ok)]) ∧ Below w.heap.size w w' := by
  have HV := Lib.hid fun W => impl_packetok p W
  have HW := Lib.hid fun W => impl_with p.image W (by have := image_size p; omega)
  by_cases h : p.Ok
  case' pos =>
    have HI : Hid (∀ W, Calls Try.prog 103 #[p.val] W fun r w' => r = .returned (.tuple #[.string p.image, .bool true]) ∧ Below W.heap.size W w') := Lib.hid fun W => by have := impl_image p W; rwa [imageOk_super p h.1] at this
    rw [show p.frame = withF p.image from if_pos h, decide_eq_true h]
    rw [decide_eq_true h] at HV
  case' neg =>
    have HI : Hid True := Lib.hid trivial
    rw [show p.frame = ⟨#[]⟩ from if_neg h, decide_eq_false h]
    rw [decide_eq_false h] at HV
  all_goals
    clear h
    generalize p.image = I at HW HI ⊢
    generalize withF I = R at HW ⊢
    obtain ⟨dm, sm, vl, ts, id, tl, si, di, ⟨k, sp, dp, q, c, f, n, b⟩⟩ := p
    unfold PktM.val at *
    dsimp only at *
    go_enter Try.func74, Try.ntmps74
    go_wp2_with fail
    refine (HV.out _).mono ?_
    rintro e w1 ⟨rfl, hb1⟩
    obtain ⟨hc, hf, _⟩ := bcell hb1
    have hg1 : w.heap.size < w1.heap.size := by have := hb1.size; simp at this; omega
    go_wp2_with (first
      | (go_at_call 103; refine (HI.out _).mono ?_; rintro e w2 ⟨rfl, hb2⟩)
      | (go_at_call 104; refine (HW.out _).mono ?_; rintro e w3 ⟨rfl, hb3⟩))
    go_ret2
    refine ⟨rfl, ?_⟩
    first | exact below_comp (below_comp (below_comp (below_new _) hb1) hb2) hb3 | exact below_comp (below_new _) hb1

end Go.Proofs.Ytbidaccdjnbhfaa
