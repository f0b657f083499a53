/- EncodeDesc of both sides. -/
import Derived.Test.YtncpnoloamebnaaDescOkB
import Derived.Test.YtncpnoloamebnaaHashInputB
import Derived.Test.YtncpnoloamebnaaInYN
import Derived.Test.YtncpnoloamebnaaConvB
import Derived.Deep.QuietTactic
import Derived.BigQuiet
namespace Go.Proofs.Ytncpnoloamebnaa
open Go.RowKit
set_option linter.unusedSimpArgs false
set_option linter.unusedVariables false

def DescM.bytes (e : DescM) : ByteArray := two (e.xOp % 256) (e.xFlags % 256) ++ word16V e.xLen ++ word32V e.xAt ++ word16V e.xSize ++ word16V e.xCookie ++ word32V 0
def DescM.enc (e : DescM) : ByteArray := if e.Ok then e.bytes else ⟨#[]⟩

set_option maxHeartbeats 4000000 in
set_option maxRecDepth 100000 in
theorem spec_encdesc_no (e : DescM) (w : World) (h : ¬ e.Ok) :
    Calls Try.prog 37 #[e.val] w fun r w' => r = .returned (.string e.enc) ∧ Below w.heap.size w w' := by
  have HV : Hid (∀ W, Calls Try.prog 34 #[e.val] W fun r w' => r = .returned (.bool false) ∧ Below W.heap.size W w') := Lib.hid fun W => by have := spec_descok e W; rwa [decide_eq_false h] at this
  rw [show e.enc = ⟨#[]⟩ from if_neg h]
  clear h
  obtain ⟨op, fl, le, ad, si, co⟩ := e
  unfold DescM.val at *
  dsimp only at *
  go_enter Try.func37, Try.ntmps37
  go_wp2_with (go_at_call 34; refine (HV.out _).mono ?_; rintro e w1 ⟨rfl, hb1⟩)
  go_ret
  exact ⟨rfl, below_comp (below_new _) hb1⟩

set_option maxHeartbeats 4000000 in
set_option maxRecDepth 100000 in
theorem impl_encdesc_no (e : DescM) (w : World) (h : ¬ e.Ok) :
    Calls Try.prog 38 #[e.val] w fun r w' => r = .returned (.string e.enc) ∧ Below w.heap.size w w' := by
  have HV : Hid (∀ W, Calls Try.prog 36 #[e.val] W fun r w' => r = .returned (.bool false) ∧ Below W.heap.size W w') := Lib.hid fun W => by have := impl_descok e W; rwa [decide_eq_false h] at this
  rw [show e.enc = ⟨#[]⟩ from if_neg h]
  clear h
  obtain ⟨op, fl, le, ad, si, co⟩ := e
  unfold DescM.val at *
  dsimp only at *
  go_enter Try.func38, Try.ntmps38
  go_wp2_with (go_at_call 36; refine (HV.out _).mono ?_; rintro e w1 ⟨rfl, hb1⟩)
  go_ret
  exact ⟨rfl, below_comp (below_new _) hb1⟩

set_option maxHeartbeats 4000000 in
set_option maxRecDepth 100000 in
theorem spec_encdesc (e : DescM) (w : World) :
    Calls Try.prog 37 #[e.val] w fun r w' => r = .returned (.string e.enc) ∧ Below w.heap.size w w' := by
  by_cases h : e.Ok
  case neg => exact spec_encdesc_no e w h
  have HV : Hid (∀ W, Calls Try.prog 34 #[e.val] W fun r w' => r = .returned (.bool true) ∧ Below W.heap.size W w') := Lib.hid fun W => by have := spec_descok e W; rwa [decide_eq_true h] at this
  obtain ⟨R, HR⟩ : ∃ R, Hid (R = e.bytes) := ⟨_, Lib.hid rfl⟩
  rw [show e.enc = R from (if_pos h).trans HR.out.symm]
  clear h
  obtain ⟨op, fl, le, ad, si, co⟩ := e
  unfold DescM.val DescM.bytes at *
  dsimp only at *
  have HC1 := Lib.hid fun g W => conv_two_at 5 (op % 256) (fl % 256) (by omega) (by omega) g W
  have z1 := w16V_size le
  have z2 := w32V_size ad
  have z3 := w16V_size si
  have z4 := w16V_size co
  have z5 := w32V_size 0
  have z6 : (two (op % 256) (fl % 256)).size ≤ 2 := Nat.le_refl _
  go_enter Try.func37, Try.ntmps37
  go_wp2_with (go_at_call 34; refine (HV.out _).mono ?_; rintro e w1 ⟨rfl, hb1⟩)
  have hg1 : w.heap.size < w1.heap.size := by have := hb1.size; simp at this; omega
  have HB1 := Lib.hid ((Box.new w #[.int .i64 op, .int .i64 fl, .int .i64 le, .int .i64 ad, .int .i64 si, .int .i64 co] 43).below hb1 (by simp))
  have hb01 := below_comp (below_new _) hb1
  clear hb1
  refine wp_region_values (by kernel_rfl) (fun W => Below w1.heap.size w1 W) (Vals [.pointer (some ⟨w.heap.size, 0, none⟩), .int .i64 op, .int .u8 (op % 256), .pointer (some ⟨w.heap.size, 1, none⟩), .int .i64 fl, .int .u8 (fl % 256), undef, .string (two (op % 256) (fl % 256)), .pointer (some ⟨w.heap.size, 2, none⟩), .int .i64 le, .string (word16V le), .string ((two (op % 256) (fl % 256)) ++ (word16V le)), .pointer (some ⟨w.heap.size, 3, none⟩), .int .i64 ad, .string (word32V ad), .string (((two (op % 256) (fl % 256)) ++ (word16V le)) ++ (word32V ad)), .pointer (some ⟨w.heap.size, 4, none⟩), .int .i64 si, .string (word16V si), .string ((((two (op % 256) (fl % 256)) ++ (word16V le)) ++ (word32V ad)) ++ (word16V si)), .pointer (some ⟨w.heap.size, 5, none⟩), .int .i64 co, .string (word16V co), .string (((((two (op % 256) (fl % 256)) ++ (word16V le)) ++ (word32V ad)) ++ (word16V si)) ++ (word16V co)), .string (word32V 0), .string ((((((two (op % 256) (fl % 256)) ++ (word16V le)) ++ (word32V ad)) ++ (word16V si)) ++ (word16V co)) ++ (word32V 0)), .string ((((((two (op % 256) (fl % 256)) ++ (word16V le)) ++ (word32V ad)) ++ (word16V si)) ++ (word16V co)) ++ (word32V 0))] [(6, #[.int .u8 (op % 256), .int .u8 (fl % 256)], 5, 2)])
    32 rfl (by kernel_rfl) (by kernel_rfl) below_drew (eachOp_all ?_) ?_
  · refine ⟨?_, ?_, ?_, ?_, ?_, ?_, ?_, ?_, ?_, ?_, ?_, ?_, ?_, ?_, ?_, ?_, ?_, ?_, ?_, ?_, ?_, ?_, ?_, ?_, ?_, ?_, ?_, trivial⟩
    · intro a W hd hS hdep hfree
      have x1 : a.tmps.getD 1 undef = .pointer (some ⟨w.heap.size, 0, none⟩) := hfree 1 rfl
      clear hd hdep hfree
      simp only [Oper.wp, execOp]
      go_simp
      refine Nxt.mk _ rfl (fun _ _ => ?_) hS (fun _ _ h => h)
      rfl
    · intro a W hd hS hdep hfree
      have x6 : a.tmps.getD 6 undef = .pointer (some ⟨w.heap.size, 0, none⟩) := hdep 0 6 rfl rfl
      clear hd hdep hfree
      have c : W.cell? ⟨w.heap.size, 0, none⟩ = some (.int .i64 op) := (HB1.out.below hS hg1).cell 0 (by simp)
      simp only [Oper.wp, execOp]
      go_simp
      refine Nxt.mk _ rfl (fun _ _ => ?_) hS (fun _ _ h => h)
      rfl
    · intro a W hd hS hdep hfree
      have x7 : a.tmps.getD 7 undef = .int .i64 op := hdep 1 7 rfl rfl
      clear hd hdep hfree
      simp only [Oper.wp, execOp]
      go_simp
      refine Nxt.mk _ rfl (fun _ _ => ?_) hS (fun _ _ h => h)
      rfl
    · intro a W hd hS hdep hfree
      have x1 : a.tmps.getD 1 undef = .pointer (some ⟨w.heap.size, 0, none⟩) := hfree 1 rfl
      clear hd hdep hfree
      simp only [Oper.wp, execOp]
      go_simp
      refine Nxt.mk _ rfl (fun _ _ => ?_) hS (fun _ _ h => h)
      rfl
    · intro a W hd hS hdep hfree
      have x9 : a.tmps.getD 9 undef = .pointer (some ⟨w.heap.size, 1, none⟩) := hdep 3 9 rfl rfl
      clear hd hdep hfree
      have c : W.cell? ⟨w.heap.size, 1, none⟩ = some (.int .i64 fl) := (HB1.out.below hS hg1).cell 1 (by simp)
      simp only [Oper.wp, execOp]
      go_simp
      refine Nxt.mk _ rfl (fun _ _ => ?_) hS (fun _ _ h => h)
      rfl
    · intro a W hd hS hdep hfree
      have x10 : a.tmps.getD 10 undef = .int .i64 fl := hdep 4 10 rfl rfl
      clear hd hdep hfree
      simp only [Oper.wp, execOp]
      go_simp
      refine Nxt.mk _ rfl (fun _ _ => ?_) hS (fun _ _ h => h)
      rfl
    · intro a W hd hS hdep hfree
      have x8 : a.tmps.getD 8 undef = .int .u8 (op % 256) := hdep 2 8 rfl rfl
      have x11 : a.tmps.getD 11 undef = .int .u8 (fl % 256) := hdep 5 11 rfl rfl
      have y11 : a.tmps[11]?.getD undef = .int .u8 (fl % 256) := by rw [← Array.getD_eq_getD_getElem?]; exact x11
      have y8 : a.tmps[8]?.getD undef = .int .u8 (op % 256) := by rw [← Array.getD_eq_getD_getElem?]; exact x8
      clear hd hdep hfree
      simp only [Oper.wp, execOp]
      go_simp
      exact Nxt.mk _ rfl (fun _ _ => ⟨W.heap.size, rfl, heap_alloc_new W _, by simp⟩) (below_comp hS (below_new _)) (fun j u h => Vals.below (below_new _) j u h)
    · intro a W hd hS hdep hfree
      obtain ⟨g12, x12, hx12, hl12⟩ : SliceAt W (a.tmps.getD 12 undef) #[.int .u8 (op % 256), .int .u8 (fl % 256)] 5 2 := hdep 6 12 rfl rfl
      clear hd hdep hfree
      have hcv := HC1.out g12 W hx12
      simp only [Oper.wp, execOp]
      go_simp
      refine Nxt.mk _ rfl (fun _ _ => ?_) hS (fun _ _ h => h)
      rfl
    · intro a W hd hS hdep hfree
      have x1 : a.tmps.getD 1 undef = .pointer (some ⟨w.heap.size, 0, none⟩) := hfree 1 rfl
      clear hd hdep hfree
      simp only [Oper.wp, execOp]
      go_simp
      refine Nxt.mk _ rfl (fun _ _ => ?_) hS (fun _ _ h => h)
      rfl
    · intro a W hd hS hdep hfree
      have x14 : a.tmps.getD 14 undef = .pointer (some ⟨w.heap.size, 2, none⟩) := hdep 8 14 rfl rfl
      clear hd hdep hfree
      have c : W.cell? ⟨w.heap.size, 2, none⟩ = some (.int .i64 le) := (HB1.out.below hS hg1).cell 2 (by simp)
      simp only [Oper.wp, execOp]
      go_simp
      refine Nxt.mk _ rfl (fun _ _ => ?_) hS (fun _ _ h => h)
      rfl
    · intro a W hd hS hdep hfree
      have x15 : a.tmps.getD 15 undef = .int .i64 le := hdep 9 15 rfl rfl
      clear hd hdep hfree
      simp only [Oper.wp, execOp]
      go_simp
      refine (spec_word16 le W).mono ?_
      rintro e W' ⟨rfl, hb⟩
      exact Nxt.mk _ rfl (fun _ _ => rfl) (below_comp hS hb) (fun j u h => Vals.below hb j u h)
    · intro a W hd hS hdep hfree
      have x13 : a.tmps.getD 13 undef = .string (two (op % 256) (fl % 256)) := hdep 7 13 rfl rfl
      have x16 : a.tmps.getD 16 undef = .string (word16V le) := hdep 10 16 rfl rfl
      clear hd hdep hfree
      have k : ¬ 9223372036854775807 < (two (op % 256) (fl % 256)).size + (word16V le).size := by (try simp only [ByteArray.size_append]); omega
      have k2 := k
      try simp only [ByteArray.size_append] at k2
      simp only [Oper.wp, execOp]
      go_simp
      refine Nxt.mk _ rfl (fun _ _ => ?_) hS (fun _ _ h => h)
      rfl
    · intro a W hd hS hdep hfree
      have x1 : a.tmps.getD 1 undef = .pointer (some ⟨w.heap.size, 0, none⟩) := hfree 1 rfl
      clear hd hdep hfree
      simp only [Oper.wp, execOp]
      go_simp
      refine Nxt.mk _ rfl (fun _ _ => ?_) hS (fun _ _ h => h)
      rfl
    · intro a W hd hS hdep hfree
      have x18 : a.tmps.getD 18 undef = .pointer (some ⟨w.heap.size, 3, none⟩) := hdep 12 18 rfl rfl
      clear hd hdep hfree
      have c : W.cell? ⟨w.heap.size, 3, none⟩ = some (.int .i64 ad) := (HB1.out.below hS hg1).cell 3 (by simp)
      simp only [Oper.wp, execOp]
      go_simp
      refine Nxt.mk _ rfl (fun _ _ => ?_) hS (fun _ _ h => h)
      rfl
    · intro a W hd hS hdep hfree
      have x19 : a.tmps.getD 19 undef = .int .i64 ad := hdep 13 19 rfl rfl
      clear hd hdep hfree
      simp only [Oper.wp, execOp]
      go_simp
      refine (spec_word32 ad W).mono ?_
      rintro e W' ⟨rfl, hb⟩
      exact Nxt.mk _ rfl (fun _ _ => rfl) (below_comp hS hb) (fun j u h => Vals.below hb j u h)
    · intro a W hd hS hdep hfree
      have x17 : a.tmps.getD 17 undef = .string ((two (op % 256) (fl % 256)) ++ (word16V le)) := hdep 11 17 rfl rfl
      have x20 : a.tmps.getD 20 undef = .string (word32V ad) := hdep 14 20 rfl rfl
      clear hd hdep hfree
      have k : ¬ 9223372036854775807 < ((two (op % 256) (fl % 256)) ++ (word16V le)).size + (word32V ad).size := by (try simp only [ByteArray.size_append]); omega
      have k2 := k
      try simp only [ByteArray.size_append] at k2
      simp only [Oper.wp, execOp]
      go_simp
      refine Nxt.mk _ rfl (fun _ _ => ?_) hS (fun _ _ h => h)
      rfl
    · intro a W hd hS hdep hfree
      have x1 : a.tmps.getD 1 undef = .pointer (some ⟨w.heap.size, 0, none⟩) := hfree 1 rfl
      clear hd hdep hfree
      simp only [Oper.wp, execOp]
      go_simp
      refine Nxt.mk _ rfl (fun _ _ => ?_) hS (fun _ _ h => h)
      rfl
    · intro a W hd hS hdep hfree
      have x22 : a.tmps.getD 22 undef = .pointer (some ⟨w.heap.size, 4, none⟩) := hdep 16 22 rfl rfl
      clear hd hdep hfree
      have c : W.cell? ⟨w.heap.size, 4, none⟩ = some (.int .i64 si) := (HB1.out.below hS hg1).cell 4 (by simp)
      simp only [Oper.wp, execOp]
      go_simp
      refine Nxt.mk _ rfl (fun _ _ => ?_) hS (fun _ _ h => h)
      rfl
    · intro a W hd hS hdep hfree
      have x23 : a.tmps.getD 23 undef = .int .i64 si := hdep 17 23 rfl rfl
      clear hd hdep hfree
      simp only [Oper.wp, execOp]
      go_simp
      refine (spec_word16 si W).mono ?_
      rintro e W' ⟨rfl, hb⟩
      exact Nxt.mk _ rfl (fun _ _ => rfl) (below_comp hS hb) (fun j u h => Vals.below hb j u h)
    · intro a W hd hS hdep hfree
      have x21 : a.tmps.getD 21 undef = .string (((two (op % 256) (fl % 256)) ++ (word16V le)) ++ (word32V ad)) := hdep 15 21 rfl rfl
      have x24 : a.tmps.getD 24 undef = .string (word16V si) := hdep 18 24 rfl rfl
      clear hd hdep hfree
      have k : ¬ 9223372036854775807 < (((two (op % 256) (fl % 256)) ++ (word16V le)) ++ (word32V ad)).size + (word16V si).size := by (try simp only [ByteArray.size_append]); omega
      have k2 := k
      try simp only [ByteArray.size_append] at k2
      simp only [Oper.wp, execOp]
      go_simp
      refine Nxt.mk _ rfl (fun _ _ => ?_) hS (fun _ _ h => h)
      rfl
    · intro a W hd hS hdep hfree
      have x1 : a.tmps.getD 1 undef = .pointer (some ⟨w.heap.size, 0, none⟩) := hfree 1 rfl
      clear hd hdep hfree
      simp only [Oper.wp, execOp]
      go_simp
      refine Nxt.mk _ rfl (fun _ _ => ?_) hS (fun _ _ h => h)
      rfl
    · intro a W hd hS hdep hfree
      have x26 : a.tmps.getD 26 undef = .pointer (some ⟨w.heap.size, 5, none⟩) := hdep 20 26 rfl rfl
      clear hd hdep hfree
      have c : W.cell? ⟨w.heap.size, 5, none⟩ = some (.int .i64 co) := (HB1.out.below hS hg1).cell 5 (by simp)
      simp only [Oper.wp, execOp]
      go_simp
      refine Nxt.mk _ rfl (fun _ _ => ?_) hS (fun _ _ h => h)
      rfl
    · intro a W hd hS hdep hfree
      have x27 : a.tmps.getD 27 undef = .int .i64 co := hdep 21 27 rfl rfl
      clear hd hdep hfree
      simp only [Oper.wp, execOp]
      go_simp
      refine (spec_word16 co W).mono ?_
      rintro e W' ⟨rfl, hb⟩
      exact Nxt.mk _ rfl (fun _ _ => rfl) (below_comp hS hb) (fun j u h => Vals.below hb j u h)
    · intro a W hd hS hdep hfree
      have x25 : a.tmps.getD 25 undef = .string ((((two (op % 256) (fl % 256)) ++ (word16V le)) ++ (word32V ad)) ++ (word16V si)) := hdep 19 25 rfl rfl
      have x28 : a.tmps.getD 28 undef = .string (word16V co) := hdep 22 28 rfl rfl
      clear hd hdep hfree
      have k : ¬ 9223372036854775807 < ((((two (op % 256) (fl % 256)) ++ (word16V le)) ++ (word32V ad)) ++ (word16V si)).size + (word16V co).size := by (try simp only [ByteArray.size_append]); omega
      have k2 := k
      try simp only [ByteArray.size_append] at k2
      simp only [Oper.wp, execOp]
      go_simp
      refine Nxt.mk _ rfl (fun _ _ => ?_) hS (fun _ _ h => h)
      rfl
    · intro a W hd hS hdep hfree
      clear hd hdep hfree
      simp only [Oper.wp, execOp]
      go_simp
      refine (spec_word32 0 W).mono ?_
      rintro e W' ⟨rfl, hb⟩
      exact Nxt.mk _ rfl (fun _ _ => rfl) (below_comp hS hb) (fun j u h => Vals.below hb j u h)
    · intro a W hd hS hdep hfree
      have x29 : a.tmps.getD 29 undef = .string (((((two (op % 256) (fl % 256)) ++ (word16V le)) ++ (word32V ad)) ++ (word16V si)) ++ (word16V co)) := hdep 23 29 rfl rfl
      have x30 : a.tmps.getD 30 undef = .string (word32V 0) := hdep 24 30 rfl rfl
      clear hd hdep hfree
      have k : ¬ 9223372036854775807 < (((((two (op % 256) (fl % 256)) ++ (word16V le)) ++ (word32V ad)) ++ (word16V si)) ++ (word16V co)).size + (word32V 0).size := by (try simp only [ByteArray.size_append]); omega
      have k2 := k
      try simp only [ByteArray.size_append] at k2
      simp only [Oper.wp, execOp]
      go_simp
      refine Nxt.mk _ rfl (fun _ _ => ?_) hS (fun _ _ h => h)
      rfl
    · intro a W hd hS hdep hfree
      have x31 : a.tmps.getD 31 undef = .string ((((((two (op % 256) (fl % 256)) ++ (word16V le)) ++ (word32V ad)) ++ (word16V si)) ++ (word16V co)) ++ (word32V 0)) := hdep 25 31 rfl rfl
      clear hd hdep hfree
      simp only [Oper.wp, execOp]
      go_simp
      refine Nxt.mk _ rfl (fun _ _ => ?_) hS (fun _ _ h => h)
      rfl
  intro a W2 hs hd hS2 hdone hrest
  obtain ⟨u12, hu12⟩ : ∃ u, a.tmps.getD 12 undef = u := ⟨_, rfl⟩
  have ea := written_all [.pointer (some ⟨w.heap.size, 0, none⟩), .int .i64 op, .int .u8 (op % 256), .pointer (some ⟨w.heap.size, 1, none⟩), .int .i64 fl, .int .u8 (fl % 256), u12, .string (two (op % 256) (fl % 256)), .pointer (some ⟨w.heap.size, 2, none⟩), .int .i64 le, .string (word16V le), .string ((two (op % 256) (fl % 256)) ++ (word16V le)), .pointer (some ⟨w.heap.size, 3, none⟩), .int .i64 ad, .string (word32V ad), .string (((two (op % 256) (fl % 256)) ++ (word16V le)) ++ (word32V ad)), .pointer (some ⟨w.heap.size, 4, none⟩), .int .i64 si, .string (word16V si), .string ((((two (op % 256) (fl % 256)) ++ (word16V le)) ++ (word32V ad)) ++ (word16V si)), .pointer (some ⟨w.heap.size, 5, none⟩), .int .i64 co, .string (word16V co), .string (((((two (op % 256) (fl % 256)) ++ (word16V le)) ++ (word32V ad)) ++ (word16V si)) ++ (word16V co)), .string (word32V 0), .string ((((((two (op % 256) (fl % 256)) ++ (word16V le)) ++ (word32V ad)) ++ (word16V si)) ++ (word16V co)) ++ (word32V 0)), .string ((((((two (op % 256) (fl % 256)) ++ (word16V le)) ++ (word32V ad)) ++ (word16V si)) ++ (word16V co)) ++ (word32V 0))] rfl hs hd hrest (fun j d hj => by
    have h := hdone j d hj
    match j, hj, h with
    | 0, _, h => exact h
    | 1, _, h => exact h
    | 2, _, h => exact h
    | 3, _, h => exact h
    | 4, _, h => exact h
    | 5, _, h => exact h
    | 6, hj, _ => exact (Option.some.inj hj) ▸ hu12
    | 7, _, h => exact h
    | 8, _, h => exact h
    | 9, _, h => exact h
    | 10, _, h => exact h
    | 11, _, h => exact h
    | 12, _, h => exact h
    | 13, _, h => exact h
    | 14, _, h => exact h
    | 15, _, h => exact h
    | 16, _, h => exact h
    | 17, _, h => exact h
    | 18, _, h => exact h
    | 19, _, h => exact h
    | 20, _, h => exact h
    | 21, _, h => exact h
    | 22, _, h => exact h
    | 23, _, h => exact h
    | 24, _, h => exact h
    | 25, _, h => exact h
    | 26, _, h => exact h
    | n + 27, hj, _ => exact absurd (dstOf_lt hj) (by simp))
  clear hu12
  clear hs hd hdone hrest
  subst ea
  simp only [written, List.append_eq, Array.toList_append, List.append_toArray, List.map_append, List.cons_append, List.nil_append, List.map_cons, List.map_nil, List.zip_cons_cons, List.zip_nil_right, putAll]
  simp only [Exit.then, Act.put, List.setIfInBounds_toArray, List.set_cons_zero, List.set_cons_succ]
  rw [show ((((((two (op % 256) (fl % 256)) ++ (word16V le)) ++ (word32V ad)) ++ (word16V si)) ++ (word16V co)) ++ (word32V 0)) = R from HR.out.symm]
  go_wp2
  go_ret
  exact ⟨rfl, below_comp hb01 hS2⟩

/-- One byte. -/
def oneB (a : Int) : ByteArray := ⟨#[low a]⟩
theorem conv_one_at (a : Int) (ha : 0 ≤ a ∧ a < 256) (W : World) :
    (convert 64 68 (.slice (some ⟨W.heap.size, 0, none⟩) 1 1)).run Try.prog (W.alloc (.cells #[.int .u8 a] 5)) = .ok (.string (oneB a)) (W.alloc (.cells #[.int .u8 a] 5)) := by
  have h0 := run_convert_bytes_back (P := Try.prog) (W.alloc (.cells #[.int .u8 a] 5)) 64 68 5 ⟨W.heap.size, 0, none⟩ 1 [low a]
    Try.underlying64 Try.underlying5 Try.underlying68 (fun j hj => by
      obtain rfl : j = 0 := by simp at hj; omega
      have hadd : (⟨W.heap.size, 0, none⟩ : Addr).add 0 = ⟨W.heap.size, 0, none⟩ := by unfold Addr.add; simp
      rw [hadd, cell_of_row _ _ 0 _ _ _ (heap_alloc_new W _)]
      show some (Value.int IntKind.u8 a) = some (Value.int IntKind.u8 ((low a).toNat : Int))
      rw [low_toNat a, Int.emod_eq_of_lt ha.1 ha.2])
  exact h0

set_option maxHeartbeats 4000000 in
set_option maxRecDepth 100000 in
theorem impl_with8 (t : ByteArray) (v : Int) (w : World) (ht : t.size ≤ 64) :
    Calls Try.prog 57 #[.string t, .int .i64 v] w fun r w' => r = .returned (.string (t ++ oneB (v % 256))) ∧ Below w.heap.size w w' := by
  have hcv := conv_one_at (v % 256) (by omega) w
  have z1 : (oneB (v % 256)).size ≤ 1 := Nat.le_refl _
  go_enter Try.func57, Try.ntmps57
  go_wp2
  go_ret
  exact ⟨rfl, below_new _⟩
theorem impl_with16 (t : ByteArray) (v : Int) (w : World) (ht : t.size ≤ 64) :
    Calls Try.prog 58 #[.string t, .int .i64 v] w fun r w' => r = .returned (.string (t ++ word16V v)) ∧ Below w.heap.size w w' := by
  have z1 := w16V_size v
  go_enter Try.func58, Try.ntmps58
  go_wp2_with (go_at_call 56; refine (impl_word16 _ _).mono ?_; rintro e w1 ⟨rfl, hb1⟩)
  go_ret
  exact ⟨rfl, hb1⟩
theorem impl_with32 (t : ByteArray) (v : Int) (w : World) (ht : t.size ≤ 64) :
    Calls Try.prog 59 #[.string t, .int .i64 v] w fun r w' => r = .returned (.string (t ++ word32V v)) ∧ Below w.heap.size w w' := by
  have z1 := w32V_size v
  go_enter Try.func59, Try.ntmps59
  go_wp2_with (go_at_call 55; refine (impl_word32 _ _).mono ?_; rintro e w1 ⟨rfl, hb1⟩)
  go_ret
  exact ⟨rfl, hb1⟩

end Go.Proofs.Ytncpnoloamebnaa
