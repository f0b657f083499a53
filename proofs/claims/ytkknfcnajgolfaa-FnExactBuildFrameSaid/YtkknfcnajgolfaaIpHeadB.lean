/- IpHeader of both sides, at a datagram that can be sent. -/
import Derived.Test.YtkknfcnajgolfaaMacB
import Derived.Test.YtkknfcnajgolfaaIpOkB
import Derived.Test.YtkknfcnajgolfaaConvB
import Derived.Test.YtkknfcnajgolfaaSumsAnySpec
import Derived.Test.YtkknfcnajgolfaaSumsImpl
import Derived.Test.YtkknfcnajgolfaaRegion
namespace Go.Proofs.Ytkknfcnajgolfaa
open Go.RowKit
set_option linter.unusedSimpArgs false
set_option linter.unusedVariables false

set_option maxHeartbeats 4000000 in
set_option maxRecDepth 100000 in
theorem spec_header_yes (e : IpM) (w : World) (h : e.Ok) :
    Calls Try.prog 69 #[e.val] w fun r w' => r = .returned (.tuple #[.string e.header, .bool true]) ∧ Below w.heap.size w w' := by
  have HV : Hid (∀ w1, Calls Try.prog 88 #[e.val] w1 fun r w' => r = .returned (.bool true) ∧ Below w1.heap.size w1 w') := Lib.hid fun w1 => by have := spec_ipok e w1; rwa [decide_eq_true h] at this
  have HB20 := Lib.hid (IpM.blank_size e)
  obtain ⟨R, HR⟩ : ∃ R, Hid (R = e.header) := ⟨_, Lib.hid rfl⟩
  rw [← HR.out]
  obtain ⟨o, n, t, p, x, y, b⟩ := e
  unfold IpM.val at *
  dsimp only at *
  obtain ⟨h1, h2, h3, h4, h5, h6, h7⟩ := h
  dsimp only at h1 h2 h3 h4 h5 h6 h7
  have HWl := Lib.hid fun W => (by have := spec_word16 (20 + (b.size : Int)) W; rwa [word16_in _ (by omega)] at this : Calls Try.prog 64 #[.int .i64 (20 + (b.size : Int))] W fun r w' => r = .returned (.string (w16 (20 + (b.size : Int)))) ∧ Below W.heap.size W w')
  have HWn := Lib.hid fun W => (by have := spec_word16 n W; rwa [word16_in _ h4] at this : Calls Try.prog 64 #[.int .i64 n] W fun r w' => r = .returned (.string (w16 n)) ∧ Below W.heap.size W w')
  have HWd := Lib.hid fun W => (by have := spec_word16 16384 W; rwa [word16_in _ (by decide)] at this : Calls Try.prog 64 #[.int .i64 16384] W fun r w' => r = .returned (.string (w16 16384)) ∧ Below W.heap.size W w')
  have HW0 := Lib.hid fun W => (by have := spec_word16 0 W; rwa [word16_in _ (by decide)] at this : Calls Try.prog 64 #[.int .i64 0] W fun r w' => r = .returned (.string (w16 0)) ∧ Below W.heap.size W w')
  have HW_x := Lib.hid fun W => (by have := spec_word32 x W; rwa [word32_in _ h5] at this : Calls Try.prog 65 #[.int .i64 x] W fun r w' => r = .returned (.string (w32 x)) ∧ Below W.heap.size W w')
  have HW_y := Lib.hid fun W => (by have := spec_word32 y W; rwa [word32_in _ h6] at this : Calls Try.prog 65 #[.int .i64 y] W fun r w' => r = .returned (.string (w32 y)) ∧ Below W.heap.size W w')
  have HC1 := Lib.hid fun g W => conv_two_at 5 69 (o % 256) (by decide) (by omega) g W
  have HC2 := Lib.hid fun g W => conv_two_at 5 (t % 256) (p % 256) (by omega) (by omega) g W
  have z1 : (w16 (20 + (b.size : Int))).size ≤ 2 := Nat.le_refl _
  have z2 : (w16 n).size ≤ 2 := Nat.le_refl _
  have z3 : (w16 16384).size ≤ 2 := Nat.le_refl _
  have z4 : (w16 0).size ≤ 2 := Nat.le_refl _
  have z5 : (w32 x).size ≤ 4 := Nat.le_refl _
  have z6 : (w32 y).size ≤ 4 := Nat.le_refl _
  have z7 : (two 69 (o % 256)).size ≤ 2 := Nat.le_refl _
  have z8 : (two (t % 256) (p % 256)).size ≤ 2 := Nat.le_refl _
  clear h1 h2 h3 h4 h5 h6

  go_enter Try.func69, Try.ntmps69
  go_wp2_with (go_at_call 88; refine (HV.out _).mono ?_; rintro e w1 ⟨rfl, hb1⟩)
  have hg1 : w.heap.size < w1.heap.size := by have := hb1.size; simp at this; omega
  have HB1 := Lib.hid ((Box.new w #[.int .i64 o, .int .i64 n, .int .i64 t, .int .i64 p, .int .i64 x, .int .i64 y, .string b] 62).below hb1 (by simp))
  have hb01 := below_comp (below_new _) hb1
  clear hb1
  refine wp_region_values (by kernel_rfl) (fun W => Below w1.heap.size w1 W) (Vals [.pointer (some ⟨w.heap.size, 0, none⟩), .int .i64 o, .int .u8 (o % 256), undef, .string (two 69 (o % 256)), .pointer (some ⟨w.heap.size, 6, none⟩), .string b, .int .i64 (b.size : Int), .int .i64 (20 + (b.size : Int)), .string (w16 (20 + (b.size : Int))), .string ((two 69 (o % 256)) ++ (w16 (20 + (b.size : Int)))), .pointer (some ⟨w.heap.size, 1, none⟩), .int .i64 n, .string (w16 n), .string (((two 69 (o % 256)) ++ (w16 (20 + (b.size : Int)))) ++ (w16 n)), .string (w16 16384), .string ((((two 69 (o % 256)) ++ (w16 (20 + (b.size : Int)))) ++ (w16 n)) ++ (w16 16384)), .pointer (some ⟨w.heap.size, 2, none⟩), .int .i64 t, .int .u8 (t % 256), .pointer (some ⟨w.heap.size, 3, none⟩), .int .i64 p, .int .u8 (p % 256), undef, .string (two (t % 256) (p % 256)), .string (((((two 69 (o % 256)) ++ (w16 (20 + (b.size : Int)))) ++ (w16 n)) ++ (w16 16384)) ++ (two (t % 256) (p % 256))), .string (w16 0), .string ((((((two 69 (o % 256)) ++ (w16 (20 + (b.size : Int)))) ++ (w16 n)) ++ (w16 16384)) ++ (two (t % 256) (p % 256))) ++ (w16 0)), .pointer (some ⟨w.heap.size, 4, none⟩), .int .i64 x, .string (w32 x), .string (((((((two 69 (o % 256)) ++ (w16 (20 + (b.size : Int)))) ++ (w16 n)) ++ (w16 16384)) ++ (two (t % 256) (p % 256))) ++ (w16 0)) ++ (w32 x)), .pointer (some ⟨w.heap.size, 5, none⟩), .int .i64 y, .string (w32 y), .string ((((((((two 69 (o % 256)) ++ (w16 (20 + (b.size : Int)))) ++ (w16 n)) ++ (w16 16384)) ++ (two (t % 256) (p % 256))) ++ (w16 0)) ++ (w32 x)) ++ (w32 y)), .string ((((((((two 69 (o % 256)) ++ (w16 (20 + (b.size : Int)))) ++ (w16 n)) ++ (w16 16384)) ++ (two (t % 256) (p % 256))) ++ (w16 0)) ++ (w32 x)) ++ (w32 y))] [(3, #[.int .u8 69, .int .u8 (o % 256)], 5, 2), (23, #[.int .u8 (t % 256), .int .u8 (p % 256)], 5, 2)])
    49 rfl (by kernel_rfl) (by kernel_rfl) below_drew (eachOp_all ?_) ?_
  · refine ⟨?_, ?_, ?_, ?_, ?_, ?_, ?_, ?_, ?_, ?_, ?_, ?_, ?_, ?_, ?_, ?_, ?_, ?_, ?_, ?_, ?_, ?_, ?_, ?_, ?_, ?_, ?_, ?_, ?_, ?_, ?_, ?_, ?_, ?_, ?_, ?_, ?_, trivial⟩
    · intro a W hd hS hdep hfree
      have x1 : a.tmps.getD 1 undef = .pointer (some ⟨w.heap.size, 0, none⟩) := hfree 1 rfl
      clear hd hdep hfree
      simp only [Oper.wp, execOp]
      go_simp
      refine Nxt.mk _ rfl (fun _ _ => ?_) hS (fun _ _ h => h)
      rfl
    · intro a W hd hS hdep hfree
      have x8 : a.tmps.getD 8 undef = .pointer (some ⟨w.heap.size, 0, none⟩) := hdep 0 8 rfl rfl
      clear hd hdep hfree
      have c : W.cell? ⟨w.heap.size, 0, none⟩ = some (.int .i64 o) := (HB1.out.below hS hg1).cell 0 (by simp)
      simp only [Oper.wp, execOp]
      go_simp
      refine Nxt.mk _ rfl (fun _ _ => ?_) hS (fun _ _ h => h)
      rfl
    · intro a W hd hS hdep hfree
      have x9 : a.tmps.getD 9 undef = .int .i64 o := hdep 1 9 rfl rfl
      clear hd hdep hfree
      simp only [Oper.wp, execOp]
      go_simp
      refine Nxt.mk _ rfl (fun _ _ => ?_) hS (fun _ _ h => h)
      rfl
    · intro a W hd hS hdep hfree
      have x10 : a.tmps.getD 10 undef = .int .u8 (o % 256) := hdep 2 10 rfl rfl
      have y10 : a.tmps[10]?.getD undef = .int .u8 (o % 256) := by rw [← Array.getD_eq_getD_getElem?]; exact x10
      clear hd hdep hfree
      simp only [Oper.wp, execOp]
      go_simp
      exact Nxt.mk _ rfl (fun _ _ => ⟨W.heap.size, rfl, heap_alloc_new W _, by simp⟩) (below_comp hS (below_new _)) (fun j u h => Vals.below (below_new _) j u h)
    · intro a W hd hS hdep hfree
      obtain ⟨g11, x11, hx11, hl11⟩ : SliceAt W (a.tmps.getD 11 undef) #[.int .u8 69, .int .u8 (o % 256)] 5 2 := hdep 3 11 rfl rfl
      clear hd hdep hfree
      have hcv := HC1.out g11 W hx11
      simp only [Oper.wp, execOp]
      go_simp
      refine Nxt.mk _ rfl (fun _ _ => ?_) hS (fun _ _ h => h)
      rfl
    · intro a W hd hS hdep hfree
      have x1 : a.tmps.getD 1 undef = .pointer (some ⟨w.heap.size, 0, none⟩) := hfree 1 rfl
      clear hd hdep hfree
      simp only [Oper.wp, execOp]
      go_simp
      refine Nxt.mk _ rfl (fun _ _ => ?_) hS (fun _ _ h => h)
      rfl
    · intro a W hd hS hdep hfree
      have x13 : a.tmps.getD 13 undef = .pointer (some ⟨w.heap.size, 6, none⟩) := hdep 5 13 rfl rfl
      clear hd hdep hfree
      have c : W.cell? ⟨w.heap.size, 6, none⟩ = some (.string b) := (HB1.out.below hS hg1).cell 6 (by simp)
      simp only [Oper.wp, execOp]
      go_simp
      refine Nxt.mk _ rfl (fun _ _ => ?_) hS (fun _ _ h => h)
      rfl
    · intro a W hd hS hdep hfree
      have x14 : a.tmps.getD 14 undef = .string b := hdep 6 14 rfl rfl
      clear hd hdep hfree
      simp only [Oper.wp, execOp]
      go_simp
      refine Nxt.mk _ rfl (fun _ _ => ?_) hS (fun _ _ h => h)
      rfl
    · intro a W hd hS hdep hfree
      have x15 : a.tmps.getD 15 undef = .int .i64 (b.size : Int) := hdep 7 15 rfl rfl
      clear hd hdep hfree
      have k : IntKind.i64.wrap (20 + (b.size : Int)) = 20 + (b.size : Int) := wrap_in _ (by omega) (by omega)
      simp only [Oper.wp, execOp]
      go_simp
      refine Nxt.mk _ rfl (fun _ _ => ?_) hS (fun _ _ h => h)
      rfl
    · intro a W hd hS hdep hfree
      have x16 : a.tmps.getD 16 undef = .int .i64 (20 + (b.size : Int)) := hdep 8 16 rfl rfl
      clear hd hdep hfree
      simp only [Oper.wp, execOp]
      go_simp
      refine (HWl.out W).mono ?_
      rintro e W' ⟨rfl, hb⟩
      exact Nxt.mk _ rfl (fun _ _ => rfl) (below_comp hS hb) (fun j u h => Vals.below hb j u h)
    · intro a W hd hS hdep hfree
      have x12 : a.tmps.getD 12 undef = .string (two 69 (o % 256)) := hdep 4 12 rfl rfl
      have x17 : a.tmps.getD 17 undef = .string (w16 (20 + (b.size : Int))) := hdep 9 17 rfl rfl
      clear hd hdep hfree
      have k : ¬ 9223372036854775807 < (two 69 (o % 256)).size + (w16 (20 + (b.size : Int))).size := by (try simp only [ByteArray.size_append]); omega
      have k2 := k
      try simp only [ByteArray.size_append] at k2
      simp only [Oper.wp, execOp]
      go_simp
      refine Nxt.mk _ rfl (fun _ _ => ?_) hS (fun _ _ h => h)
      rfl
    · intro a W hd hS hdep hfree
      have x1 : a.tmps.getD 1 undef = .pointer (some ⟨w.heap.size, 0, none⟩) := hfree 1 rfl
      clear hd hdep hfree
      simp only [Oper.wp, execOp]
      go_simp
      refine Nxt.mk _ rfl (fun _ _ => ?_) hS (fun _ _ h => h)
      rfl
    · intro a W hd hS hdep hfree
      have x19 : a.tmps.getD 19 undef = .pointer (some ⟨w.heap.size, 1, none⟩) := hdep 11 19 rfl rfl
      clear hd hdep hfree
      have c : W.cell? ⟨w.heap.size, 1, none⟩ = some (.int .i64 n) := (HB1.out.below hS hg1).cell 1 (by simp)
      simp only [Oper.wp, execOp]
      go_simp
      refine Nxt.mk _ rfl (fun _ _ => ?_) hS (fun _ _ h => h)
      rfl
    · intro a W hd hS hdep hfree
      have x20 : a.tmps.getD 20 undef = .int .i64 n := hdep 12 20 rfl rfl
      clear hd hdep hfree
      simp only [Oper.wp, execOp]
      go_simp
      refine (HWn.out W).mono ?_
      rintro e W' ⟨rfl, hb⟩
      exact Nxt.mk _ rfl (fun _ _ => rfl) (below_comp hS hb) (fun j u h => Vals.below hb j u h)
    · intro a W hd hS hdep hfree
      have x18 : a.tmps.getD 18 undef = .string ((two 69 (o % 256)) ++ (w16 (20 + (b.size : Int)))) := hdep 10 18 rfl rfl
      have x21 : a.tmps.getD 21 undef = .string (w16 n) := hdep 13 21 rfl rfl
      clear hd hdep hfree
      have k : ¬ 9223372036854775807 < ((two 69 (o % 256)) ++ (w16 (20 + (b.size : Int)))).size + (w16 n).size := by (try simp only [ByteArray.size_append]); omega
      have k2 := k
      try simp only [ByteArray.size_append] at k2
      simp only [Oper.wp, execOp]
      go_simp
      refine Nxt.mk _ rfl (fun _ _ => ?_) hS (fun _ _ h => h)
      rfl
    · intro a W hd hS hdep hfree
      clear hd hdep hfree
      simp only [Oper.wp, execOp]
      go_simp
      refine (HWd.out W).mono ?_
      rintro e W' ⟨rfl, hb⟩
      exact Nxt.mk _ rfl (fun _ _ => rfl) (below_comp hS hb) (fun j u h => Vals.below hb j u h)
    · intro a W hd hS hdep hfree
      have x22 : a.tmps.getD 22 undef = .string (((two 69 (o % 256)) ++ (w16 (20 + (b.size : Int)))) ++ (w16 n)) := hdep 14 22 rfl rfl
      have x23 : a.tmps.getD 23 undef = .string (w16 16384) := hdep 15 23 rfl rfl
      clear hd hdep hfree
      have k : ¬ 9223372036854775807 < (((two 69 (o % 256)) ++ (w16 (20 + (b.size : Int)))) ++ (w16 n)).size + (w16 16384).size := by (try simp only [ByteArray.size_append]); omega
      have k2 := k
      try simp only [ByteArray.size_append] at k2
      simp only [Oper.wp, execOp]
      go_simp
      refine Nxt.mk _ rfl (fun _ _ => ?_) hS (fun _ _ h => h)
      rfl
    · intro a W hd hS hdep hfree
      have x1 : a.tmps.getD 1 undef = .pointer (some ⟨w.heap.size, 0, none⟩) := hfree 1 rfl
      clear hd hdep hfree
      simp only [Oper.wp, execOp]
      go_simp
      refine Nxt.mk _ rfl (fun _ _ => ?_) hS (fun _ _ h => h)
      rfl
    · intro a W hd hS hdep hfree
      have x25 : a.tmps.getD 25 undef = .pointer (some ⟨w.heap.size, 2, none⟩) := hdep 17 25 rfl rfl
      clear hd hdep hfree
      have c : W.cell? ⟨w.heap.size, 2, none⟩ = some (.int .i64 t) := (HB1.out.below hS hg1).cell 2 (by simp)
      simp only [Oper.wp, execOp]
      go_simp
      refine Nxt.mk _ rfl (fun _ _ => ?_) hS (fun _ _ h => h)
      rfl
    · intro a W hd hS hdep hfree
      have x26 : a.tmps.getD 26 undef = .int .i64 t := hdep 18 26 rfl rfl
      clear hd hdep hfree
      simp only [Oper.wp, execOp]
      go_simp
      refine Nxt.mk _ rfl (fun _ _ => ?_) hS (fun _ _ h => h)
      rfl
    · intro a W hd hS hdep hfree
      have x1 : a.tmps.getD 1 undef = .pointer (some ⟨w.heap.size, 0, none⟩) := hfree 1 rfl
      clear hd hdep hfree
      simp only [Oper.wp, execOp]
      go_simp
      refine Nxt.mk _ rfl (fun _ _ => ?_) hS (fun _ _ h => h)
      rfl
    · intro a W hd hS hdep hfree
      have x28 : a.tmps.getD 28 undef = .pointer (some ⟨w.heap.size, 3, none⟩) := hdep 20 28 rfl rfl
      clear hd hdep hfree
      have c : W.cell? ⟨w.heap.size, 3, none⟩ = some (.int .i64 p) := (HB1.out.below hS hg1).cell 3 (by simp)
      simp only [Oper.wp, execOp]
      go_simp
      refine Nxt.mk _ rfl (fun _ _ => ?_) hS (fun _ _ h => h)
      rfl
    · intro a W hd hS hdep hfree
      have x29 : a.tmps.getD 29 undef = .int .i64 p := hdep 21 29 rfl rfl
      clear hd hdep hfree
      simp only [Oper.wp, execOp]
      go_simp
      refine Nxt.mk _ rfl (fun _ _ => ?_) hS (fun _ _ h => h)
      rfl
    · intro a W hd hS hdep hfree
      have x27 : a.tmps.getD 27 undef = .int .u8 (t % 256) := hdep 19 27 rfl rfl
      have x30 : a.tmps.getD 30 undef = .int .u8 (p % 256) := hdep 22 30 rfl rfl
      have y27 : a.tmps[27]?.getD undef = .int .u8 (t % 256) := by rw [← Array.getD_eq_getD_getElem?]; exact x27
      have y30 : a.tmps[30]?.getD undef = .int .u8 (p % 256) := by rw [← Array.getD_eq_getD_getElem?]; exact x30
      clear hd hdep hfree
      simp only [Oper.wp, execOp]
      go_simp
      exact Nxt.mk _ rfl (fun _ _ => ⟨W.heap.size, rfl, heap_alloc_new W _, by simp⟩) (below_comp hS (below_new _)) (fun j u h => Vals.below (below_new _) j u h)
    · intro a W hd hS hdep hfree
      obtain ⟨g31, x31, hx31, hl31⟩ : SliceAt W (a.tmps.getD 31 undef) #[.int .u8 (t % 256), .int .u8 (p % 256)] 5 2 := hdep 23 31 rfl rfl
      clear hd hdep hfree
      have hcv := HC2.out g31 W hx31
      simp only [Oper.wp, execOp]
      go_simp
      refine Nxt.mk _ rfl (fun _ _ => ?_) hS (fun _ _ h => h)
      rfl
    · intro a W hd hS hdep hfree
      have x24 : a.tmps.getD 24 undef = .string ((((two 69 (o % 256)) ++ (w16 (20 + (b.size : Int)))) ++ (w16 n)) ++ (w16 16384)) := hdep 16 24 rfl rfl
      have x32 : a.tmps.getD 32 undef = .string (two (t % 256) (p % 256)) := hdep 24 32 rfl rfl
      clear hd hdep hfree
      have k : ¬ 9223372036854775807 < ((((two 69 (o % 256)) ++ (w16 (20 + (b.size : Int)))) ++ (w16 n)) ++ (w16 16384)).size + (two (t % 256) (p % 256)).size := by (try simp only [ByteArray.size_append]); omega
      have k2 := k
      try simp only [ByteArray.size_append] at k2
      simp only [Oper.wp, execOp]
      go_simp
      refine Nxt.mk _ rfl (fun _ _ => ?_) hS (fun _ _ h => h)
      rfl
    · intro a W hd hS hdep hfree
      clear hd hdep hfree
      simp only [Oper.wp, execOp]
      go_simp
      refine (HW0.out W).mono ?_
      rintro e W' ⟨rfl, hb⟩
      exact Nxt.mk _ rfl (fun _ _ => rfl) (below_comp hS hb) (fun j u h => Vals.below hb j u h)
    · intro a W hd hS hdep hfree
      have x33 : a.tmps.getD 33 undef = .string (((((two 69 (o % 256)) ++ (w16 (20 + (b.size : Int)))) ++ (w16 n)) ++ (w16 16384)) ++ (two (t % 256) (p % 256))) := hdep 25 33 rfl rfl
      have x34 : a.tmps.getD 34 undef = .string (w16 0) := hdep 26 34 rfl rfl
      clear hd hdep hfree
      have k : ¬ 9223372036854775807 < (((((two 69 (o % 256)) ++ (w16 (20 + (b.size : Int)))) ++ (w16 n)) ++ (w16 16384)) ++ (two (t % 256) (p % 256))).size + (w16 0).size := by (try simp only [ByteArray.size_append]); omega
      have k2 := k
      try simp only [ByteArray.size_append] at k2
      simp only [Oper.wp, execOp]
      go_simp
      refine Nxt.mk _ rfl (fun _ _ => ?_) hS (fun _ _ h => h)
      rfl
    · intro a W hd hS hdep hfree
      have x1 : a.tmps.getD 1 undef = .pointer (some ⟨w.heap.size, 0, none⟩) := hfree 1 rfl
      clear hd hdep hfree
      simp only [Oper.wp, execOp]
      go_simp
      refine Nxt.mk _ rfl (fun _ _ => ?_) hS (fun _ _ h => h)
      rfl
    · intro a W hd hS hdep hfree
      have x36 : a.tmps.getD 36 undef = .pointer (some ⟨w.heap.size, 4, none⟩) := hdep 28 36 rfl rfl
      clear hd hdep hfree
      have c : W.cell? ⟨w.heap.size, 4, none⟩ = some (.int .i64 x) := (HB1.out.below hS hg1).cell 4 (by simp)
      simp only [Oper.wp, execOp]
      go_simp
      refine Nxt.mk _ rfl (fun _ _ => ?_) hS (fun _ _ h => h)
      rfl
    · intro a W hd hS hdep hfree
      have x37 : a.tmps.getD 37 undef = .int .i64 x := hdep 29 37 rfl rfl
      clear hd hdep hfree
      simp only [Oper.wp, execOp]
      go_simp
      refine (HW_x.out W).mono ?_
      rintro e W' ⟨rfl, hb⟩
      exact Nxt.mk _ rfl (fun _ _ => rfl) (below_comp hS hb) (fun j u h => Vals.below hb j u h)
    · intro a W hd hS hdep hfree
      have x35 : a.tmps.getD 35 undef = .string ((((((two 69 (o % 256)) ++ (w16 (20 + (b.size : Int)))) ++ (w16 n)) ++ (w16 16384)) ++ (two (t % 256) (p % 256))) ++ (w16 0)) := hdep 27 35 rfl rfl
      have x38 : a.tmps.getD 38 undef = .string (w32 x) := hdep 30 38 rfl rfl
      clear hd hdep hfree
      have k : ¬ 9223372036854775807 < ((((((two 69 (o % 256)) ++ (w16 (20 + (b.size : Int)))) ++ (w16 n)) ++ (w16 16384)) ++ (two (t % 256) (p % 256))) ++ (w16 0)).size + (w32 x).size := by (try simp only [ByteArray.size_append]); omega
      have k2 := k
      try simp only [ByteArray.size_append] at k2
      simp only [Oper.wp, execOp]
      go_simp
      refine Nxt.mk _ rfl (fun _ _ => ?_) hS (fun _ _ h => h)
      rfl
    · intro a W hd hS hdep hfree
      have x1 : a.tmps.getD 1 undef = .pointer (some ⟨w.heap.size, 0, none⟩) := hfree 1 rfl
      clear hd hdep hfree
      simp only [Oper.wp, execOp]
      go_simp
      refine Nxt.mk _ rfl (fun _ _ => ?_) hS (fun _ _ h => h)
      rfl
    · intro a W hd hS hdep hfree
      have x40 : a.tmps.getD 40 undef = .pointer (some ⟨w.heap.size, 5, none⟩) := hdep 32 40 rfl rfl
      clear hd hdep hfree
      have c : W.cell? ⟨w.heap.size, 5, none⟩ = some (.int .i64 y) := (HB1.out.below hS hg1).cell 5 (by simp)
      simp only [Oper.wp, execOp]
      go_simp
      refine Nxt.mk _ rfl (fun _ _ => ?_) hS (fun _ _ h => h)
      rfl
    · intro a W hd hS hdep hfree
      have x41 : a.tmps.getD 41 undef = .int .i64 y := hdep 33 41 rfl rfl
      clear hd hdep hfree
      simp only [Oper.wp, execOp]
      go_simp
      refine (HW_y.out W).mono ?_
      rintro e W' ⟨rfl, hb⟩
      exact Nxt.mk _ rfl (fun _ _ => rfl) (below_comp hS hb) (fun j u h => Vals.below hb j u h)
    · intro a W hd hS hdep hfree
      have x39 : a.tmps.getD 39 undef = .string (((((((two 69 (o % 256)) ++ (w16 (20 + (b.size : Int)))) ++ (w16 n)) ++ (w16 16384)) ++ (two (t % 256) (p % 256))) ++ (w16 0)) ++ (w32 x)) := hdep 31 39 rfl rfl
      have x42 : a.tmps.getD 42 undef = .string (w32 y) := hdep 34 42 rfl rfl
      clear hd hdep hfree
      have k : ¬ 9223372036854775807 < (((((((two 69 (o % 256)) ++ (w16 (20 + (b.size : Int)))) ++ (w16 n)) ++ (w16 16384)) ++ (two (t % 256) (p % 256))) ++ (w16 0)) ++ (w32 x)).size + (w32 y).size := by (try simp only [ByteArray.size_append]); omega
      have k2 := k
      try simp only [ByteArray.size_append] at k2
      simp only [Oper.wp, execOp]
      go_simp
      refine Nxt.mk _ rfl (fun _ _ => ?_) hS (fun _ _ h => h)
      rfl
    · intro a W hd hS hdep hfree
      have x43 : a.tmps.getD 43 undef = .string ((((((((two 69 (o % 256)) ++ (w16 (20 + (b.size : Int)))) ++ (w16 n)) ++ (w16 16384)) ++ (two (t % 256) (p % 256))) ++ (w16 0)) ++ (w32 x)) ++ (w32 y)) := hdep 35 43 rfl rfl
      clear hd hdep hfree
      simp only [Oper.wp, execOp]
      go_simp
      refine Nxt.mk _ rfl (fun _ _ => ?_) hS (fun _ _ h => h)
      rfl
  intro a W2 hs hd hS2 hdone hrest
  obtain ⟨u11, hu11⟩ : ∃ u, a.tmps.getD 11 undef = u := ⟨_, rfl⟩
  obtain ⟨u31, hu31⟩ : ∃ u, a.tmps.getD 31 undef = u := ⟨_, rfl⟩
  have ea := written_all [.pointer (some ⟨w.heap.size, 0, none⟩), .int .i64 o, .int .u8 (o % 256), u11, .string (two 69 (o % 256)), .pointer (some ⟨w.heap.size, 6, none⟩), .string b, .int .i64 (b.size : Int), .int .i64 (20 + (b.size : Int)), .string (w16 (20 + (b.size : Int))), .string ((two 69 (o % 256)) ++ (w16 (20 + (b.size : Int)))), .pointer (some ⟨w.heap.size, 1, none⟩), .int .i64 n, .string (w16 n), .string (((two 69 (o % 256)) ++ (w16 (20 + (b.size : Int)))) ++ (w16 n)), .string (w16 16384), .string ((((two 69 (o % 256)) ++ (w16 (20 + (b.size : Int)))) ++ (w16 n)) ++ (w16 16384)), .pointer (some ⟨w.heap.size, 2, none⟩), .int .i64 t, .int .u8 (t % 256), .pointer (some ⟨w.heap.size, 3, none⟩), .int .i64 p, .int .u8 (p % 256), u31, .string (two (t % 256) (p % 256)), .string (((((two 69 (o % 256)) ++ (w16 (20 + (b.size : Int)))) ++ (w16 n)) ++ (w16 16384)) ++ (two (t % 256) (p % 256))), .string (w16 0), .string ((((((two 69 (o % 256)) ++ (w16 (20 + (b.size : Int)))) ++ (w16 n)) ++ (w16 16384)) ++ (two (t % 256) (p % 256))) ++ (w16 0)), .pointer (some ⟨w.heap.size, 4, none⟩), .int .i64 x, .string (w32 x), .string (((((((two 69 (o % 256)) ++ (w16 (20 + (b.size : Int)))) ++ (w16 n)) ++ (w16 16384)) ++ (two (t % 256) (p % 256))) ++ (w16 0)) ++ (w32 x)), .pointer (some ⟨w.heap.size, 5, none⟩), .int .i64 y, .string (w32 y), .string ((((((((two 69 (o % 256)) ++ (w16 (20 + (b.size : Int)))) ++ (w16 n)) ++ (w16 16384)) ++ (two (t % 256) (p % 256))) ++ (w16 0)) ++ (w32 x)) ++ (w32 y)), .string ((((((((two 69 (o % 256)) ++ (w16 (20 + (b.size : Int)))) ++ (w16 n)) ++ (w16 16384)) ++ (two (t % 256) (p % 256))) ++ (w16 0)) ++ (w32 x)) ++ (w32 y))] rfl hs hd hrest (fun j d hj => by
    have h := hdone j d hj
    match j, hj, h with
    | 0, _, h => exact h
    | 1, _, h => exact h
    | 2, _, h => exact h
    | 3, hj, _ => exact (Option.some.inj hj) ▸ hu11
    | 4, _, h => exact h
    | 5, _, h => exact h
    | 6, _, h => exact h
    | 7, _, h => exact h
    | 8, _, h => exact h
    | 9, _, h => exact h
    | 10, _, h => exact h
    | 11, _, h => exact h
    | 12, _, h => exact h
    | 13, _, h => exact h
    | 14, _, h => exact h
    | 15, _, h => exact h
    | 16, _, h => exact h
    | 17, _, h => exact h
    | 18, _, h => exact h
    | 19, _, h => exact h
    | 20, _, h => exact h
    | 21, _, h => exact h
    | 22, _, h => exact h
    | 23, hj, _ => exact (Option.some.inj hj) ▸ hu31
    | 24, _, h => exact h
    | 25, _, h => exact h
    | 26, _, h => exact h
    | 27, _, h => exact h
    | 28, _, h => exact h
    | 29, _, h => exact h
    | 30, _, h => exact h
    | 31, _, h => exact h
    | 32, _, h => exact h
    | 33, _, h => exact h
    | 34, _, h => exact h
    | 35, _, h => exact h
    | 36, _, h => exact h
    | n + 37, hj, _ => exact absurd (dstOf_lt hj) (by simp))
  clear hu11 hu31
  clear hs hd hdone hrest
  subst ea
  simp only [written, List.map_cons, List.map_nil, List.zip_cons_cons, List.zip_nil_right, putAll]
  simp only [Exit.then, Act.put, List.setIfInBounds_toArray, List.set_cons_zero, List.set_cons_succ]
  obtain ⟨H, HH⟩ : ∃ H, Hid (H = IpM.blank ⟨o, n, t, p, x, y, b⟩) := ⟨_, Lib.hid rfl⟩
  rw [show ((((((((two 69 (o % 256)) ++ (w16 (20 + (b.size : Int)))) ++ (w16 n)) ++ (w16 16384)) ++ (two (t % 256) (p % 256))) ++ (w16 0)) ++ (w32 x)) ++ (w32 y)) = H from HH.out.symm]
  have hHs : H.size ≤ 4194304 := by rw [HH.out, HB20.out]; decide
  obtain ⟨s0, s1⟩ := sumW_bd H
  have HC := Lib.hid fun W => spec_checksum_any H W hHs
  have HW := Lib.hid fun W => (by have := spec_word16 (65535 - sumW H) W; rwa [word16_in _ (by omega)] at this : Calls Try.prog 64 #[.int .i64 (65535 - sumW H)] W fun r w' => r = .returned (.string (w16 (65535 - sumW H))) ∧ Below W.heap.size W w')
  have HP := Lib.hid fun W => spec_put_any H 10 (w16 (65535 - sumW H)) W hHs (by show 2 ≤ 4194304; decide) (by decide)
  go_wp2_with (first
    | (go_at_call 67; refine (HC.out _).mono ?_; rintro e w3 ⟨rfl, hb3⟩)
    | (go_at_call 64; refine (HW.out _).mono ?_; rintro e w4 ⟨rfl, hb4⟩)
    | (go_at_call 68; refine (HP.out _).mono ?_; rintro e w5 ⟨rfl, hb5⟩))
  go_ret2
  refine ⟨ret_str_bool ?_ rfl, below_comp (below_comp (below_comp (below_comp hb01 hS2) hb3) hb4) hb5⟩
  rw [HR.out, HH.out]
  rfl

set_option maxHeartbeats 4000000 in
set_option maxRecDepth 100000 in
theorem impl_header_yes (e : IpM) (w : World) (h : e.Ok) :
    Calls Try.prog 76 #[e.val] w fun r w' => r = .returned (.tuple #[.string e.header, .bool true]) ∧ Below w.heap.size w w' := by
  have HV : Hid (∀ w1, Calls Try.prog 91 #[e.val] w1 fun r w' => r = .returned (.bool true) ∧ Below w1.heap.size w1 w') := Lib.hid fun w1 => by have := impl_ipok e w1; rwa [decide_eq_true h] at this
  have HB20 := Lib.hid (IpM.blank_size e)
  obtain ⟨R, HR⟩ : ∃ R, Hid (R = e.header) := ⟨_, Lib.hid rfl⟩
  rw [← HR.out]
  obtain ⟨o, n, t, p, x, y, b⟩ := e
  unfold IpM.val at *
  dsimp only at *
  obtain ⟨h1, h2, h3, h4, h5, h6, h7⟩ := h
  dsimp only at h1 h2 h3 h4 h5 h6 h7
  have HWl := Lib.hid fun W => (by have := impl_word16 (20 + (b.size : Int)) W; rwa [word16_in _ (by omega)] at this : Calls Try.prog 79 #[.int .i64 (20 + (b.size : Int))] W fun r w' => r = .returned (.string (w16 (20 + (b.size : Int)))) ∧ Below W.heap.size W w')
  have HWn := Lib.hid fun W => (by have := impl_word16 n W; rwa [word16_in _ h4] at this : Calls Try.prog 79 #[.int .i64 n] W fun r w' => r = .returned (.string (w16 n)) ∧ Below W.heap.size W w')
  have HWd := Lib.hid fun W => (by have := impl_word16 16384 W; rwa [word16_in _ (by decide)] at this : Calls Try.prog 79 #[.int .i64 16384] W fun r w' => r = .returned (.string (w16 16384)) ∧ Below W.heap.size W w')
  have HW0 := Lib.hid fun W => (by have := impl_word16 0 W; rwa [word16_in _ (by decide)] at this : Calls Try.prog 79 #[.int .i64 0] W fun r w' => r = .returned (.string (w16 0)) ∧ Below W.heap.size W w')
  have HW_x := Lib.hid fun W => (by have := impl_word32 x W; rwa [word32_in _ h5] at this : Calls Try.prog 89 #[.int .i64 x] W fun r w' => r = .returned (.string (w32 x)) ∧ Below W.heap.size W w')
  have HW_y := Lib.hid fun W => (by have := impl_word32 y W; rwa [word32_in _ h6] at this : Calls Try.prog 89 #[.int .i64 y] W fun r w' => r = .returned (.string (w32 y)) ∧ Below W.heap.size W w')
  have HC1 := Lib.hid fun g W => conv_two_at 5 69 (o % 256) (by decide) (by omega) g W
  have HC2 := Lib.hid fun g W => conv_two_at 5 (t % 256) (p % 256) (by omega) (by omega) g W
  have z1 : (w16 (20 + (b.size : Int))).size ≤ 2 := Nat.le_refl _
  have z2 : (w16 n).size ≤ 2 := Nat.le_refl _
  have z3 : (w16 16384).size ≤ 2 := Nat.le_refl _
  have z4 : (w16 0).size ≤ 2 := Nat.le_refl _
  have z5 : (w32 x).size ≤ 4 := Nat.le_refl _
  have z6 : (w32 y).size ≤ 4 := Nat.le_refl _
  have z7 : (two 69 (o % 256)).size ≤ 2 := Nat.le_refl _
  have z8 : (two (t % 256) (p % 256)).size ≤ 2 := Nat.le_refl _
  clear h1 h2 h3 h4 h5 h6

  go_enter Try.func76, Try.ntmps76
  go_wp2_with (go_at_call 91; refine (HV.out _).mono ?_; rintro e w1 ⟨rfl, hb1⟩)
  have hg1 : w.heap.size < w1.heap.size := by have := hb1.size; simp at this; omega
  have HB1 := Lib.hid ((Box.new w #[.int .i64 o, .int .i64 n, .int .i64 t, .int .i64 p, .int .i64 x, .int .i64 y, .string b] 62).below hb1 (by simp))
  have hb01 := below_comp (below_new _) hb1
  clear hb1
  refine wp_region_values (by kernel_rfl) (fun W => Below w1.heap.size w1 W) (Vals [.pointer (some ⟨w.heap.size, 0, none⟩), .int .i64 o, .int .u8 (o % 256), undef, .string (two 69 (o % 256)), .pointer (some ⟨w.heap.size, 6, none⟩), .string b, .int .i64 (b.size : Int), .int .i64 (20 + (b.size : Int)), .string (w16 (20 + (b.size : Int))), .string ((two 69 (o % 256)) ++ (w16 (20 + (b.size : Int)))), .pointer (some ⟨w.heap.size, 1, none⟩), .int .i64 n, .string (w16 n), .string (((two 69 (o % 256)) ++ (w16 (20 + (b.size : Int)))) ++ (w16 n)), .string (w16 16384), .string ((((two 69 (o % 256)) ++ (w16 (20 + (b.size : Int)))) ++ (w16 n)) ++ (w16 16384)), .pointer (some ⟨w.heap.size, 2, none⟩), .int .i64 t, .int .u8 (t % 256), .pointer (some ⟨w.heap.size, 3, none⟩), .int .i64 p, .int .u8 (p % 256), undef, .string (two (t % 256) (p % 256)), .string (((((two 69 (o % 256)) ++ (w16 (20 + (b.size : Int)))) ++ (w16 n)) ++ (w16 16384)) ++ (two (t % 256) (p % 256))), .string (w16 0), .string ((((((two 69 (o % 256)) ++ (w16 (20 + (b.size : Int)))) ++ (w16 n)) ++ (w16 16384)) ++ (two (t % 256) (p % 256))) ++ (w16 0)), .pointer (some ⟨w.heap.size, 4, none⟩), .int .i64 x, .string (w32 x), .string (((((((two 69 (o % 256)) ++ (w16 (20 + (b.size : Int)))) ++ (w16 n)) ++ (w16 16384)) ++ (two (t % 256) (p % 256))) ++ (w16 0)) ++ (w32 x)), .pointer (some ⟨w.heap.size, 5, none⟩), .int .i64 y, .string (w32 y), .string ((((((((two 69 (o % 256)) ++ (w16 (20 + (b.size : Int)))) ++ (w16 n)) ++ (w16 16384)) ++ (two (t % 256) (p % 256))) ++ (w16 0)) ++ (w32 x)) ++ (w32 y)), .string ((((((((two 69 (o % 256)) ++ (w16 (20 + (b.size : Int)))) ++ (w16 n)) ++ (w16 16384)) ++ (two (t % 256) (p % 256))) ++ (w16 0)) ++ (w32 x)) ++ (w32 y))] [(3, #[.int .u8 69, .int .u8 (o % 256)], 5, 2), (23, #[.int .u8 (t % 256), .int .u8 (p % 256)], 5, 2)])
    49 rfl (by kernel_rfl) (by kernel_rfl) below_drew (eachOp_all ?_) ?_
  · refine ⟨?_, ?_, ?_, ?_, ?_, ?_, ?_, ?_, ?_, ?_, ?_, ?_, ?_, ?_, ?_, ?_, ?_, ?_, ?_, ?_, ?_, ?_, ?_, ?_, ?_, ?_, ?_, ?_, ?_, ?_, ?_, ?_, ?_, ?_, ?_, ?_, ?_, trivial⟩
    · intro a W hd hS hdep hfree
      have x1 : a.tmps.getD 1 undef = .pointer (some ⟨w.heap.size, 0, none⟩) := hfree 1 rfl
      clear hd hdep hfree
      simp only [Oper.wp, execOp]
      go_simp
      refine Nxt.mk _ rfl (fun _ _ => ?_) hS (fun _ _ h => h)
      rfl
    · intro a W hd hS hdep hfree
      have x8 : a.tmps.getD 8 undef = .pointer (some ⟨w.heap.size, 0, none⟩) := hdep 0 8 rfl rfl
      clear hd hdep hfree
      have c : W.cell? ⟨w.heap.size, 0, none⟩ = some (.int .i64 o) := (HB1.out.below hS hg1).cell 0 (by simp)
      simp only [Oper.wp, execOp]
      go_simp
      refine Nxt.mk _ rfl (fun _ _ => ?_) hS (fun _ _ h => h)
      rfl
    · intro a W hd hS hdep hfree
      have x9 : a.tmps.getD 9 undef = .int .i64 o := hdep 1 9 rfl rfl
      clear hd hdep hfree
      simp only [Oper.wp, execOp]
      go_simp
      refine Nxt.mk _ rfl (fun _ _ => ?_) hS (fun _ _ h => h)
      rfl
    · intro a W hd hS hdep hfree
      have x10 : a.tmps.getD 10 undef = .int .u8 (o % 256) := hdep 2 10 rfl rfl
      have y10 : a.tmps[10]?.getD undef = .int .u8 (o % 256) := by rw [← Array.getD_eq_getD_getElem?]; exact x10
      clear hd hdep hfree
      simp only [Oper.wp, execOp]
      go_simp
      exact Nxt.mk _ rfl (fun _ _ => ⟨W.heap.size, rfl, heap_alloc_new W _, by simp⟩) (below_comp hS (below_new _)) (fun j u h => Vals.below (below_new _) j u h)
    · intro a W hd hS hdep hfree
      obtain ⟨g11, x11, hx11, hl11⟩ : SliceAt W (a.tmps.getD 11 undef) #[.int .u8 69, .int .u8 (o % 256)] 5 2 := hdep 3 11 rfl rfl
      clear hd hdep hfree
      have hcv := HC1.out g11 W hx11
      simp only [Oper.wp, execOp]
      go_simp
      refine Nxt.mk _ rfl (fun _ _ => ?_) hS (fun _ _ h => h)
      rfl
    · intro a W hd hS hdep hfree
      have x1 : a.tmps.getD 1 undef = .pointer (some ⟨w.heap.size, 0, none⟩) := hfree 1 rfl
      clear hd hdep hfree
      simp only [Oper.wp, execOp]
      go_simp
      refine Nxt.mk _ rfl (fun _ _ => ?_) hS (fun _ _ h => h)
      rfl
    · intro a W hd hS hdep hfree
      have x13 : a.tmps.getD 13 undef = .pointer (some ⟨w.heap.size, 6, none⟩) := hdep 5 13 rfl rfl
      clear hd hdep hfree
      have c : W.cell? ⟨w.heap.size, 6, none⟩ = some (.string b) := (HB1.out.below hS hg1).cell 6 (by simp)
      simp only [Oper.wp, execOp]
      go_simp
      refine Nxt.mk _ rfl (fun _ _ => ?_) hS (fun _ _ h => h)
      rfl
    · intro a W hd hS hdep hfree
      have x14 : a.tmps.getD 14 undef = .string b := hdep 6 14 rfl rfl
      clear hd hdep hfree
      simp only [Oper.wp, execOp]
      go_simp
      refine Nxt.mk _ rfl (fun _ _ => ?_) hS (fun _ _ h => h)
      rfl
    · intro a W hd hS hdep hfree
      have x15 : a.tmps.getD 15 undef = .int .i64 (b.size : Int) := hdep 7 15 rfl rfl
      clear hd hdep hfree
      have k : IntKind.i64.wrap (20 + (b.size : Int)) = 20 + (b.size : Int) := wrap_in _ (by omega) (by omega)
      simp only [Oper.wp, execOp]
      go_simp
      refine Nxt.mk _ rfl (fun _ _ => ?_) hS (fun _ _ h => h)
      rfl
    · intro a W hd hS hdep hfree
      have x16 : a.tmps.getD 16 undef = .int .i64 (20 + (b.size : Int)) := hdep 8 16 rfl rfl
      clear hd hdep hfree
      simp only [Oper.wp, execOp]
      go_simp
      refine (HWl.out W).mono ?_
      rintro e W' ⟨rfl, hb⟩
      exact Nxt.mk _ rfl (fun _ _ => rfl) (below_comp hS hb) (fun j u h => Vals.below hb j u h)
    · intro a W hd hS hdep hfree
      have x12 : a.tmps.getD 12 undef = .string (two 69 (o % 256)) := hdep 4 12 rfl rfl
      have x17 : a.tmps.getD 17 undef = .string (w16 (20 + (b.size : Int))) := hdep 9 17 rfl rfl
      clear hd hdep hfree
      have k : ¬ 9223372036854775807 < (two 69 (o % 256)).size + (w16 (20 + (b.size : Int))).size := by (try simp only [ByteArray.size_append]); omega
      have k2 := k
      try simp only [ByteArray.size_append] at k2
      simp only [Oper.wp, execOp]
      go_simp
      refine Nxt.mk _ rfl (fun _ _ => ?_) hS (fun _ _ h => h)
      rfl
    · intro a W hd hS hdep hfree
      have x1 : a.tmps.getD 1 undef = .pointer (some ⟨w.heap.size, 0, none⟩) := hfree 1 rfl
      clear hd hdep hfree
      simp only [Oper.wp, execOp]
      go_simp
      refine Nxt.mk _ rfl (fun _ _ => ?_) hS (fun _ _ h => h)
      rfl
    · intro a W hd hS hdep hfree
      have x19 : a.tmps.getD 19 undef = .pointer (some ⟨w.heap.size, 1, none⟩) := hdep 11 19 rfl rfl
      clear hd hdep hfree
      have c : W.cell? ⟨w.heap.size, 1, none⟩ = some (.int .i64 n) := (HB1.out.below hS hg1).cell 1 (by simp)
      simp only [Oper.wp, execOp]
      go_simp
      refine Nxt.mk _ rfl (fun _ _ => ?_) hS (fun _ _ h => h)
      rfl
    · intro a W hd hS hdep hfree
      have x20 : a.tmps.getD 20 undef = .int .i64 n := hdep 12 20 rfl rfl
      clear hd hdep hfree
      simp only [Oper.wp, execOp]
      go_simp
      refine (HWn.out W).mono ?_
      rintro e W' ⟨rfl, hb⟩
      exact Nxt.mk _ rfl (fun _ _ => rfl) (below_comp hS hb) (fun j u h => Vals.below hb j u h)
    · intro a W hd hS hdep hfree
      have x18 : a.tmps.getD 18 undef = .string ((two 69 (o % 256)) ++ (w16 (20 + (b.size : Int)))) := hdep 10 18 rfl rfl
      have x21 : a.tmps.getD 21 undef = .string (w16 n) := hdep 13 21 rfl rfl
      clear hd hdep hfree
      have k : ¬ 9223372036854775807 < ((two 69 (o % 256)) ++ (w16 (20 + (b.size : Int)))).size + (w16 n).size := by (try simp only [ByteArray.size_append]); omega
      have k2 := k
      try simp only [ByteArray.size_append] at k2
      simp only [Oper.wp, execOp]
      go_simp
      refine Nxt.mk _ rfl (fun _ _ => ?_) hS (fun _ _ h => h)
      rfl
    · intro a W hd hS hdep hfree
      clear hd hdep hfree
      simp only [Oper.wp, execOp]
      go_simp
      refine (HWd.out W).mono ?_
      rintro e W' ⟨rfl, hb⟩
      exact Nxt.mk _ rfl (fun _ _ => rfl) (below_comp hS hb) (fun j u h => Vals.below hb j u h)
    · intro a W hd hS hdep hfree
      have x22 : a.tmps.getD 22 undef = .string (((two 69 (o % 256)) ++ (w16 (20 + (b.size : Int)))) ++ (w16 n)) := hdep 14 22 rfl rfl
      have x23 : a.tmps.getD 23 undef = .string (w16 16384) := hdep 15 23 rfl rfl
      clear hd hdep hfree
      have k : ¬ 9223372036854775807 < (((two 69 (o % 256)) ++ (w16 (20 + (b.size : Int)))) ++ (w16 n)).size + (w16 16384).size := by (try simp only [ByteArray.size_append]); omega
      have k2 := k
      try simp only [ByteArray.size_append] at k2
      simp only [Oper.wp, execOp]
      go_simp
      refine Nxt.mk _ rfl (fun _ _ => ?_) hS (fun _ _ h => h)
      rfl
    · intro a W hd hS hdep hfree
      have x1 : a.tmps.getD 1 undef = .pointer (some ⟨w.heap.size, 0, none⟩) := hfree 1 rfl
      clear hd hdep hfree
      simp only [Oper.wp, execOp]
      go_simp
      refine Nxt.mk _ rfl (fun _ _ => ?_) hS (fun _ _ h => h)
      rfl
    · intro a W hd hS hdep hfree
      have x25 : a.tmps.getD 25 undef = .pointer (some ⟨w.heap.size, 2, none⟩) := hdep 17 25 rfl rfl
      clear hd hdep hfree
      have c : W.cell? ⟨w.heap.size, 2, none⟩ = some (.int .i64 t) := (HB1.out.below hS hg1).cell 2 (by simp)
      simp only [Oper.wp, execOp]
      go_simp
      refine Nxt.mk _ rfl (fun _ _ => ?_) hS (fun _ _ h => h)
      rfl
    · intro a W hd hS hdep hfree
      have x26 : a.tmps.getD 26 undef = .int .i64 t := hdep 18 26 rfl rfl
      clear hd hdep hfree
      simp only [Oper.wp, execOp]
      go_simp
      refine Nxt.mk _ rfl (fun _ _ => ?_) hS (fun _ _ h => h)
      rfl
    · intro a W hd hS hdep hfree
      have x1 : a.tmps.getD 1 undef = .pointer (some ⟨w.heap.size, 0, none⟩) := hfree 1 rfl
      clear hd hdep hfree
      simp only [Oper.wp, execOp]
      go_simp
      refine Nxt.mk _ rfl (fun _ _ => ?_) hS (fun _ _ h => h)
      rfl
    · intro a W hd hS hdep hfree
      have x28 : a.tmps.getD 28 undef = .pointer (some ⟨w.heap.size, 3, none⟩) := hdep 20 28 rfl rfl
      clear hd hdep hfree
      have c : W.cell? ⟨w.heap.size, 3, none⟩ = some (.int .i64 p) := (HB1.out.below hS hg1).cell 3 (by simp)
      simp only [Oper.wp, execOp]
      go_simp
      refine Nxt.mk _ rfl (fun _ _ => ?_) hS (fun _ _ h => h)
      rfl
    · intro a W hd hS hdep hfree
      have x29 : a.tmps.getD 29 undef = .int .i64 p := hdep 21 29 rfl rfl
      clear hd hdep hfree
      simp only [Oper.wp, execOp]
      go_simp
      refine Nxt.mk _ rfl (fun _ _ => ?_) hS (fun _ _ h => h)
      rfl
    · intro a W hd hS hdep hfree
      have x27 : a.tmps.getD 27 undef = .int .u8 (t % 256) := hdep 19 27 rfl rfl
      have x30 : a.tmps.getD 30 undef = .int .u8 (p % 256) := hdep 22 30 rfl rfl
      have y27 : a.tmps[27]?.getD undef = .int .u8 (t % 256) := by rw [← Array.getD_eq_getD_getElem?]; exact x27
      have y30 : a.tmps[30]?.getD undef = .int .u8 (p % 256) := by rw [← Array.getD_eq_getD_getElem?]; exact x30
      clear hd hdep hfree
      simp only [Oper.wp, execOp]
      go_simp
      exact Nxt.mk _ rfl (fun _ _ => ⟨W.heap.size, rfl, heap_alloc_new W _, by simp⟩) (below_comp hS (below_new _)) (fun j u h => Vals.below (below_new _) j u h)
    · intro a W hd hS hdep hfree
      obtain ⟨g31, x31, hx31, hl31⟩ : SliceAt W (a.tmps.getD 31 undef) #[.int .u8 (t % 256), .int .u8 (p % 256)] 5 2 := hdep 23 31 rfl rfl
      clear hd hdep hfree
      have hcv := HC2.out g31 W hx31
      simp only [Oper.wp, execOp]
      go_simp
      refine Nxt.mk _ rfl (fun _ _ => ?_) hS (fun _ _ h => h)
      rfl
    · intro a W hd hS hdep hfree
      have x24 : a.tmps.getD 24 undef = .string ((((two 69 (o % 256)) ++ (w16 (20 + (b.size : Int)))) ++ (w16 n)) ++ (w16 16384)) := hdep 16 24 rfl rfl
      have x32 : a.tmps.getD 32 undef = .string (two (t % 256) (p % 256)) := hdep 24 32 rfl rfl
      clear hd hdep hfree
      have k : ¬ 9223372036854775807 < ((((two 69 (o % 256)) ++ (w16 (20 + (b.size : Int)))) ++ (w16 n)) ++ (w16 16384)).size + (two (t % 256) (p % 256)).size := by (try simp only [ByteArray.size_append]); omega
      have k2 := k
      try simp only [ByteArray.size_append] at k2
      simp only [Oper.wp, execOp]
      go_simp
      refine Nxt.mk _ rfl (fun _ _ => ?_) hS (fun _ _ h => h)
      rfl
    · intro a W hd hS hdep hfree
      clear hd hdep hfree
      simp only [Oper.wp, execOp]
      go_simp
      refine (HW0.out W).mono ?_
      rintro e W' ⟨rfl, hb⟩
      exact Nxt.mk _ rfl (fun _ _ => rfl) (below_comp hS hb) (fun j u h => Vals.below hb j u h)
    · intro a W hd hS hdep hfree
      have x33 : a.tmps.getD 33 undef = .string (((((two 69 (o % 256)) ++ (w16 (20 + (b.size : Int)))) ++ (w16 n)) ++ (w16 16384)) ++ (two (t % 256) (p % 256))) := hdep 25 33 rfl rfl
      have x34 : a.tmps.getD 34 undef = .string (w16 0) := hdep 26 34 rfl rfl
      clear hd hdep hfree
      have k : ¬ 9223372036854775807 < (((((two 69 (o % 256)) ++ (w16 (20 + (b.size : Int)))) ++ (w16 n)) ++ (w16 16384)) ++ (two (t % 256) (p % 256))).size + (w16 0).size := by (try simp only [ByteArray.size_append]); omega
      have k2 := k
      try simp only [ByteArray.size_append] at k2
      simp only [Oper.wp, execOp]
      go_simp
      refine Nxt.mk _ rfl (fun _ _ => ?_) hS (fun _ _ h => h)
      rfl
    · intro a W hd hS hdep hfree
      have x1 : a.tmps.getD 1 undef = .pointer (some ⟨w.heap.size, 0, none⟩) := hfree 1 rfl
      clear hd hdep hfree
      simp only [Oper.wp, execOp]
      go_simp
      refine Nxt.mk _ rfl (fun _ _ => ?_) hS (fun _ _ h => h)
      rfl
    · intro a W hd hS hdep hfree
      have x36 : a.tmps.getD 36 undef = .pointer (some ⟨w.heap.size, 4, none⟩) := hdep 28 36 rfl rfl
      clear hd hdep hfree
      have c : W.cell? ⟨w.heap.size, 4, none⟩ = some (.int .i64 x) := (HB1.out.below hS hg1).cell 4 (by simp)
      simp only [Oper.wp, execOp]
      go_simp
      refine Nxt.mk _ rfl (fun _ _ => ?_) hS (fun _ _ h => h)
      rfl
    · intro a W hd hS hdep hfree
      have x37 : a.tmps.getD 37 undef = .int .i64 x := hdep 29 37 rfl rfl
      clear hd hdep hfree
      simp only [Oper.wp, execOp]
      go_simp
      refine (HW_x.out W).mono ?_
      rintro e W' ⟨rfl, hb⟩
      exact Nxt.mk _ rfl (fun _ _ => rfl) (below_comp hS hb) (fun j u h => Vals.below hb j u h)
    · intro a W hd hS hdep hfree
      have x35 : a.tmps.getD 35 undef = .string ((((((two 69 (o % 256)) ++ (w16 (20 + (b.size : Int)))) ++ (w16 n)) ++ (w16 16384)) ++ (two (t % 256) (p % 256))) ++ (w16 0)) := hdep 27 35 rfl rfl
      have x38 : a.tmps.getD 38 undef = .string (w32 x) := hdep 30 38 rfl rfl
      clear hd hdep hfree
      have k : ¬ 9223372036854775807 < ((((((two 69 (o % 256)) ++ (w16 (20 + (b.size : Int)))) ++ (w16 n)) ++ (w16 16384)) ++ (two (t % 256) (p % 256))) ++ (w16 0)).size + (w32 x).size := by (try simp only [ByteArray.size_append]); omega
      have k2 := k
      try simp only [ByteArray.size_append] at k2
      simp only [Oper.wp, execOp]
      go_simp
      refine Nxt.mk _ rfl (fun _ _ => ?_) hS (fun _ _ h => h)
      rfl
    · intro a W hd hS hdep hfree
      have x1 : a.tmps.getD 1 undef = .pointer (some ⟨w.heap.size, 0, none⟩) := hfree 1 rfl
      clear hd hdep hfree
      simp only [Oper.wp, execOp]
      go_simp
      refine Nxt.mk _ rfl (fun _ _ => ?_) hS (fun _ _ h => h)
      rfl
    · intro a W hd hS hdep hfree
      have x40 : a.tmps.getD 40 undef = .pointer (some ⟨w.heap.size, 5, none⟩) := hdep 32 40 rfl rfl
      clear hd hdep hfree
      have c : W.cell? ⟨w.heap.size, 5, none⟩ = some (.int .i64 y) := (HB1.out.below hS hg1).cell 5 (by simp)
      simp only [Oper.wp, execOp]
      go_simp
      refine Nxt.mk _ rfl (fun _ _ => ?_) hS (fun _ _ h => h)
      rfl
    · intro a W hd hS hdep hfree
      have x41 : a.tmps.getD 41 undef = .int .i64 y := hdep 33 41 rfl rfl
      clear hd hdep hfree
      simp only [Oper.wp, execOp]
      go_simp
      refine (HW_y.out W).mono ?_
      rintro e W' ⟨rfl, hb⟩
      exact Nxt.mk _ rfl (fun _ _ => rfl) (below_comp hS hb) (fun j u h => Vals.below hb j u h)
    · intro a W hd hS hdep hfree
      have x39 : a.tmps.getD 39 undef = .string (((((((two 69 (o % 256)) ++ (w16 (20 + (b.size : Int)))) ++ (w16 n)) ++ (w16 16384)) ++ (two (t % 256) (p % 256))) ++ (w16 0)) ++ (w32 x)) := hdep 31 39 rfl rfl
      have x42 : a.tmps.getD 42 undef = .string (w32 y) := hdep 34 42 rfl rfl
      clear hd hdep hfree
      have k : ¬ 9223372036854775807 < (((((((two 69 (o % 256)) ++ (w16 (20 + (b.size : Int)))) ++ (w16 n)) ++ (w16 16384)) ++ (two (t % 256) (p % 256))) ++ (w16 0)) ++ (w32 x)).size + (w32 y).size := by (try simp only [ByteArray.size_append]); omega
      have k2 := k
      try simp only [ByteArray.size_append] at k2
      simp only [Oper.wp, execOp]
      go_simp
      refine Nxt.mk _ rfl (fun _ _ => ?_) hS (fun _ _ h => h)
      rfl
    · intro a W hd hS hdep hfree
      have x43 : a.tmps.getD 43 undef = .string ((((((((two 69 (o % 256)) ++ (w16 (20 + (b.size : Int)))) ++ (w16 n)) ++ (w16 16384)) ++ (two (t % 256) (p % 256))) ++ (w16 0)) ++ (w32 x)) ++ (w32 y)) := hdep 35 43 rfl rfl
      clear hd hdep hfree
      simp only [Oper.wp, execOp]
      go_simp
      refine Nxt.mk _ rfl (fun _ _ => ?_) hS (fun _ _ h => h)
      rfl
  intro a W2 hs hd hS2 hdone hrest
  obtain ⟨u11, hu11⟩ : ∃ u, a.tmps.getD 11 undef = u := ⟨_, rfl⟩
  obtain ⟨u31, hu31⟩ : ∃ u, a.tmps.getD 31 undef = u := ⟨_, rfl⟩
  have ea := written_all [.pointer (some ⟨w.heap.size, 0, none⟩), .int .i64 o, .int .u8 (o % 256), u11, .string (two 69 (o % 256)), .pointer (some ⟨w.heap.size, 6, none⟩), .string b, .int .i64 (b.size : Int), .int .i64 (20 + (b.size : Int)), .string (w16 (20 + (b.size : Int))), .string ((two 69 (o % 256)) ++ (w16 (20 + (b.size : Int)))), .pointer (some ⟨w.heap.size, 1, none⟩), .int .i64 n, .string (w16 n), .string (((two 69 (o % 256)) ++ (w16 (20 + (b.size : Int)))) ++ (w16 n)), .string (w16 16384), .string ((((two 69 (o % 256)) ++ (w16 (20 + (b.size : Int)))) ++ (w16 n)) ++ (w16 16384)), .pointer (some ⟨w.heap.size, 2, none⟩), .int .i64 t, .int .u8 (t % 256), .pointer (some ⟨w.heap.size, 3, none⟩), .int .i64 p, .int .u8 (p % 256), u31, .string (two (t % 256) (p % 256)), .string (((((two 69 (o % 256)) ++ (w16 (20 + (b.size : Int)))) ++ (w16 n)) ++ (w16 16384)) ++ (two (t % 256) (p % 256))), .string (w16 0), .string ((((((two 69 (o % 256)) ++ (w16 (20 + (b.size : Int)))) ++ (w16 n)) ++ (w16 16384)) ++ (two (t % 256) (p % 256))) ++ (w16 0)), .pointer (some ⟨w.heap.size, 4, none⟩), .int .i64 x, .string (w32 x), .string (((((((two 69 (o % 256)) ++ (w16 (20 + (b.size : Int)))) ++ (w16 n)) ++ (w16 16384)) ++ (two (t % 256) (p % 256))) ++ (w16 0)) ++ (w32 x)), .pointer (some ⟨w.heap.size, 5, none⟩), .int .i64 y, .string (w32 y), .string ((((((((two 69 (o % 256)) ++ (w16 (20 + (b.size : Int)))) ++ (w16 n)) ++ (w16 16384)) ++ (two (t % 256) (p % 256))) ++ (w16 0)) ++ (w32 x)) ++ (w32 y)), .string ((((((((two 69 (o % 256)) ++ (w16 (20 + (b.size : Int)))) ++ (w16 n)) ++ (w16 16384)) ++ (two (t % 256) (p % 256))) ++ (w16 0)) ++ (w32 x)) ++ (w32 y))] rfl hs hd hrest (fun j d hj => by
    have h := hdone j d hj
    match j, hj, h with
    | 0, _, h => exact h
    | 1, _, h => exact h
    | 2, _, h => exact h
    | 3, hj, _ => exact (Option.some.inj hj) ▸ hu11
    | 4, _, h => exact h
    | 5, _, h => exact h
    | 6, _, h => exact h
    | 7, _, h => exact h
    | 8, _, h => exact h
    | 9, _, h => exact h
    | 10, _, h => exact h
    | 11, _, h => exact h
    | 12, _, h => exact h
    | 13, _, h => exact h
    | 14, _, h => exact h
    | 15, _, h => exact h
    | 16, _, h => exact h
    | 17, _, h => exact h
    | 18, _, h => exact h
    | 19, _, h => exact h
    | 20, _, h => exact h
    | 21, _, h => exact h
    | 22, _, h => exact h
    | 23, hj, _ => exact (Option.some.inj hj) ▸ hu31
    | 24, _, h => exact h
    | 25, _, h => exact h
    | 26, _, h => exact h
    | 27, _, h => exact h
    | 28, _, h => exact h
    | 29, _, h => exact h
    | 30, _, h => exact h
    | 31, _, h => exact h
    | 32, _, h => exact h
    | 33, _, h => exact h
    | 34, _, h => exact h
    | 35, _, h => exact h
    | 36, _, h => exact h
    | n + 37, hj, _ => exact absurd (dstOf_lt hj) (by simp))
  clear hu11 hu31
  clear hs hd hdone hrest
  subst ea
  simp only [written, List.map_cons, List.map_nil, List.zip_cons_cons, List.zip_nil_right, putAll]
  simp only [Exit.then, Act.put, List.setIfInBounds_toArray, List.set_cons_zero, List.set_cons_succ]
  obtain ⟨H, HH⟩ : ∃ H, Hid (H = IpM.blank ⟨o, n, t, p, x, y, b⟩) := ⟨_, Lib.hid rfl⟩
  rw [show ((((((((two 69 (o % 256)) ++ (w16 (20 + (b.size : Int)))) ++ (w16 n)) ++ (w16 16384)) ++ (two (t % 256) (p % 256))) ++ (w16 0)) ++ (w32 x)) ++ (w32 y)) = H from HH.out.symm]
  have hHs : H.size ≤ 4194304 := by rw [HH.out, HB20.out]; decide
  obtain ⟨s0, s1⟩ := sumW_bd H
  have HC := Lib.hid fun W => impl_checksum_any H W hHs
  have HW := Lib.hid fun W => (by have := impl_word16 (65535 - sumW H) W; rwa [word16_in _ (by omega)] at this : Calls Try.prog 79 #[.int .i64 (65535 - sumW H)] W fun r w' => r = .returned (.string (w16 (65535 - sumW H))) ∧ Below W.heap.size W w')
  have HP := Lib.hid fun W => impl_put_any H 10 (w16 (65535 - sumW H)) W hHs (by show 2 ≤ 4194304; decide) (by decide)
  go_wp2_with (first
    | (go_at_call 75; refine (HC.out _).mono ?_; rintro e w3 ⟨rfl, hb3⟩)
    | (go_at_call 79; refine (HW.out _).mono ?_; rintro e w4 ⟨rfl, hb4⟩)
    | (go_at_call 92; refine (HP.out _).mono ?_; rintro e w5 ⟨rfl, hb5⟩))
  go_ret2
  refine ⟨ret_str_bool ?_ rfl, below_comp (below_comp (below_comp (below_comp hb01 hS2) hb3) hb4) hb5⟩
  rw [HR.out, HH.out]
  rfl

end Go.Proofs.Ytkknfcnajgolfaa
