/- The program's bytes of a segment with a given checksum. -/
import Derived.Test.YtkknfcnajgolfaaSegMath
import Derived.Test.YtkknfcnajgolfaaSegOkB
import Derived.Test.YtkknfcnajgolfaaMacB
import Derived.Test.YtkknfcnajgolfaaRegion
namespace Go.Proofs.Ytkknfcnajgolfaa
open Go.RowKit
set_option linter.unusedSimpArgs false
set_option linter.unusedVariables false

set_option maxHeartbeats 4000000 in
set_option maxRecDepth 100000 in
theorem impl_with_udp (sp dp q c f n : Int) (b : ByteArray) (m : Int) (w : World) (h1 : 0 ≤ sp ∧ sp ≤ 65535) (h2 : 0 ≤ dp ∧ dp ≤ 65535) (h3 : 0 ≤ q ∧ q ≤ 4294967295) (h4 : 0 ≤ c ∧ c ≤ 4294967295) (h5 : 0 ≤ f ∧ f ≤ 31) (h6 : 0 ≤ n ∧ n ≤ 65535) (h7 : (b.size : Int) ≤ 320) (hm : 0 ≤ m ∧ m ≤ 65535) :
    Calls Try.prog 73 #[.agg #[.int .i64 17, .int .i64 sp, .int .i64 dp, .int .i64 q, .int .i64 c, .int .i64 f, .int .i64 n, .string b], .int .i64 m] w fun r w' => r = .returned (.string (SegM.udp ⟨17, sp, dp, q, c, f, n, b⟩ m)) ∧ Below w.heap.size w w' := by
  have HWsp := Lib.hid fun W => (by have := impl_word16 sp W; rwa [word16_in _ h1] at this : Calls Try.prog 79 #[.int .i64 sp] W fun r w' => r = .returned (.string (w16 sp)) ∧ Below W.heap.size W w')
  have HWdp := Lib.hid fun W => (by have := impl_word16 dp W; rwa [word16_in _ h2] at this : Calls Try.prog 79 #[.int .i64 dp] W fun r w' => r = .returned (.string (w16 dp)) ∧ Below W.heap.size W w')
  have HWm := Lib.hid fun W => (by have := impl_word16 m W; rwa [word16_in _ hm] at this : Calls Try.prog 79 #[.int .i64 m] W fun r w' => r = .returned (.string (w16 m)) ∧ Below W.heap.size W w')
  have HWl := Lib.hid fun W => (by have := impl_word16 (8 + (b.size : Int)) W; rwa [word16_in _ (by omega)] at this : Calls Try.prog 79 #[.int .i64 (8 + (b.size : Int))] W fun r w' => r = .returned (.string (w16 (8 + (b.size : Int)))) ∧ Below W.heap.size W w')
  have z1 : (w16 sp).size ≤ 2 := Nat.le_refl _
  have z2 : (w16 dp).size ≤ 2 := Nat.le_refl _
  have z3 : (w16 m).size ≤ 2 := Nat.le_refl _
  have z4 : (w16 (8 + (b.size : Int))).size ≤ 2 := Nat.le_refl _
  have HL : Hid (∀ W, _) := Lib.hid fun W => layout_17 W
  clear h1 h2 h3 h4 h5 h6 hm
  go_enter Try.func73, Try.ntmps73
  go_wp2_with fail
  obtain ⟨w1, hw1⟩ : ∃ w1, w1 = w.alloc (.cells #[.int .i64 17, .int .i64 sp, .int .i64 dp, .int .i64 q, .int .i64 c, .int .i64 f, .int .i64 n, .string b] 28) := ⟨_, rfl⟩
  have hg1 : w.heap.size < w1.heap.size := by rw [hw1]; simp
  have HB1 := Lib.hid (hw1 ▸ Box.new w #[.int .i64 17, .int .i64 sp, .int .i64 dp, .int .i64 q, .int .i64 c, .int .i64 f, .int .i64 n, .string b] 28 : Box w1 w.heap.size #[.int .i64 17, .int .i64 sp, .int .i64 dp, .int .i64 q, .int .i64 c, .int .i64 f, .int .i64 n, .string b] 28)
  have hb01 : Below w.heap.size w w1 := hw1 ▸ below_new _
  rw [← hw1]
  clear hw1
  refine wp_region_values (by kernel_rfl) (fun W => Below w1.heap.size w1 W) (Vals [.pointer (some ⟨w.heap.size, 1, none⟩), .int .i64 sp, .string (w16 sp), .pointer (some ⟨w.heap.size, 2, none⟩), .int .i64 dp, .string (w16 dp), .string ((w16 sp) ++ (w16 dp)), .string ((w16 sp) ++ (w16 dp))] [])
    57 rfl (by kernel_rfl) (by kernel_rfl) below_drew (eachOp_all ?_) ?_
  · refine ⟨?_, ?_, ?_, ?_, ?_, ?_, ?_, ?_, trivial⟩
    · intro a W hd hS hdep hfree
      have x2 : a.tmps.getD 2 undef = .pointer (some ⟨w.heap.size, 0, none⟩) := hfree 2 rfl
      clear hd hdep hfree
      simp only [Oper.wp, execOp]
      go_simp
      refine Nxt.mk _ rfl (fun _ _ => ?_) hS (fun _ _ h => h)
      rfl
    · intro a W hd hS hdep hfree
      have x6 : a.tmps.getD 6 undef = .pointer (some ⟨w.heap.size, 1, none⟩) := hdep 0 6 rfl rfl
      clear hd hdep hfree
      have c : W.cell? ⟨w.heap.size, 1, none⟩ = some (.int .i64 sp) := (HB1.out.below hS hg1).cell 1 (by simp)
      simp only [Oper.wp, execOp]
      go_simp
      refine Nxt.mk _ rfl (fun _ _ => ?_) hS (fun _ _ h => h)
      rfl
    · intro a W hd hS hdep hfree
      have x7 : a.tmps.getD 7 undef = .int .i64 sp := hdep 1 7 rfl rfl
      clear hd hdep hfree
      simp only [Oper.wp, execOp]
      go_simp
      refine (HWsp.out W).mono ?_
      rintro e W' ⟨rfl, hb⟩
      exact Nxt.mk _ rfl (fun _ _ => rfl) (below_comp hS hb) (fun j u h => Vals.below hb j u h)
    · intro a W hd hS hdep hfree
      have x2 : a.tmps.getD 2 undef = .pointer (some ⟨w.heap.size, 0, none⟩) := hfree 2 rfl
      clear hd hdep hfree
      simp only [Oper.wp, execOp]
      go_simp
      refine Nxt.mk _ rfl (fun _ _ => ?_) hS (fun _ _ h => h)
      rfl
    · intro a W hd hS hdep hfree
      have x9 : a.tmps.getD 9 undef = .pointer (some ⟨w.heap.size, 2, none⟩) := hdep 3 9 rfl rfl
      clear hd hdep hfree
      have c : W.cell? ⟨w.heap.size, 2, none⟩ = some (.int .i64 dp) := (HB1.out.below hS hg1).cell 2 (by simp)
      simp only [Oper.wp, execOp]
      go_simp
      refine Nxt.mk _ rfl (fun _ _ => ?_) hS (fun _ _ h => h)
      rfl
    · intro a W hd hS hdep hfree
      have x10 : a.tmps.getD 10 undef = .int .i64 dp := hdep 4 10 rfl rfl
      clear hd hdep hfree
      simp only [Oper.wp, execOp]
      go_simp
      refine (HWdp.out W).mono ?_
      rintro e W' ⟨rfl, hb⟩
      exact Nxt.mk _ rfl (fun _ _ => rfl) (below_comp hS hb) (fun j u h => Vals.below hb j u h)
    · intro a W hd hS hdep hfree
      have x8 : a.tmps.getD 8 undef = .string (w16 sp) := hdep 2 8 rfl rfl
      have x11 : a.tmps.getD 11 undef = .string (w16 dp) := hdep 5 11 rfl rfl
      clear hd hdep hfree
      have k : ¬ 9223372036854775807 < (w16 sp).size + (w16 dp).size := by (try simp only [ByteArray.size_append]); omega
      have k2 := k
      try simp only [ByteArray.size_append] at k2
      simp only [Oper.wp, execOp]
      go_simp
      refine Nxt.mk _ rfl (fun _ _ => ?_) hS (fun _ _ h => h)
      rfl
    · intro a W hd hS hdep hfree
      have x12 : a.tmps.getD 12 undef = .string ((w16 sp) ++ (w16 dp)) := hdep 6 12 rfl rfl
      clear hd hdep hfree
      simp only [Oper.wp, execOp]
      go_simp
      refine Nxt.mk _ rfl (fun _ _ => ?_) hS (fun _ _ h => h)
      rfl
  intro a W2 hs hd hS2 hdone hrest
  have ea := written_all [.pointer (some ⟨w.heap.size, 1, none⟩), .int .i64 sp, .string (w16 sp), .pointer (some ⟨w.heap.size, 2, none⟩), .int .i64 dp, .string (w16 dp), .string ((w16 sp) ++ (w16 dp)), .string ((w16 sp) ++ (w16 dp))] rfl hs hd hrest hdone
  clear hs hd hdone hrest
  subst ea
  simp only [written, List.map_cons, List.map_nil, List.zip_cons_cons, List.zip_nil_right, putAll]
  simp only [Exit.then, Act.put, List.setIfInBounds_toArray, List.set_cons_zero, List.set_cons_succ]
  have hg2 : w.heap.size < W2.heap.size := Nat.lt_of_lt_of_le hg1 hS2.size
  have HB2 := Lib.hid (HB1.out.below hS2 hg1)
  have hb02 := below_comp hb01 hS2
  have c0 : W2.cell? ⟨w.heap.size, 0, none⟩ = some (.int .i64 17) := HB2.out.cell 0 (by simp)
  clear hS2
  go_wp2_with (go_at_call 63; refine (HL.out _).mono ?_; rintro e w' ⟨rfl, rfl⟩)
  clear c0
  refine wp_region_values (by kernel_rfl) (fun W => Below W2.heap.size W2 W) (Vals [.string ((w16 sp) ++ (w16 dp)), .pointer (some ⟨w.heap.size, 7, none⟩), .string b, .int .i64 (b.size : Int), .int .i64 (8 + (b.size : Int)), .string (w16 (8 + (b.size : Int))), .string (((w16 sp) ++ (w16 dp)) ++ (w16 (8 + (b.size : Int)))), .int .i64 m, .string (w16 m), .string ((((w16 sp) ++ (w16 dp)) ++ (w16 (8 + (b.size : Int)))) ++ (w16 m)), .pointer (some ⟨w.heap.size, 7, none⟩), .string b, .string (((((w16 sp) ++ (w16 dp)) ++ (w16 (8 + (b.size : Int)))) ++ (w16 m)) ++ b), .string (((((w16 sp) ++ (w16 dp)) ++ (w16 (8 + (b.size : Int)))) ++ (w16 m)) ++ b)] [])
    57 rfl (by kernel_rfl) (by kernel_rfl) below_drew (eachOp_all ?_) ?_
  · refine ⟨?_, ?_, ?_, ?_, ?_, ?_, ?_, ?_, ?_, ?_, ?_, ?_, ?_, ?_, trivial⟩
    · intro a W hd hS hdep hfree
      have x5 : a.tmps.getD 5 undef = .string ((w16 sp) ++ (w16 dp)) := hfree 5 rfl
      clear hd hdep hfree
      simp only [Oper.wp, execOp]
      go_simp
      refine Nxt.mk _ rfl (fun _ _ => ?_) hS (fun _ _ h => h)
      rfl
    · intro a W hd hS hdep hfree
      have x2 : a.tmps.getD 2 undef = .pointer (some ⟨w.heap.size, 0, none⟩) := hfree 2 rfl
      clear hd hdep hfree
      simp only [Oper.wp, execOp]
      go_simp
      refine Nxt.mk _ rfl (fun _ _ => ?_) hS (fun _ _ h => h)
      rfl
    · intro a W hd hS hdep hfree
      have x18 : a.tmps.getD 18 undef = .pointer (some ⟨w.heap.size, 7, none⟩) := hdep 1 18 rfl rfl
      clear hd hdep hfree
      have c : W.cell? ⟨w.heap.size, 7, none⟩ = some (.string b) := (HB2.out.below hS hg2).cell 7 (by simp)
      simp only [Oper.wp, execOp]
      go_simp
      refine Nxt.mk _ rfl (fun _ _ => ?_) hS (fun _ _ h => h)
      rfl
    · intro a W hd hS hdep hfree
      have x19 : a.tmps.getD 19 undef = .string b := hdep 2 19 rfl rfl
      clear hd hdep hfree
      simp only [Oper.wp, execOp]
      go_simp
      refine Nxt.mk _ rfl (fun _ _ => ?_) hS (fun _ _ h => h)
      rfl
    · intro a W hd hS hdep hfree
      have x20 : a.tmps.getD 20 undef = .int .i64 (b.size : Int) := hdep 3 20 rfl rfl
      clear hd hdep hfree
      have k : IntKind.i64.wrap (8 + (b.size : Int)) = 8 + (b.size : Int) := wrap_in _ (by omega) (by omega)
      simp only [Oper.wp, execOp]
      go_simp
      refine Nxt.mk _ rfl (fun _ _ => ?_) hS (fun _ _ h => h)
      rfl
    · intro a W hd hS hdep hfree
      have x21 : a.tmps.getD 21 undef = .int .i64 (8 + (b.size : Int)) := hdep 4 21 rfl rfl
      clear hd hdep hfree
      simp only [Oper.wp, execOp]
      go_simp
      refine (HWl.out W).mono ?_
      rintro e W' ⟨rfl, hb⟩
      exact Nxt.mk _ rfl (fun _ _ => rfl) (below_comp hS hb) (fun j u h => Vals.below hb j u h)
    · intro a W hd hS hdep hfree
      have x17 : a.tmps.getD 17 undef = .string ((w16 sp) ++ (w16 dp)) := hdep 0 17 rfl rfl
      have x22 : a.tmps.getD 22 undef = .string (w16 (8 + (b.size : Int))) := hdep 5 22 rfl rfl
      clear hd hdep hfree
      have k : ¬ 9223372036854775807 < ((w16 sp) ++ (w16 dp)).size + (w16 (8 + (b.size : Int))).size := by (try simp only [ByteArray.size_append]); omega
      have k2 := k
      try simp only [ByteArray.size_append] at k2
      simp only [Oper.wp, execOp]
      go_simp
      refine Nxt.mk _ rfl (fun _ _ => ?_) hS (fun _ _ h => h)
      rfl
    · intro a W hd hS hdep hfree
      have x1 : a.tmps.getD 1 undef = .int .i64 m := hfree 1 rfl
      clear hd hdep hfree
      simp only [Oper.wp, execOp]
      go_simp
      refine Nxt.mk _ rfl (fun _ _ => ?_) hS (fun _ _ h => h)
      rfl
    · intro a W hd hS hdep hfree
      have x24 : a.tmps.getD 24 undef = .int .i64 m := hdep 7 24 rfl rfl
      clear hd hdep hfree
      simp only [Oper.wp, execOp]
      go_simp
      refine (HWm.out W).mono ?_
      rintro e W' ⟨rfl, hb⟩
      exact Nxt.mk _ rfl (fun _ _ => rfl) (below_comp hS hb) (fun j u h => Vals.below hb j u h)
    · intro a W hd hS hdep hfree
      have x23 : a.tmps.getD 23 undef = .string (((w16 sp) ++ (w16 dp)) ++ (w16 (8 + (b.size : Int)))) := hdep 6 23 rfl rfl
      have x25 : a.tmps.getD 25 undef = .string (w16 m) := hdep 8 25 rfl rfl
      clear hd hdep hfree
      have k : ¬ 9223372036854775807 < (((w16 sp) ++ (w16 dp)) ++ (w16 (8 + (b.size : Int)))).size + (w16 m).size := by (try simp only [ByteArray.size_append]); omega
      have k2 := k
      try simp only [ByteArray.size_append] at k2
      simp only [Oper.wp, execOp]
      go_simp
      refine Nxt.mk _ rfl (fun _ _ => ?_) hS (fun _ _ h => h)
      rfl
    · intro a W hd hS hdep hfree
      have x2 : a.tmps.getD 2 undef = .pointer (some ⟨w.heap.size, 0, none⟩) := hfree 2 rfl
      clear hd hdep hfree
      simp only [Oper.wp, execOp]
      go_simp
      refine Nxt.mk _ rfl (fun _ _ => ?_) hS (fun _ _ h => h)
      rfl
    · intro a W hd hS hdep hfree
      have x27 : a.tmps.getD 27 undef = .pointer (some ⟨w.heap.size, 7, none⟩) := hdep 10 27 rfl rfl
      clear hd hdep hfree
      have c : W.cell? ⟨w.heap.size, 7, none⟩ = some (.string b) := (HB2.out.below hS hg2).cell 7 (by simp)
      simp only [Oper.wp, execOp]
      go_simp
      refine Nxt.mk _ rfl (fun _ _ => ?_) hS (fun _ _ h => h)
      rfl
    · intro a W hd hS hdep hfree
      have x26 : a.tmps.getD 26 undef = .string ((((w16 sp) ++ (w16 dp)) ++ (w16 (8 + (b.size : Int)))) ++ (w16 m)) := hdep 9 26 rfl rfl
      have x28 : a.tmps.getD 28 undef = .string b := hdep 11 28 rfl rfl
      clear hd hdep hfree
      have k : ¬ 9223372036854775807 < ((((w16 sp) ++ (w16 dp)) ++ (w16 (8 + (b.size : Int)))) ++ (w16 m)).size + b.size := by (try simp only [ByteArray.size_append]); omega
      have k2 := k
      try simp only [ByteArray.size_append] at k2
      simp only [Oper.wp, execOp]
      go_simp
      refine Nxt.mk _ rfl (fun _ _ => ?_) hS (fun _ _ h => h)
      rfl
    · intro a W hd hS hdep hfree
      have x29 : a.tmps.getD 29 undef = .string (((((w16 sp) ++ (w16 dp)) ++ (w16 (8 + (b.size : Int)))) ++ (w16 m)) ++ b) := hdep 12 29 rfl rfl
      clear hd hdep hfree
      simp only [Oper.wp, execOp]
      go_simp
      refine Nxt.mk _ rfl (fun _ _ => ?_) hS (fun _ _ h => h)
      rfl
  intro a W3 hs hd hS3 hdone hrest
  have ea := written_all [.string ((w16 sp) ++ (w16 dp)), .pointer (some ⟨w.heap.size, 7, none⟩), .string b, .int .i64 (b.size : Int), .int .i64 (8 + (b.size : Int)), .string (w16 (8 + (b.size : Int))), .string (((w16 sp) ++ (w16 dp)) ++ (w16 (8 + (b.size : Int)))), .int .i64 m, .string (w16 m), .string ((((w16 sp) ++ (w16 dp)) ++ (w16 (8 + (b.size : Int)))) ++ (w16 m)), .pointer (some ⟨w.heap.size, 7, none⟩), .string b, .string (((((w16 sp) ++ (w16 dp)) ++ (w16 (8 + (b.size : Int)))) ++ (w16 m)) ++ b), .string (((((w16 sp) ++ (w16 dp)) ++ (w16 (8 + (b.size : Int)))) ++ (w16 m)) ++ b)] rfl hs hd hrest hdone
  clear hs hd hdone hrest
  subst ea
  simp only [written, List.map_cons, List.map_nil, List.zip_cons_cons, List.zip_nil_right, putAll]
  simp only [Exit.then, Act.put, List.setIfInBounds_toArray, List.set_cons_zero, List.set_cons_succ]
  go_wp2
  go_ret
  exact ⟨rfl, below_comp hb02 hS3⟩

set_option maxHeartbeats 4000000 in
set_option maxRecDepth 100000 in
theorem impl_with_tcp (sp dp q c f n : Int) (b : ByteArray) (m : Int) (w : World) (h1 : 0 ≤ sp ∧ sp ≤ 65535) (h2 : 0 ≤ dp ∧ dp ≤ 65535) (h3 : 0 ≤ q ∧ q ≤ 4294967295) (h4 : 0 ≤ c ∧ c ≤ 4294967295) (h5 : 0 ≤ f ∧ f ≤ 31) (h6 : 0 ≤ n ∧ n ≤ 65535) (h7 : (b.size : Int) ≤ 320) (hm : 0 ≤ m ∧ m ≤ 65535) :
    Calls Try.prog 73 #[.agg #[.int .i64 6, .int .i64 sp, .int .i64 dp, .int .i64 q, .int .i64 c, .int .i64 f, .int .i64 n, .string b], .int .i64 m] w fun r w' => r = .returned (.string (SegM.tcp ⟨6, sp, dp, q, c, f, n, b⟩ m)) ∧ Below w.heap.size w w' := by
  have HWsp := Lib.hid fun W => (by have := impl_word16 sp W; rwa [word16_in _ h1] at this : Calls Try.prog 79 #[.int .i64 sp] W fun r w' => r = .returned (.string (w16 sp)) ∧ Below W.heap.size W w')
  have HWdp := Lib.hid fun W => (by have := impl_word16 dp W; rwa [word16_in _ h2] at this : Calls Try.prog 79 #[.int .i64 dp] W fun r w' => r = .returned (.string (w16 dp)) ∧ Below W.heap.size W w')
  have HWm := Lib.hid fun W => (by have := impl_word16 m W; rwa [word16_in _ hm] at this : Calls Try.prog 79 #[.int .i64 m] W fun r w' => r = .returned (.string (w16 m)) ∧ Below W.heap.size W w')
  have HW_q := Lib.hid fun W => (by have := impl_word32 q W; rwa [word32_in _ h3] at this : Calls Try.prog 89 #[.int .i64 q] W fun r w' => r = .returned (.string (w32 q)) ∧ Below W.heap.size W w')
  have HW_c := Lib.hid fun W => (by have := impl_word32 c W; rwa [word32_in _ h4] at this : Calls Try.prog 89 #[.int .i64 c] W fun r w' => r = .returned (.string (w32 c)) ∧ Below W.heap.size W w')
  have HWn := Lib.hid fun W => (by have := impl_word16 n W; rwa [word16_in _ h6] at this : Calls Try.prog 79 #[.int .i64 n] W fun r w' => r = .returned (.string (w16 n)) ∧ Below W.heap.size W w')
  have HW0 := Lib.hid fun W => (by have := impl_word16 0 W; rwa [word16_in _ (by decide)] at this : Calls Try.prog 79 #[.int .i64 0] W fun r w' => r = .returned (.string (w16 0)) ∧ Below W.heap.size W w')
  have HC := Lib.hid fun g W => conv_two_at 5 80 (f % 256) (by decide) (by omega) g W
  have z8 : (two 80 (f % 256)).size ≤ 2 := Nat.le_refl _
  have z9 : (w32 q).size ≤ 4 := Nat.le_refl _
  have z10 : (w32 c).size ≤ 4 := Nat.le_refl _
  have z11 : (w16 n).size ≤ 2 := Nat.le_refl _
  have z12 : (w16 0).size ≤ 2 := Nat.le_refl _
  have z1 : (w16 sp).size ≤ 2 := Nat.le_refl _
  have z2 : (w16 dp).size ≤ 2 := Nat.le_refl _
  have z3 : (w16 m).size ≤ 2 := Nat.le_refl _
  have z4 : (w16 (8 + (b.size : Int))).size ≤ 2 := Nat.le_refl _
  have HL : Hid (∀ W, _) := Lib.hid fun W => layout_6 W
  clear h1 h2 h3 h4 h5 h6 hm
  go_enter Try.func73, Try.ntmps73
  go_wp2_with fail
  obtain ⟨w1, hw1⟩ : ∃ w1, w1 = w.alloc (.cells #[.int .i64 6, .int .i64 sp, .int .i64 dp, .int .i64 q, .int .i64 c, .int .i64 f, .int .i64 n, .string b] 28) := ⟨_, rfl⟩
  have hg1 : w.heap.size < w1.heap.size := by rw [hw1]; simp
  have HB1 := Lib.hid (hw1 ▸ Box.new w #[.int .i64 6, .int .i64 sp, .int .i64 dp, .int .i64 q, .int .i64 c, .int .i64 f, .int .i64 n, .string b] 28 : Box w1 w.heap.size #[.int .i64 6, .int .i64 sp, .int .i64 dp, .int .i64 q, .int .i64 c, .int .i64 f, .int .i64 n, .string b] 28)
  have hb01 : Below w.heap.size w w1 := hw1 ▸ below_new _
  rw [← hw1]
  clear hw1
  refine wp_region_values (by kernel_rfl) (fun W => Below w1.heap.size w1 W) (Vals [.pointer (some ⟨w.heap.size, 1, none⟩), .int .i64 sp, .string (w16 sp), .pointer (some ⟨w.heap.size, 2, none⟩), .int .i64 dp, .string (w16 dp), .string ((w16 sp) ++ (w16 dp)), .string ((w16 sp) ++ (w16 dp))] [])
    57 rfl (by kernel_rfl) (by kernel_rfl) below_drew (eachOp_all ?_) ?_
  · refine ⟨?_, ?_, ?_, ?_, ?_, ?_, ?_, ?_, trivial⟩
    · intro a W hd hS hdep hfree
      have x2 : a.tmps.getD 2 undef = .pointer (some ⟨w.heap.size, 0, none⟩) := hfree 2 rfl
      clear hd hdep hfree
      simp only [Oper.wp, execOp]
      go_simp
      refine Nxt.mk _ rfl (fun _ _ => ?_) hS (fun _ _ h => h)
      rfl
    · intro a W hd hS hdep hfree
      have x6 : a.tmps.getD 6 undef = .pointer (some ⟨w.heap.size, 1, none⟩) := hdep 0 6 rfl rfl
      clear hd hdep hfree
      have c : W.cell? ⟨w.heap.size, 1, none⟩ = some (.int .i64 sp) := (HB1.out.below hS hg1).cell 1 (by simp)
      simp only [Oper.wp, execOp]
      go_simp
      refine Nxt.mk _ rfl (fun _ _ => ?_) hS (fun _ _ h => h)
      rfl
    · intro a W hd hS hdep hfree
      have x7 : a.tmps.getD 7 undef = .int .i64 sp := hdep 1 7 rfl rfl
      clear hd hdep hfree
      simp only [Oper.wp, execOp]
      go_simp
      refine (HWsp.out W).mono ?_
      rintro e W' ⟨rfl, hb⟩
      exact Nxt.mk _ rfl (fun _ _ => rfl) (below_comp hS hb) (fun j u h => Vals.below hb j u h)
    · intro a W hd hS hdep hfree
      have x2 : a.tmps.getD 2 undef = .pointer (some ⟨w.heap.size, 0, none⟩) := hfree 2 rfl
      clear hd hdep hfree
      simp only [Oper.wp, execOp]
      go_simp
      refine Nxt.mk _ rfl (fun _ _ => ?_) hS (fun _ _ h => h)
      rfl
    · intro a W hd hS hdep hfree
      have x9 : a.tmps.getD 9 undef = .pointer (some ⟨w.heap.size, 2, none⟩) := hdep 3 9 rfl rfl
      clear hd hdep hfree
      have c : W.cell? ⟨w.heap.size, 2, none⟩ = some (.int .i64 dp) := (HB1.out.below hS hg1).cell 2 (by simp)
      simp only [Oper.wp, execOp]
      go_simp
      refine Nxt.mk _ rfl (fun _ _ => ?_) hS (fun _ _ h => h)
      rfl
    · intro a W hd hS hdep hfree
      have x10 : a.tmps.getD 10 undef = .int .i64 dp := hdep 4 10 rfl rfl
      clear hd hdep hfree
      simp only [Oper.wp, execOp]
      go_simp
      refine (HWdp.out W).mono ?_
      rintro e W' ⟨rfl, hb⟩
      exact Nxt.mk _ rfl (fun _ _ => rfl) (below_comp hS hb) (fun j u h => Vals.below hb j u h)
    · intro a W hd hS hdep hfree
      have x8 : a.tmps.getD 8 undef = .string (w16 sp) := hdep 2 8 rfl rfl
      have x11 : a.tmps.getD 11 undef = .string (w16 dp) := hdep 5 11 rfl rfl
      clear hd hdep hfree
      have k : ¬ 9223372036854775807 < (w16 sp).size + (w16 dp).size := by (try simp only [ByteArray.size_append]); omega
      have k2 := k
      try simp only [ByteArray.size_append] at k2
      simp only [Oper.wp, execOp]
      go_simp
      refine Nxt.mk _ rfl (fun _ _ => ?_) hS (fun _ _ h => h)
      rfl
    · intro a W hd hS hdep hfree
      have x12 : a.tmps.getD 12 undef = .string ((w16 sp) ++ (w16 dp)) := hdep 6 12 rfl rfl
      clear hd hdep hfree
      simp only [Oper.wp, execOp]
      go_simp
      refine Nxt.mk _ rfl (fun _ _ => ?_) hS (fun _ _ h => h)
      rfl
  intro a W2 hs hd hS2 hdone hrest
  have ea := written_all [.pointer (some ⟨w.heap.size, 1, none⟩), .int .i64 sp, .string (w16 sp), .pointer (some ⟨w.heap.size, 2, none⟩), .int .i64 dp, .string (w16 dp), .string ((w16 sp) ++ (w16 dp)), .string ((w16 sp) ++ (w16 dp))] rfl hs hd hrest hdone
  clear hs hd hdone hrest
  subst ea
  simp only [written, List.map_cons, List.map_nil, List.zip_cons_cons, List.zip_nil_right, putAll]
  simp only [Exit.then, Act.put, List.setIfInBounds_toArray, List.set_cons_zero, List.set_cons_succ]
  have hg2 : w.heap.size < W2.heap.size := Nat.lt_of_lt_of_le hg1 hS2.size
  have HB2 := Lib.hid (HB1.out.below hS2 hg1)
  have hb02 := below_comp hb01 hS2
  have c0 : W2.cell? ⟨w.heap.size, 0, none⟩ = some (.int .i64 6) := HB2.out.cell 0 (by simp)
  clear hS2
  go_wp2_with (go_at_call 63; refine (HL.out _).mono ?_; rintro e w' ⟨rfl, rfl⟩)
  clear c0
  refine wp_region_values (by kernel_rfl) (fun W => Below W2.heap.size W2 W) (Vals [.string ((w16 sp) ++ (w16 dp)), .pointer (some ⟨w.heap.size, 3, none⟩), .int .i64 q, .string (w32 q), .string (((w16 sp) ++ (w16 dp)) ++ (w32 q)), .pointer (some ⟨w.heap.size, 4, none⟩), .int .i64 c, .string (w32 c), .string ((((w16 sp) ++ (w16 dp)) ++ (w32 q)) ++ (w32 c)), .pointer (some ⟨w.heap.size, 5, none⟩), .int .i64 f, .int .u8 (f % 256), undef, .string (two 80 (f % 256)), .string (((((w16 sp) ++ (w16 dp)) ++ (w32 q)) ++ (w32 c)) ++ (two 80 (f % 256))), .pointer (some ⟨w.heap.size, 6, none⟩), .int .i64 n, .string (w16 n), .string ((((((w16 sp) ++ (w16 dp)) ++ (w32 q)) ++ (w32 c)) ++ (two 80 (f % 256))) ++ (w16 n)), .int .i64 m, .string (w16 m), .string (((((((w16 sp) ++ (w16 dp)) ++ (w32 q)) ++ (w32 c)) ++ (two 80 (f % 256))) ++ (w16 n)) ++ (w16 m)), .string (w16 0), .string ((((((((w16 sp) ++ (w16 dp)) ++ (w32 q)) ++ (w32 c)) ++ (two 80 (f % 256))) ++ (w16 n)) ++ (w16 m)) ++ (w16 0)), .pointer (some ⟨w.heap.size, 7, none⟩), .string b, .string (((((((((w16 sp) ++ (w16 dp)) ++ (w32 q)) ++ (w32 c)) ++ (two 80 (f % 256))) ++ (w16 n)) ++ (w16 m)) ++ (w16 0)) ++ b), .string (((((((((w16 sp) ++ (w16 dp)) ++ (w32 q)) ++ (w32 c)) ++ (two 80 (f % 256))) ++ (w16 n)) ++ (w16 m)) ++ (w16 0)) ++ b)] [(12, #[.int .u8 80, .int .u8 (f % 256)], 5, 2)])
    57 rfl (by kernel_rfl) (by kernel_rfl) below_drew (eachOp_all ?_) ?_
  · refine ⟨?_, ?_, ?_, ?_, ?_, ?_, ?_, ?_, ?_, ?_, ?_, ?_, ?_, ?_, ?_, ?_, ?_, ?_, ?_, ?_, ?_, ?_, ?_, ?_, ?_, ?_, ?_, ?_, trivial⟩
    · intro a W hd hS hdep hfree
      have x5 : a.tmps.getD 5 undef = .string ((w16 sp) ++ (w16 dp)) := hfree 5 rfl
      clear hd hdep hfree
      simp only [Oper.wp, execOp]
      go_simp
      refine Nxt.mk _ rfl (fun _ _ => ?_) hS (fun _ _ h => h)
      rfl
    · intro a W hd hS hdep hfree
      have x2 : a.tmps.getD 2 undef = .pointer (some ⟨w.heap.size, 0, none⟩) := hfree 2 rfl
      clear hd hdep hfree
      simp only [Oper.wp, execOp]
      go_simp
      refine Nxt.mk _ rfl (fun _ _ => ?_) hS (fun _ _ h => h)
      rfl
    · intro a W hd hS hdep hfree
      have x31 : a.tmps.getD 31 undef = .pointer (some ⟨w.heap.size, 3, none⟩) := hdep 1 31 rfl rfl
      clear hd hdep hfree
      have c : W.cell? ⟨w.heap.size, 3, none⟩ = some (.int .i64 q) := (HB2.out.below hS hg2).cell 3 (by simp)
      simp only [Oper.wp, execOp]
      go_simp
      refine Nxt.mk _ rfl (fun _ _ => ?_) hS (fun _ _ h => h)
      rfl
    · intro a W hd hS hdep hfree
      have x32 : a.tmps.getD 32 undef = .int .i64 q := hdep 2 32 rfl rfl
      clear hd hdep hfree
      simp only [Oper.wp, execOp]
      go_simp
      refine (HW_q.out W).mono ?_
      rintro e W' ⟨rfl, hb⟩
      exact Nxt.mk _ rfl (fun _ _ => rfl) (below_comp hS hb) (fun j u h => Vals.below hb j u h)
    · intro a W hd hS hdep hfree
      have x30 : a.tmps.getD 30 undef = .string ((w16 sp) ++ (w16 dp)) := hdep 0 30 rfl rfl
      have x33 : a.tmps.getD 33 undef = .string (w32 q) := hdep 3 33 rfl rfl
      clear hd hdep hfree
      have k : ¬ 9223372036854775807 < ((w16 sp) ++ (w16 dp)).size + (w32 q).size := by (try simp only [ByteArray.size_append]); omega
      have k2 := k
      try simp only [ByteArray.size_append] at k2
      simp only [Oper.wp, execOp]
      go_simp
      refine Nxt.mk _ rfl (fun _ _ => ?_) hS (fun _ _ h => h)
      rfl
    · intro a W hd hS hdep hfree
      have x2 : a.tmps.getD 2 undef = .pointer (some ⟨w.heap.size, 0, none⟩) := hfree 2 rfl
      clear hd hdep hfree
      simp only [Oper.wp, execOp]
      go_simp
      refine Nxt.mk _ rfl (fun _ _ => ?_) hS (fun _ _ h => h)
      rfl
    · intro a W hd hS hdep hfree
      have x35 : a.tmps.getD 35 undef = .pointer (some ⟨w.heap.size, 4, none⟩) := hdep 5 35 rfl rfl
      clear hd hdep hfree
      have c : W.cell? ⟨w.heap.size, 4, none⟩ = some (.int .i64 c) := (HB2.out.below hS hg2).cell 4 (by simp)
      simp only [Oper.wp, execOp]
      go_simp
      refine Nxt.mk _ rfl (fun _ _ => ?_) hS (fun _ _ h => h)
      rfl
    · intro a W hd hS hdep hfree
      have x36 : a.tmps.getD 36 undef = .int .i64 c := hdep 6 36 rfl rfl
      clear hd hdep hfree
      simp only [Oper.wp, execOp]
      go_simp
      refine (HW_c.out W).mono ?_
      rintro e W' ⟨rfl, hb⟩
      exact Nxt.mk _ rfl (fun _ _ => rfl) (below_comp hS hb) (fun j u h => Vals.below hb j u h)
    · intro a W hd hS hdep hfree
      have x34 : a.tmps.getD 34 undef = .string (((w16 sp) ++ (w16 dp)) ++ (w32 q)) := hdep 4 34 rfl rfl
      have x37 : a.tmps.getD 37 undef = .string (w32 c) := hdep 7 37 rfl rfl
      clear hd hdep hfree
      have k : ¬ 9223372036854775807 < (((w16 sp) ++ (w16 dp)) ++ (w32 q)).size + (w32 c).size := by (try simp only [ByteArray.size_append]); omega
      have k2 := k
      try simp only [ByteArray.size_append] at k2
      simp only [Oper.wp, execOp]
      go_simp
      refine Nxt.mk _ rfl (fun _ _ => ?_) hS (fun _ _ h => h)
      rfl
    · intro a W hd hS hdep hfree
      have x2 : a.tmps.getD 2 undef = .pointer (some ⟨w.heap.size, 0, none⟩) := hfree 2 rfl
      clear hd hdep hfree
      simp only [Oper.wp, execOp]
      go_simp
      refine Nxt.mk _ rfl (fun _ _ => ?_) hS (fun _ _ h => h)
      rfl
    · intro a W hd hS hdep hfree
      have x39 : a.tmps.getD 39 undef = .pointer (some ⟨w.heap.size, 5, none⟩) := hdep 9 39 rfl rfl
      clear hd hdep hfree
      have c : W.cell? ⟨w.heap.size, 5, none⟩ = some (.int .i64 f) := (HB2.out.below hS hg2).cell 5 (by simp)
      simp only [Oper.wp, execOp]
      go_simp
      refine Nxt.mk _ rfl (fun _ _ => ?_) hS (fun _ _ h => h)
      rfl
    · intro a W hd hS hdep hfree
      have x40 : a.tmps.getD 40 undef = .int .i64 f := hdep 10 40 rfl rfl
      clear hd hdep hfree
      simp only [Oper.wp, execOp]
      go_simp
      refine Nxt.mk _ rfl (fun _ _ => ?_) hS (fun _ _ h => h)
      rfl
    · intro a W hd hS hdep hfree
      have x41 : a.tmps.getD 41 undef = .int .u8 (f % 256) := hdep 11 41 rfl rfl
      have y41 : a.tmps[41]?.getD undef = .int .u8 (f % 256) := by rw [← Array.getD_eq_getD_getElem?]; exact x41
      clear hd hdep hfree
      simp only [Oper.wp, execOp]
      go_simp
      exact Nxt.mk _ rfl (fun _ _ => ⟨W.heap.size, rfl, heap_alloc_new W _, by simp⟩) (below_comp hS (below_new _)) (fun j u h => Vals.below (below_new _) j u h)
    · intro a W hd hS hdep hfree
      obtain ⟨g42, x42, hx42, hl42⟩ : SliceAt W (a.tmps.getD 42 undef) #[.int .u8 80, .int .u8 (f % 256)] 5 2 := hdep 12 42 rfl rfl
      clear hd hdep hfree
      have hcv := HC.out g42 W hx42
      simp only [Oper.wp, execOp]
      go_simp
      refine Nxt.mk _ rfl (fun _ _ => ?_) hS (fun _ _ h => h)
      rfl
    · intro a W hd hS hdep hfree
      have x38 : a.tmps.getD 38 undef = .string ((((w16 sp) ++ (w16 dp)) ++ (w32 q)) ++ (w32 c)) := hdep 8 38 rfl rfl
      have x43 : a.tmps.getD 43 undef = .string (two 80 (f % 256)) := hdep 13 43 rfl rfl
      clear hd hdep hfree
      have k : ¬ 9223372036854775807 < ((((w16 sp) ++ (w16 dp)) ++ (w32 q)) ++ (w32 c)).size + (two 80 (f % 256)).size := by (try simp only [ByteArray.size_append]); omega
      have k2 := k
      try simp only [ByteArray.size_append] at k2
      simp only [Oper.wp, execOp]
      go_simp
      refine Nxt.mk _ rfl (fun _ _ => ?_) hS (fun _ _ h => h)
      rfl
    · intro a W hd hS hdep hfree
      have x2 : a.tmps.getD 2 undef = .pointer (some ⟨w.heap.size, 0, none⟩) := hfree 2 rfl
      clear hd hdep hfree
      simp only [Oper.wp, execOp]
      go_simp
      refine Nxt.mk _ rfl (fun _ _ => ?_) hS (fun _ _ h => h)
      rfl
    · intro a W hd hS hdep hfree
      have x45 : a.tmps.getD 45 undef = .pointer (some ⟨w.heap.size, 6, none⟩) := hdep 15 45 rfl rfl
      clear hd hdep hfree
      have c : W.cell? ⟨w.heap.size, 6, none⟩ = some (.int .i64 n) := (HB2.out.below hS hg2).cell 6 (by simp)
      simp only [Oper.wp, execOp]
      go_simp
      refine Nxt.mk _ rfl (fun _ _ => ?_) hS (fun _ _ h => h)
      rfl
    · intro a W hd hS hdep hfree
      have x46 : a.tmps.getD 46 undef = .int .i64 n := hdep 16 46 rfl rfl
      clear hd hdep hfree
      simp only [Oper.wp, execOp]
      go_simp
      refine (HWn.out W).mono ?_
      rintro e W' ⟨rfl, hb⟩
      exact Nxt.mk _ rfl (fun _ _ => rfl) (below_comp hS hb) (fun j u h => Vals.below hb j u h)
    · intro a W hd hS hdep hfree
      have x44 : a.tmps.getD 44 undef = .string (((((w16 sp) ++ (w16 dp)) ++ (w32 q)) ++ (w32 c)) ++ (two 80 (f % 256))) := hdep 14 44 rfl rfl
      have x47 : a.tmps.getD 47 undef = .string (w16 n) := hdep 17 47 rfl rfl
      clear hd hdep hfree
      have k : ¬ 9223372036854775807 < (((((w16 sp) ++ (w16 dp)) ++ (w32 q)) ++ (w32 c)) ++ (two 80 (f % 256))).size + (w16 n).size := by (try simp only [ByteArray.size_append]); omega
      have k2 := k
      try simp only [ByteArray.size_append] at k2
      simp only [Oper.wp, execOp]
      go_simp
      refine Nxt.mk _ rfl (fun _ _ => ?_) hS (fun _ _ h => h)
      rfl
    · intro a W hd hS hdep hfree
      have x1 : a.tmps.getD 1 undef = .int .i64 m := hfree 1 rfl
      clear hd hdep hfree
      simp only [Oper.wp, execOp]
      go_simp
      refine Nxt.mk _ rfl (fun _ _ => ?_) hS (fun _ _ h => h)
      rfl
    · intro a W hd hS hdep hfree
      have x49 : a.tmps.getD 49 undef = .int .i64 m := hdep 19 49 rfl rfl
      clear hd hdep hfree
      simp only [Oper.wp, execOp]
      go_simp
      refine (HWm.out W).mono ?_
      rintro e W' ⟨rfl, hb⟩
      exact Nxt.mk _ rfl (fun _ _ => rfl) (below_comp hS hb) (fun j u h => Vals.below hb j u h)
    · intro a W hd hS hdep hfree
      have x48 : a.tmps.getD 48 undef = .string ((((((w16 sp) ++ (w16 dp)) ++ (w32 q)) ++ (w32 c)) ++ (two 80 (f % 256))) ++ (w16 n)) := hdep 18 48 rfl rfl
      have x50 : a.tmps.getD 50 undef = .string (w16 m) := hdep 20 50 rfl rfl
      clear hd hdep hfree
      have k : ¬ 9223372036854775807 < ((((((w16 sp) ++ (w16 dp)) ++ (w32 q)) ++ (w32 c)) ++ (two 80 (f % 256))) ++ (w16 n)).size + (w16 m).size := by (try simp only [ByteArray.size_append]); omega
      have k2 := k
      try simp only [ByteArray.size_append] at k2
      simp only [Oper.wp, execOp]
      go_simp
      refine Nxt.mk _ rfl (fun _ _ => ?_) hS (fun _ _ h => h)
      rfl
    · intro a W hd hS hdep hfree
      clear hd hdep hfree
      simp only [Oper.wp, execOp]
      go_simp
      refine (HW0.out W).mono ?_
      rintro e W' ⟨rfl, hb⟩
      exact Nxt.mk _ rfl (fun _ _ => rfl) (below_comp hS hb) (fun j u h => Vals.below hb j u h)
    · intro a W hd hS hdep hfree
      have x51 : a.tmps.getD 51 undef = .string (((((((w16 sp) ++ (w16 dp)) ++ (w32 q)) ++ (w32 c)) ++ (two 80 (f % 256))) ++ (w16 n)) ++ (w16 m)) := hdep 21 51 rfl rfl
      have x52 : a.tmps.getD 52 undef = .string (w16 0) := hdep 22 52 rfl rfl
      clear hd hdep hfree
      have k : ¬ 9223372036854775807 < (((((((w16 sp) ++ (w16 dp)) ++ (w32 q)) ++ (w32 c)) ++ (two 80 (f % 256))) ++ (w16 n)) ++ (w16 m)).size + (w16 0).size := by (try simp only [ByteArray.size_append]); omega
      have k2 := k
      try simp only [ByteArray.size_append] at k2
      simp only [Oper.wp, execOp]
      go_simp
      refine Nxt.mk _ rfl (fun _ _ => ?_) hS (fun _ _ h => h)
      rfl
    · intro a W hd hS hdep hfree
      have x2 : a.tmps.getD 2 undef = .pointer (some ⟨w.heap.size, 0, none⟩) := hfree 2 rfl
      clear hd hdep hfree
      simp only [Oper.wp, execOp]
      go_simp
      refine Nxt.mk _ rfl (fun _ _ => ?_) hS (fun _ _ h => h)
      rfl
    · intro a W hd hS hdep hfree
      have x54 : a.tmps.getD 54 undef = .pointer (some ⟨w.heap.size, 7, none⟩) := hdep 24 54 rfl rfl
      clear hd hdep hfree
      have c : W.cell? ⟨w.heap.size, 7, none⟩ = some (.string b) := (HB2.out.below hS hg2).cell 7 (by simp)
      simp only [Oper.wp, execOp]
      go_simp
      refine Nxt.mk _ rfl (fun _ _ => ?_) hS (fun _ _ h => h)
      rfl
    · intro a W hd hS hdep hfree
      have x53 : a.tmps.getD 53 undef = .string ((((((((w16 sp) ++ (w16 dp)) ++ (w32 q)) ++ (w32 c)) ++ (two 80 (f % 256))) ++ (w16 n)) ++ (w16 m)) ++ (w16 0)) := hdep 23 53 rfl rfl
      have x55 : a.tmps.getD 55 undef = .string b := hdep 25 55 rfl rfl
      clear hd hdep hfree
      have k : ¬ 9223372036854775807 < ((((((((w16 sp) ++ (w16 dp)) ++ (w32 q)) ++ (w32 c)) ++ (two 80 (f % 256))) ++ (w16 n)) ++ (w16 m)) ++ (w16 0)).size + b.size := by (try simp only [ByteArray.size_append]); omega
      have k2 := k
      try simp only [ByteArray.size_append] at k2
      simp only [Oper.wp, execOp]
      go_simp
      refine Nxt.mk _ rfl (fun _ _ => ?_) hS (fun _ _ h => h)
      rfl
    · intro a W hd hS hdep hfree
      have x56 : a.tmps.getD 56 undef = .string (((((((((w16 sp) ++ (w16 dp)) ++ (w32 q)) ++ (w32 c)) ++ (two 80 (f % 256))) ++ (w16 n)) ++ (w16 m)) ++ (w16 0)) ++ b) := hdep 26 56 rfl rfl
      clear hd hdep hfree
      simp only [Oper.wp, execOp]
      go_simp
      refine Nxt.mk _ rfl (fun _ _ => ?_) hS (fun _ _ h => h)
      rfl
  intro a W3 hs hd hS3 hdone hrest
  obtain ⟨u42, hu42⟩ : ∃ u, a.tmps.getD 42 undef = u := ⟨_, rfl⟩
  have ea := written_all [.string ((w16 sp) ++ (w16 dp)), .pointer (some ⟨w.heap.size, 3, none⟩), .int .i64 q, .string (w32 q), .string (((w16 sp) ++ (w16 dp)) ++ (w32 q)), .pointer (some ⟨w.heap.size, 4, none⟩), .int .i64 c, .string (w32 c), .string ((((w16 sp) ++ (w16 dp)) ++ (w32 q)) ++ (w32 c)), .pointer (some ⟨w.heap.size, 5, none⟩), .int .i64 f, .int .u8 (f % 256), u42, .string (two 80 (f % 256)), .string (((((w16 sp) ++ (w16 dp)) ++ (w32 q)) ++ (w32 c)) ++ (two 80 (f % 256))), .pointer (some ⟨w.heap.size, 6, none⟩), .int .i64 n, .string (w16 n), .string ((((((w16 sp) ++ (w16 dp)) ++ (w32 q)) ++ (w32 c)) ++ (two 80 (f % 256))) ++ (w16 n)), .int .i64 m, .string (w16 m), .string (((((((w16 sp) ++ (w16 dp)) ++ (w32 q)) ++ (w32 c)) ++ (two 80 (f % 256))) ++ (w16 n)) ++ (w16 m)), .string (w16 0), .string ((((((((w16 sp) ++ (w16 dp)) ++ (w32 q)) ++ (w32 c)) ++ (two 80 (f % 256))) ++ (w16 n)) ++ (w16 m)) ++ (w16 0)), .pointer (some ⟨w.heap.size, 7, none⟩), .string b, .string (((((((((w16 sp) ++ (w16 dp)) ++ (w32 q)) ++ (w32 c)) ++ (two 80 (f % 256))) ++ (w16 n)) ++ (w16 m)) ++ (w16 0)) ++ b), .string (((((((((w16 sp) ++ (w16 dp)) ++ (w32 q)) ++ (w32 c)) ++ (two 80 (f % 256))) ++ (w16 n)) ++ (w16 m)) ++ (w16 0)) ++ b)] rfl hs hd hrest (fun j d hj => by
    have h := hdone j d hj
    match j, hj, h with
    | 0, _, h => exact h
    | 1, _, h => exact h
    | 2, _, h => exact h
    | 3, _, h => exact h
    | 4, _, h => exact h
    | 5, _, h => exact h
    | 6, _, h => exact h
    | 7, _, h => exact h
    | 8, _, h => exact h
    | 9, _, h => exact h
    | 10, _, h => exact h
    | 11, _, h => exact h
    | 12, hj, _ => exact (Option.some.inj hj) ▸ hu42
    | 13, _, h => exact h
    | 14, _, h => exact h
    | 15, _, h => exact h
    | 16, _, h => exact h
    | 17, _, h => exact h
    | 18, _, h => exact h
    | 19, _, h => exact h
    | 20, _, h => exact h
    | 21, _, h => exact h
    | 22, _, h => exact h
    | 23, _, h => exact h
    | 24, _, h => exact h
    | 25, _, h => exact h
    | 26, _, h => exact h
    | 27, _, h => exact h
    | n + 28, hj, _ => exact absurd (dstOf_lt hj) (by simp))
  clear hu42
  clear hs hd hdone hrest
  subst ea
  simp only [written, List.map_cons, List.map_nil, List.zip_cons_cons, List.zip_nil_right, putAll]
  simp only [Exit.then, Act.put, List.setIfInBounds_toArray, List.set_cons_zero, List.set_cons_succ]
  go_wp2
  go_ret
  exact ⟨rfl, below_comp hb02 hS3⟩

end Go.Proofs.Ytkknfcnajgolfaa
