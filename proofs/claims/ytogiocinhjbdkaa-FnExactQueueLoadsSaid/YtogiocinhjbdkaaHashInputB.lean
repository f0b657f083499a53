/- HashInput of both sides. -/
import Derived.Test.YtogiocinhjbdkaaKit
import Derived.Test.YtogiocinhjbdkaaPktMath
import Derived.Test.YtogiocinhjbdkaaWordsImpl
import Derived.Test.YtogiocinhjbdkaaWordsAnySpec
import Derived.Test.YtogiocinhjbdkaaRegion
import Derived.Deep.QuietTactic
import Derived.BigQuiet
namespace Go.Proofs.Ytogiocinhjbdkaa
open Go.RowKit
set_option linter.unusedSimpArgs false
set_option linter.unusedVariables false

def FlowM.input (f : FlowM) : ByteArray := word32V f.sip ++ word32V f.dip ++ word16V f.sport ++ word16V f.dport

theorem w16V_size (v : Int) : (word16V v).size ≤ 2 := by unfold word16V; split <;> first | exact Nat.le_refl _ | exact Nat.zero_le _
theorem w32V_size (v : Int) : (word32V v).size ≤ 4 := by unfold word32V; split <;> first | exact Nat.le_refl _ | exact Nat.zero_le _

set_option maxHeartbeats 4000000 in
set_option maxRecDepth 100000 in
theorem spec_hashinput (f : FlowM) (w : World) :
    Calls Try.prog 179 #[f.val] w fun r w' => r = .returned (.string f.input) ∧ Below w.heap.size w w' := by
  obtain ⟨fk, fa, fb, fc, fd⟩ := f
  obtain ⟨R, HR⟩ : ∃ R, Hid (R = FlowM.input ⟨fk, fa, fb, fc, fd⟩) := ⟨_, Lib.hid rfl⟩
  rw [← HR.out]
  unfold FlowM.val
  dsimp only
  have z1 := w32V_size fa
  have z2 := w32V_size fb
  have z3 := w16V_size fc
  have z4 := w16V_size fd
  go_enter Try.func179, Try.ntmps179
  go_wp2_with fail
  obtain ⟨w1, hw1⟩ : ∃ w1, w1 = w.alloc (.cells #[.int .i64 fk, .int .i64 fa, .int .i64 fb, .int .i64 fc, .int .i64 fd] 151) := ⟨_, rfl⟩
  have hb1 : Below w.heap.size w w1 := hw1 ▸ below_new _
  have HB1 : Hid (Box w1 w.heap.size #[.int .i64 fk, .int .i64 fa, .int .i64 fb, .int .i64 fc, .int .i64 fd] 151) := Lib.hid (hw1 ▸ Box.new w #[.int .i64 fk, .int .i64 fa, .int .i64 fb, .int .i64 fc, .int .i64 fd] 151)
  have hg1 : w.heap.size < w1.heap.size := by rw [hw1]; simp
  rw [← hw1]
  clear hw1
  refine wp_region_values (by kernel_rfl) (fun W => Below w1.heap.size w1 W) (Vals [.pointer (some ⟨w.heap.size, 1, none⟩), .int .i64 fa, .string (word32V fa), .pointer (some ⟨w.heap.size, 2, none⟩), .int .i64 fb, .string (word32V fb), .string ((word32V fa) ++ (word32V fb)), .pointer (some ⟨w.heap.size, 3, none⟩), .int .i64 fc, .string (word16V fc), .string (((word32V fa) ++ (word32V fb)) ++ (word16V fc)), .pointer (some ⟨w.heap.size, 4, none⟩), .int .i64 fd, .string (word16V fd), .string ((((word32V fa) ++ (word32V fb)) ++ (word16V fc)) ++ (word16V fd)), .string ((((word32V fa) ++ (word32V fb)) ++ (word16V fc)) ++ (word16V fd))] [])
    18 rfl (by kernel_rfl) (by kernel_rfl) below_drew (eachOp_all ?_) ?_
  · refine ⟨?_, ?_, ?_, ?_, ?_, ?_, ?_, ?_, ?_, ?_, ?_, ?_, ?_, ?_, ?_, ?_, trivial⟩
    · intro a W hd hS hdep hfree
      have x1 : a.tmps.getD 1 undef = .pointer (some ⟨w.heap.size, 0, none⟩) := hfree 1 rfl
      clear hd hdep hfree
      simp only [Oper.wp, execOp]
      go_simp
      refine Nxt.mk _ rfl (fun _ _ => ?_) hS (fun _ _ h => h)
      rfl
    · intro a W hd hS hdep hfree
      have x3 : a.tmps.getD 3 undef = .pointer (some ⟨w.heap.size, 1, none⟩) := hdep 0 3 rfl rfl
      clear hd hdep hfree
      have c : W.cell? ⟨w.heap.size, 1, none⟩ = some (.int .i64 fa) := (HB1.out.below hS hg1).cell 1 (by simp)
      simp only [Oper.wp, execOp]
      go_simp
      refine Nxt.mk _ rfl (fun _ _ => ?_) hS (fun _ _ h => h)
      rfl
    · intro a W hd hS hdep hfree
      have x4 : a.tmps.getD 4 undef = .int .i64 fa := hdep 1 4 rfl rfl
      clear hd hdep hfree
      simp only [Oper.wp, execOp]
      go_simp
      refine (spec_word32 fa W).mono ?_
      rintro e W' ⟨rfl, hb⟩
      exact Nxt.mk _ rfl (fun _ _ => rfl) (below_comp hS hb) (fun j u h => Vals.below hb j u h)
    · intro a W hd hS hdep hfree
      have x1 : a.tmps.getD 1 undef = .pointer (some ⟨w.heap.size, 0, none⟩) := hfree 1 rfl
      clear hd hdep hfree
      simp only [Oper.wp, execOp]
      go_simp
      refine Nxt.mk _ rfl (fun _ _ => ?_) hS (fun _ _ h => h)
      rfl
    · intro a W hd hS hdep hfree
      have x6 : a.tmps.getD 6 undef = .pointer (some ⟨w.heap.size, 2, none⟩) := hdep 3 6 rfl rfl
      clear hd hdep hfree
      have c : W.cell? ⟨w.heap.size, 2, none⟩ = some (.int .i64 fb) := (HB1.out.below hS hg1).cell 2 (by simp)
      simp only [Oper.wp, execOp]
      go_simp
      refine Nxt.mk _ rfl (fun _ _ => ?_) hS (fun _ _ h => h)
      rfl
    · intro a W hd hS hdep hfree
      have x7 : a.tmps.getD 7 undef = .int .i64 fb := hdep 4 7 rfl rfl
      clear hd hdep hfree
      simp only [Oper.wp, execOp]
      go_simp
      refine (spec_word32 fb W).mono ?_
      rintro e W' ⟨rfl, hb⟩
      exact Nxt.mk _ rfl (fun _ _ => rfl) (below_comp hS hb) (fun j u h => Vals.below hb j u h)
    · intro a W hd hS hdep hfree
      have x5 : a.tmps.getD 5 undef = .string (word32V fa) := hdep 2 5 rfl rfl
      have x8 : a.tmps.getD 8 undef = .string (word32V fb) := hdep 5 8 rfl rfl
      clear hd hdep hfree
      have k : ¬ 9223372036854775807 < (word32V fa).size + (word32V fb).size := by (try simp only [ByteArray.size_append]); omega
      have k2 := k
      try simp only [ByteArray.size_append] at k2
      simp only [Oper.wp, execOp]
      go_simp
      refine Nxt.mk _ rfl (fun _ _ => ?_) hS (fun _ _ h => h)
      rfl
    · intro a W hd hS hdep hfree
      have x1 : a.tmps.getD 1 undef = .pointer (some ⟨w.heap.size, 0, none⟩) := hfree 1 rfl
      clear hd hdep hfree
      simp only [Oper.wp, execOp]
      go_simp
      refine Nxt.mk _ rfl (fun _ _ => ?_) hS (fun _ _ h => h)
      rfl
    · intro a W hd hS hdep hfree
      have x10 : a.tmps.getD 10 undef = .pointer (some ⟨w.heap.size, 3, none⟩) := hdep 7 10 rfl rfl
      clear hd hdep hfree
      have c : W.cell? ⟨w.heap.size, 3, none⟩ = some (.int .i64 fc) := (HB1.out.below hS hg1).cell 3 (by simp)
      simp only [Oper.wp, execOp]
      go_simp
      refine Nxt.mk _ rfl (fun _ _ => ?_) hS (fun _ _ h => h)
      rfl
    · intro a W hd hS hdep hfree
      have x11 : a.tmps.getD 11 undef = .int .i64 fc := hdep 8 11 rfl rfl
      clear hd hdep hfree
      simp only [Oper.wp, execOp]
      go_simp
      refine (spec_word16 fc W).mono ?_
      rintro e W' ⟨rfl, hb⟩
      exact Nxt.mk _ rfl (fun _ _ => rfl) (below_comp hS hb) (fun j u h => Vals.below hb j u h)
    · intro a W hd hS hdep hfree
      have x9 : a.tmps.getD 9 undef = .string ((word32V fa) ++ (word32V fb)) := hdep 6 9 rfl rfl
      have x12 : a.tmps.getD 12 undef = .string (word16V fc) := hdep 9 12 rfl rfl
      clear hd hdep hfree
      have k : ¬ 9223372036854775807 < ((word32V fa) ++ (word32V fb)).size + (word16V fc).size := by (try simp only [ByteArray.size_append]); omega
      have k2 := k
      try simp only [ByteArray.size_append] at k2
      simp only [Oper.wp, execOp]
      go_simp
      refine Nxt.mk _ rfl (fun _ _ => ?_) hS (fun _ _ h => h)
      rfl
    · intro a W hd hS hdep hfree
      have x1 : a.tmps.getD 1 undef = .pointer (some ⟨w.heap.size, 0, none⟩) := hfree 1 rfl
      clear hd hdep hfree
      simp only [Oper.wp, execOp]
      go_simp
      refine Nxt.mk _ rfl (fun _ _ => ?_) hS (fun _ _ h => h)
      rfl
    · intro a W hd hS hdep hfree
      have x14 : a.tmps.getD 14 undef = .pointer (some ⟨w.heap.size, 4, none⟩) := hdep 11 14 rfl rfl
      clear hd hdep hfree
      have c : W.cell? ⟨w.heap.size, 4, none⟩ = some (.int .i64 fd) := (HB1.out.below hS hg1).cell 4 (by simp)
      simp only [Oper.wp, execOp]
      go_simp
      refine Nxt.mk _ rfl (fun _ _ => ?_) hS (fun _ _ h => h)
      rfl
    · intro a W hd hS hdep hfree
      have x15 : a.tmps.getD 15 undef = .int .i64 fd := hdep 12 15 rfl rfl
      clear hd hdep hfree
      simp only [Oper.wp, execOp]
      go_simp
      refine (spec_word16 fd W).mono ?_
      rintro e W' ⟨rfl, hb⟩
      exact Nxt.mk _ rfl (fun _ _ => rfl) (below_comp hS hb) (fun j u h => Vals.below hb j u h)
    · intro a W hd hS hdep hfree
      have x13 : a.tmps.getD 13 undef = .string (((word32V fa) ++ (word32V fb)) ++ (word16V fc)) := hdep 10 13 rfl rfl
      have x16 : a.tmps.getD 16 undef = .string (word16V fd) := hdep 13 16 rfl rfl
      clear hd hdep hfree
      have k : ¬ 9223372036854775807 < (((word32V fa) ++ (word32V fb)) ++ (word16V fc)).size + (word16V fd).size := by (try simp only [ByteArray.size_append]); omega
      have k2 := k
      try simp only [ByteArray.size_append] at k2
      simp only [Oper.wp, execOp]
      go_simp
      refine Nxt.mk _ rfl (fun _ _ => ?_) hS (fun _ _ h => h)
      rfl
    · intro a W hd hS hdep hfree
      have x17 : a.tmps.getD 17 undef = .string ((((word32V fa) ++ (word32V fb)) ++ (word16V fc)) ++ (word16V fd)) := hdep 14 17 rfl rfl
      clear hd hdep hfree
      simp only [Oper.wp, execOp]
      go_simp
      refine Nxt.mk _ rfl (fun _ _ => ?_) hS (fun _ _ h => h)
      rfl
  intro a W2 hs hd hS2 hdone hrest
  have ea := written_all [.pointer (some ⟨w.heap.size, 1, none⟩), .int .i64 fa, .string (word32V fa), .pointer (some ⟨w.heap.size, 2, none⟩), .int .i64 fb, .string (word32V fb), .string ((word32V fa) ++ (word32V fb)), .pointer (some ⟨w.heap.size, 3, none⟩), .int .i64 fc, .string (word16V fc), .string (((word32V fa) ++ (word32V fb)) ++ (word16V fc)), .pointer (some ⟨w.heap.size, 4, none⟩), .int .i64 fd, .string (word16V fd), .string ((((word32V fa) ++ (word32V fb)) ++ (word16V fc)) ++ (word16V fd)), .string ((((word32V fa) ++ (word32V fb)) ++ (word16V fc)) ++ (word16V fd))] rfl hs hd hrest hdone
  clear hs hd hdone hrest
  subst ea
  simp only [written, List.map_cons, List.map_nil, List.zip_cons_cons, List.zip_nil_right, putAll]
  simp only [Exit.then, Act.put, List.setIfInBounds_toArray, List.set_cons_zero, List.set_cons_succ]
  rw [show ((((word32V fa) ++ (word32V fb)) ++ (word16V fc)) ++ (word16V fd)) = R from HR.out.symm]
  go_wp2
  go_ret
  exact ⟨rfl, below_comp hb1 hS2⟩

set_option maxHeartbeats 4000000 in
set_option maxRecDepth 100000 in
theorem impl_hashinput (f : FlowM) (w : World) :
    Calls Try.prog 181 #[f.val] w fun r w' => r = .returned (.string f.input) ∧ Below w.heap.size w w' := by
  obtain ⟨fk, fa, fb, fc, fd⟩ := f
  obtain ⟨R, HR⟩ : ∃ R, Hid (R = FlowM.input ⟨fk, fa, fb, fc, fd⟩) := ⟨_, Lib.hid rfl⟩
  rw [← HR.out]
  unfold FlowM.val
  dsimp only
  have z1 := w32V_size fa
  have z2 := w32V_size fb
  have z3 := w16V_size fc
  have z4 := w16V_size fd
  go_enter Try.func181, Try.ntmps181
  go_wp2_with fail
  obtain ⟨w1, hw1⟩ : ∃ w1, w1 = w.alloc (.cells #[.int .i64 fk, .int .i64 fa, .int .i64 fb, .int .i64 fc, .int .i64 fd] 151) := ⟨_, rfl⟩
  have hb1 : Below w.heap.size w w1 := hw1 ▸ below_new _
  have HB1 : Hid (Box w1 w.heap.size #[.int .i64 fk, .int .i64 fa, .int .i64 fb, .int .i64 fc, .int .i64 fd] 151) := Lib.hid (hw1 ▸ Box.new w #[.int .i64 fk, .int .i64 fa, .int .i64 fb, .int .i64 fc, .int .i64 fd] 151)
  have hg1 : w.heap.size < w1.heap.size := by rw [hw1]; simp
  rw [← hw1]
  clear hw1
  refine wp_region_values (by kernel_rfl) (fun W => Below w1.heap.size w1 W) (Vals [.pointer (some ⟨w.heap.size, 1, none⟩), .int .i64 fa, .string (word32V fa), .pointer (some ⟨w.heap.size, 2, none⟩), .int .i64 fb, .string (word32V fb), .string ((word32V fa) ++ (word32V fb)), .pointer (some ⟨w.heap.size, 3, none⟩), .int .i64 fc, .string (word16V fc), .string (((word32V fa) ++ (word32V fb)) ++ (word16V fc)), .pointer (some ⟨w.heap.size, 4, none⟩), .int .i64 fd, .string (word16V fd), .string ((((word32V fa) ++ (word32V fb)) ++ (word16V fc)) ++ (word16V fd)), .string ((((word32V fa) ++ (word32V fb)) ++ (word16V fc)) ++ (word16V fd))] [])
    18 rfl (by kernel_rfl) (by kernel_rfl) below_drew (eachOp_all ?_) ?_
  · refine ⟨?_, ?_, ?_, ?_, ?_, ?_, ?_, ?_, ?_, ?_, ?_, ?_, ?_, ?_, ?_, ?_, trivial⟩
    · intro a W hd hS hdep hfree
      have x1 : a.tmps.getD 1 undef = .pointer (some ⟨w.heap.size, 0, none⟩) := hfree 1 rfl
      clear hd hdep hfree
      simp only [Oper.wp, execOp]
      go_simp
      refine Nxt.mk _ rfl (fun _ _ => ?_) hS (fun _ _ h => h)
      rfl
    · intro a W hd hS hdep hfree
      have x3 : a.tmps.getD 3 undef = .pointer (some ⟨w.heap.size, 1, none⟩) := hdep 0 3 rfl rfl
      clear hd hdep hfree
      have c : W.cell? ⟨w.heap.size, 1, none⟩ = some (.int .i64 fa) := (HB1.out.below hS hg1).cell 1 (by simp)
      simp only [Oper.wp, execOp]
      go_simp
      refine Nxt.mk _ rfl (fun _ _ => ?_) hS (fun _ _ h => h)
      rfl
    · intro a W hd hS hdep hfree
      have x4 : a.tmps.getD 4 undef = .int .i64 fa := hdep 1 4 rfl rfl
      clear hd hdep hfree
      simp only [Oper.wp, execOp]
      go_simp
      refine (impl_word32 fa W).mono ?_
      rintro e W' ⟨rfl, hb⟩
      exact Nxt.mk _ rfl (fun _ _ => rfl) (below_comp hS hb) (fun j u h => Vals.below hb j u h)
    · intro a W hd hS hdep hfree
      have x1 : a.tmps.getD 1 undef = .pointer (some ⟨w.heap.size, 0, none⟩) := hfree 1 rfl
      clear hd hdep hfree
      simp only [Oper.wp, execOp]
      go_simp
      refine Nxt.mk _ rfl (fun _ _ => ?_) hS (fun _ _ h => h)
      rfl
    · intro a W hd hS hdep hfree
      have x6 : a.tmps.getD 6 undef = .pointer (some ⟨w.heap.size, 2, none⟩) := hdep 3 6 rfl rfl
      clear hd hdep hfree
      have c : W.cell? ⟨w.heap.size, 2, none⟩ = some (.int .i64 fb) := (HB1.out.below hS hg1).cell 2 (by simp)
      simp only [Oper.wp, execOp]
      go_simp
      refine Nxt.mk _ rfl (fun _ _ => ?_) hS (fun _ _ h => h)
      rfl
    · intro a W hd hS hdep hfree
      have x7 : a.tmps.getD 7 undef = .int .i64 fb := hdep 4 7 rfl rfl
      clear hd hdep hfree
      simp only [Oper.wp, execOp]
      go_simp
      refine (impl_word32 fb W).mono ?_
      rintro e W' ⟨rfl, hb⟩
      exact Nxt.mk _ rfl (fun _ _ => rfl) (below_comp hS hb) (fun j u h => Vals.below hb j u h)
    · intro a W hd hS hdep hfree
      have x5 : a.tmps.getD 5 undef = .string (word32V fa) := hdep 2 5 rfl rfl
      have x8 : a.tmps.getD 8 undef = .string (word32V fb) := hdep 5 8 rfl rfl
      clear hd hdep hfree
      have k : ¬ 9223372036854775807 < (word32V fa).size + (word32V fb).size := by (try simp only [ByteArray.size_append]); omega
      have k2 := k
      try simp only [ByteArray.size_append] at k2
      simp only [Oper.wp, execOp]
      go_simp
      refine Nxt.mk _ rfl (fun _ _ => ?_) hS (fun _ _ h => h)
      rfl
    · intro a W hd hS hdep hfree
      have x1 : a.tmps.getD 1 undef = .pointer (some ⟨w.heap.size, 0, none⟩) := hfree 1 rfl
      clear hd hdep hfree
      simp only [Oper.wp, execOp]
      go_simp
      refine Nxt.mk _ rfl (fun _ _ => ?_) hS (fun _ _ h => h)
      rfl
    · intro a W hd hS hdep hfree
      have x10 : a.tmps.getD 10 undef = .pointer (some ⟨w.heap.size, 3, none⟩) := hdep 7 10 rfl rfl
      clear hd hdep hfree
      have c : W.cell? ⟨w.heap.size, 3, none⟩ = some (.int .i64 fc) := (HB1.out.below hS hg1).cell 3 (by simp)
      simp only [Oper.wp, execOp]
      go_simp
      refine Nxt.mk _ rfl (fun _ _ => ?_) hS (fun _ _ h => h)
      rfl
    · intro a W hd hS hdep hfree
      have x11 : a.tmps.getD 11 undef = .int .i64 fc := hdep 8 11 rfl rfl
      clear hd hdep hfree
      simp only [Oper.wp, execOp]
      go_simp
      refine (impl_word16 fc W).mono ?_
      rintro e W' ⟨rfl, hb⟩
      exact Nxt.mk _ rfl (fun _ _ => rfl) (below_comp hS hb) (fun j u h => Vals.below hb j u h)
    · intro a W hd hS hdep hfree
      have x9 : a.tmps.getD 9 undef = .string ((word32V fa) ++ (word32V fb)) := hdep 6 9 rfl rfl
      have x12 : a.tmps.getD 12 undef = .string (word16V fc) := hdep 9 12 rfl rfl
      clear hd hdep hfree
      have k : ¬ 9223372036854775807 < ((word32V fa) ++ (word32V fb)).size + (word16V fc).size := by (try simp only [ByteArray.size_append]); omega
      have k2 := k
      try simp only [ByteArray.size_append] at k2
      simp only [Oper.wp, execOp]
      go_simp
      refine Nxt.mk _ rfl (fun _ _ => ?_) hS (fun _ _ h => h)
      rfl
    · intro a W hd hS hdep hfree
      have x1 : a.tmps.getD 1 undef = .pointer (some ⟨w.heap.size, 0, none⟩) := hfree 1 rfl
      clear hd hdep hfree
      simp only [Oper.wp, execOp]
      go_simp
      refine Nxt.mk _ rfl (fun _ _ => ?_) hS (fun _ _ h => h)
      rfl
    · intro a W hd hS hdep hfree
      have x14 : a.tmps.getD 14 undef = .pointer (some ⟨w.heap.size, 4, none⟩) := hdep 11 14 rfl rfl
      clear hd hdep hfree
      have c : W.cell? ⟨w.heap.size, 4, none⟩ = some (.int .i64 fd) := (HB1.out.below hS hg1).cell 4 (by simp)
      simp only [Oper.wp, execOp]
      go_simp
      refine Nxt.mk _ rfl (fun _ _ => ?_) hS (fun _ _ h => h)
      rfl
    · intro a W hd hS hdep hfree
      have x15 : a.tmps.getD 15 undef = .int .i64 fd := hdep 12 15 rfl rfl
      clear hd hdep hfree
      simp only [Oper.wp, execOp]
      go_simp
      refine (impl_word16 fd W).mono ?_
      rintro e W' ⟨rfl, hb⟩
      exact Nxt.mk _ rfl (fun _ _ => rfl) (below_comp hS hb) (fun j u h => Vals.below hb j u h)
    · intro a W hd hS hdep hfree
      have x13 : a.tmps.getD 13 undef = .string (((word32V fa) ++ (word32V fb)) ++ (word16V fc)) := hdep 10 13 rfl rfl
      have x16 : a.tmps.getD 16 undef = .string (word16V fd) := hdep 13 16 rfl rfl
      clear hd hdep hfree
      have k : ¬ 9223372036854775807 < (((word32V fa) ++ (word32V fb)) ++ (word16V fc)).size + (word16V fd).size := by (try simp only [ByteArray.size_append]); omega
      have k2 := k
      try simp only [ByteArray.size_append] at k2
      simp only [Oper.wp, execOp]
      go_simp
      refine Nxt.mk _ rfl (fun _ _ => ?_) hS (fun _ _ h => h)
      rfl
    · intro a W hd hS hdep hfree
      have x17 : a.tmps.getD 17 undef = .string ((((word32V fa) ++ (word32V fb)) ++ (word16V fc)) ++ (word16V fd)) := hdep 14 17 rfl rfl
      clear hd hdep hfree
      simp only [Oper.wp, execOp]
      go_simp
      refine Nxt.mk _ rfl (fun _ _ => ?_) hS (fun _ _ h => h)
      rfl
  intro a W2 hs hd hS2 hdone hrest
  have ea := written_all [.pointer (some ⟨w.heap.size, 1, none⟩), .int .i64 fa, .string (word32V fa), .pointer (some ⟨w.heap.size, 2, none⟩), .int .i64 fb, .string (word32V fb), .string ((word32V fa) ++ (word32V fb)), .pointer (some ⟨w.heap.size, 3, none⟩), .int .i64 fc, .string (word16V fc), .string (((word32V fa) ++ (word32V fb)) ++ (word16V fc)), .pointer (some ⟨w.heap.size, 4, none⟩), .int .i64 fd, .string (word16V fd), .string ((((word32V fa) ++ (word32V fb)) ++ (word16V fc)) ++ (word16V fd)), .string ((((word32V fa) ++ (word32V fb)) ++ (word16V fc)) ++ (word16V fd))] rfl hs hd hrest hdone
  clear hs hd hdone hrest
  subst ea
  simp only [written, List.map_cons, List.map_nil, List.zip_cons_cons, List.zip_nil_right, putAll]
  simp only [Exit.then, Act.put, List.setIfInBounds_toArray, List.set_cons_zero, List.set_cons_succ]
  rw [show ((((word32V fa) ++ (word32V fb)) ++ (word16V fc)) ++ (word16V fd)) = R from HR.out.symm]
  go_wp2
  go_ret
  exact ⟨rfl, below_comp hb1 hS2⟩

end Go.Proofs.Ytogiocinhjbdkaa
