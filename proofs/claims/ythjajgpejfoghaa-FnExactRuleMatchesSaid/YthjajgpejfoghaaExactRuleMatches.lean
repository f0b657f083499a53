/- At every argument RuleMatches answers as the model does: the law FnExactRuleMatches returns true for every input, and its arguments read as before. No condition. -/
import Derived.Test.YthjajgpejfoghaaMatchB
import Derived.Test.YthjajgpejfoghaaOpenRule
import Derived.Test.YthjajgpejfoghaaToRule
import Derived.Test.YthjajgpejfoghaaOpenPacket
import Derived.Test.YthjajgpejfoghaaLawPacket
import Derived.Deep.DeepCutAuto
import Derived.StillTailTactics
import Derived.OpenShut
import Derived.ShutString
import Derived.ChangeOld
namespace Go.Proofs.Ythjajgpejfoghaa.fnExactRuleMatches
open Go.ChangeShapes Go.WideShapes Go.ChangeAt Go.RowKit
open Go.ChangeMaps (open_string shut_string)
set_option linter.unusedVariables false

theorem own : ownKnob Try.prog.godebug = none := by kernel_rfl
theorem laidOut : laidOutB Try.prog = true := by kernel_rfl

set_option linter.unusedSimpArgs false
set_option maxHeartbeats 8000000 in
set_option maxRecDepth 100000 in
theorem walk (w : World) (a0 : RuleM) (w0 : a0.Wf) (a1 : PktM) (w1 : a1.Wf) :
    Calls Try.prog 10 #[a0.val, a1.val] w fun e w' => e = .returned (.bool true) ∧ Below w.heap.size w w' := by
  obtain ⟨z0, hz0⟩ : ∃ z, z = a1.seg.body.size := ⟨_, rfl⟩
  by_cases hs0 : 1048576 < (z0 : Int)
  · have hq : 1048576 - (z0 : Int) < 0 := by omega
    have HZ0 := Lib.hid (fun (W : World) => sz_packet a1 (1048576) W w1 (by omega))
    rw [← hz0] at HZ0
    simp only [if_pos hs0] at HZ0
    clear hz0
    obtain ⟨y0_0, y0_1, y0_2, y0_3, y0_4, y0_5, y0_6, y0_7, y0_8⟩ := a0
    obtain ⟨y1_0, y1_1, y1_2, y1_3, y1_4, y1_5, y1_6, y1_7, ⟨y1_8, y1_9, y1_10, y1_11, y1_12, y1_13, y1_14, y1_15⟩⟩ := a1
    (try unfold RuleM.val at *)
    (try unfold PktM.val at *)
    (try unfold SegM.val at *)
    try dsimp only at *
    go_enter Try.func10, Try.ntmps10
    go_wp2_with fail
    refine (HZ0.out _).mono ?_
    rintro e w1 ⟨rfl, hb8⟩
    have hzz0 := hb8.size
    (try simp at hzz0)
    (have hl0 : w.heap.size < w1.heap.size := by omega)
    (have hl1 : w.heap.size + 1 < w1.heap.size := by omega)
    (apply with_box hb8 (g := w.heap.size)); (focus (repeat (first | (with_reducible exact HP0.out) | (with_reducible exact HP1.out) | (with_reducible exact HP2.out) | (with_reducible exact HP3.out) | (with_reducible exact HP4.out) | (with_reducible exact HP5.out) | (with_reducible exact HP6.out) | (with_reducible exact HP7.out) | (with_reducible exact HP8.out) | (with_reducible exact HP9.out) | (with_reducible exact HP10.out) | (with_reducible exact HP11.out) | (with_reducible exact HQ0.out) | (with_reducible exact HQ1.out) | (with_reducible exact HQ2.out) | (with_reducible exact HQ3.out) | (with_reducible apply Box.new) | (with_reducible apply Box.newAt; simp; done) | (with_reducible apply Box.set) | (with_reducible apply Box.skip; omega) | (with_reducible apply Box.alloc) | (with_reducible apply Box.drew) | (with_reducible apply Box.row) | (with_reducible apply Box.skipRow; omega)))); intro hx0
    (try simp only [List.setIfInBounds_toArray, List.set_cons_zero, List.set_cons_succ] at hx0)
    (apply with_box hb8 (g := w.heap.size + 1)); (focus (repeat (first | (with_reducible exact HP0.out) | (with_reducible exact HP1.out) | (with_reducible exact HP2.out) | (with_reducible exact HP3.out) | (with_reducible exact HP4.out) | (with_reducible exact HP5.out) | (with_reducible exact HP6.out) | (with_reducible exact HP7.out) | (with_reducible exact HP8.out) | (with_reducible exact HP9.out) | (with_reducible exact HP10.out) | (with_reducible exact HP11.out) | (with_reducible exact HQ0.out) | (with_reducible exact HQ1.out) | (with_reducible exact HQ2.out) | (with_reducible exact HQ3.out) | (with_reducible apply Box.new) | (with_reducible apply Box.newAt; simp; done) | (with_reducible apply Box.set) | (with_reducible apply Box.skip; omega) | (with_reducible apply Box.alloc) | (with_reducible apply Box.drew) | (with_reducible apply Box.row) | (with_reducible apply Box.skipRow; omega)))); intro hx1
    (try simp only [List.setIfInBounds_toArray, List.set_cons_zero, List.set_cons_succ] at hx1)
    have HP0 := Lib.hid hx0
    clear hx0
    have HP1 := Lib.hid hx1
    clear hx1
    have HB8 := Lib.hid hb8
    clear hb8
    have HB9 := Lib.hid (show Below w.heap.size w w1 by repeat (first | ((with_reducible refine Below.setCell ?_ ?_ _); rotate_left; first | omega | (dsimp only; omega) | (simp; done) | (simp; omega)) | ((with_reducible refine below_setRow ?_ ?_ _); rotate_left; first | omega | (dsimp only; omega) | (simp; done) | (simp; omega)) | with_reducible exact Below.refl _ _ | with_reducible exact below_new _ | with_reducible exact below_drew | with_reducible exact HB9.out | with_reducible exact HB8.out | (with_reducible refine below_touch ?_ HTT.out ?_; rotate_left; (exact fun k hk => by have := HTL.out k hk; omega)) | (with_reducible apply below_comp; rotate_left; first | with_reducible exact HB9.out | with_reducible exact HB8.out | with_reducible assumption | with_reducible exact below_new _ | with_reducible exact below_drew)))
    go_wp2
    go_ret
    refine ⟨rfl, ?_⟩
    repeat (first | ((with_reducible refine Below.setCell ?_ ?_ _); rotate_left; first | omega | (dsimp only; omega) | (simp; done) | (simp; omega)) | ((with_reducible refine below_setRow ?_ ?_ _); rotate_left; first | omega | (dsimp only; omega) | (simp; done) | (simp; omega)) | with_reducible exact Below.refl _ _ | with_reducible exact below_new _ | with_reducible exact below_drew | with_reducible exact HB9.out | with_reducible exact HB8.out | (with_reducible refine below_touch ?_ HTT.out ?_; rotate_left; (exact fun k hk => by have := HTL.out k hk; omega)) | (with_reducible apply below_comp; rotate_left; first | with_reducible exact HB9.out | with_reducible exact HB8.out | with_reducible assumption | with_reducible exact below_new _ | with_reducible exact below_drew))
  have hp0 : ¬ 1048576 - (z0 : Int) < 0 := by omega
  have HS := Lib.hid fun (W : World) => spec_matches a0 a1 W
  have HI := Lib.hid fun (W : World) => impl_matches a0 a1 W
  have HT0 := Lib.hid fun W => to_rule a0 W
  have HT1 := Lib.hid fun W => to_packet a1 W
  have HZ0 := Lib.hid (fun (W : World) => sz_packet a1 (1048576) W w1 (by omega))
  rw [← hz0] at HZ0
  simp only [if_neg hs0] at HZ0
  clear hz0
  generalize a0.Matches a1 = B0 at HS HI
  obtain ⟨y0_0, y0_1, y0_2, y0_3, y0_4, y0_5, y0_6, y0_7, y0_8⟩ := a0
  obtain ⟨y1_0, y1_1, y1_2, y1_3, y1_4, y1_5, y1_6, y1_7, ⟨y1_8, y1_9, y1_10, y1_11, y1_12, y1_13, y1_14, y1_15⟩⟩ := a1
  (try unfold RuleM.val at *)
  (try unfold PktM.val at *)
  (try unfold SegM.val at *)
  try dsimp only at *
  go_enter Try.func10, Try.ntmps10
  go_wp2_with (first | (refine wpList_load_row rfl 57 _ rfl (w.heap.size) rfl 57 #[.int .i64 y0_0, .int .i64 y0_1, .int .i64 y0_2, .int .i64 y0_3, .int .i64 y0_4, .int .i64 y0_5, .int .i64 y0_6, .int .i64 y0_7, .int .i64 y0_8] (0, 0) _ HP0.out Try.underlying57 rfl (by kernel_rfl) ?_) | (refine wpList_load_row rfl 36 _ rfl (w.heap.size + 1) rfl 36 #[.int .i64 y1_0, .int .i64 y1_1, .int .i64 y1_2, .int .i64 y1_3, .int .i64 y1_4, .int .i64 y1_5, .int .i64 y1_6, .int .i64 y1_7, .int .i64 y1_8, .int .i64 y1_9, .int .i64 y1_10, .int .i64 y1_11, .int .i64 y1_12, .int .i64 y1_13, .int .i64 y1_14, .string y1_15] (0, 0) _ HP1.out Try.underlying36 rfl (by kernel_rfl) ?_))
  refine (HZ0.out _).mono ?_
  rintro e w1 ⟨rfl, hb8⟩
  have hzz1 := hb8.size
  (try simp at hzz1)
  (have hl0 : w.heap.size < w1.heap.size := by omega)
  (have hl1 : w.heap.size + 1 < w1.heap.size := by omega)
  (apply with_box hb8 (g := w.heap.size)); (focus (repeat (first | (with_reducible exact HP0.out) | (with_reducible exact HP1.out) | (with_reducible exact HP2.out) | (with_reducible exact HP3.out) | (with_reducible exact HP4.out) | (with_reducible exact HP5.out) | (with_reducible exact HP6.out) | (with_reducible exact HP7.out) | (with_reducible exact HP8.out) | (with_reducible exact HP9.out) | (with_reducible exact HP10.out) | (with_reducible exact HP11.out) | (with_reducible exact HQ0.out) | (with_reducible exact HQ1.out) | (with_reducible exact HQ2.out) | (with_reducible exact HQ3.out) | (with_reducible apply Box.new) | (with_reducible apply Box.newAt; simp; done) | (with_reducible apply Box.set) | (with_reducible apply Box.skip; omega) | (with_reducible apply Box.alloc) | (with_reducible apply Box.drew) | (with_reducible apply Box.row) | (with_reducible apply Box.skipRow; omega)))); intro hx0
  (try simp only [List.setIfInBounds_toArray, List.set_cons_zero, List.set_cons_succ] at hx0)
  (apply with_box hb8 (g := w.heap.size + 1)); (focus (repeat (first | (with_reducible exact HP0.out) | (with_reducible exact HP1.out) | (with_reducible exact HP2.out) | (with_reducible exact HP3.out) | (with_reducible exact HP4.out) | (with_reducible exact HP5.out) | (with_reducible exact HP6.out) | (with_reducible exact HP7.out) | (with_reducible exact HP8.out) | (with_reducible exact HP9.out) | (with_reducible exact HP10.out) | (with_reducible exact HP11.out) | (with_reducible exact HQ0.out) | (with_reducible exact HQ1.out) | (with_reducible exact HQ2.out) | (with_reducible exact HQ3.out) | (with_reducible apply Box.new) | (with_reducible apply Box.newAt; simp; done) | (with_reducible apply Box.set) | (with_reducible apply Box.skip; omega) | (with_reducible apply Box.alloc) | (with_reducible apply Box.drew) | (with_reducible apply Box.row) | (with_reducible apply Box.skipRow; omega)))); intro hx1
  (try simp only [List.setIfInBounds_toArray, List.set_cons_zero, List.set_cons_succ] at hx1)
  have HP0 := Lib.hid hx0
  clear hx0
  have HP1 := Lib.hid hx1
  clear hx1
  have HB8 := Lib.hid hb8
  clear hb8
  have HB9 := Lib.hid (show Below w.heap.size w w1 by repeat (first | ((with_reducible refine Below.setCell ?_ ?_ _); rotate_left; first | omega | (dsimp only; omega) | (simp; done) | (simp; omega)) | ((with_reducible refine below_setRow ?_ ?_ _); rotate_left; first | omega | (dsimp only; omega) | (simp; done) | (simp; omega)) | with_reducible exact Below.refl _ _ | with_reducible exact below_new _ | with_reducible exact below_drew | with_reducible exact HB9.out | with_reducible exact HB8.out | (with_reducible refine below_touch ?_ HTT.out ?_; rotate_left; (exact fun k hk => by have := HTL.out k hk; omega)) | (with_reducible apply below_comp; rotate_left; first | with_reducible exact HB9.out | with_reducible exact HB8.out | with_reducible assumption | with_reducible exact below_new _ | with_reducible exact below_drew)))
  clear HB8
  go_upto_region 5 with (first | (refine wpList_load_row rfl 57 _ rfl (w.heap.size) rfl 57 #[.int .i64 y0_0, .int .i64 y0_1, .int .i64 y0_2, .int .i64 y0_3, .int .i64 y0_4, .int .i64 y0_5, .int .i64 y0_6, .int .i64 y0_7, .int .i64 y0_8] (0, 0) _ HP0.out Try.underlying57 rfl (by kernel_rfl) ?_) | (refine wpList_load_row rfl 36 _ rfl (w.heap.size + 1) rfl 36 #[.int .i64 y1_0, .int .i64 y1_1, .int .i64 y1_2, .int .i64 y1_3, .int .i64 y1_4, .int .i64 y1_5, .int .i64 y1_6, .int .i64 y1_7, .int .i64 y1_8, .int .i64 y1_9, .int .i64 y1_10, .int .i64 y1_11, .int .i64 y1_12, .int .i64 y1_13, .int .i64 y1_14, .string y1_15] (0, 0) _ HP1.out Try.underlying36 rfl (by kernel_rfl) ?_))
  obtain ⟨V, hV⟩ : ∃ V, Hid (V = Vals [.agg #[.int .i64 y0_0, .int .i64 y0_1, .int .i64 y0_2, .int .i64 y0_3, .int .i64 y0_4, .int .i64 y0_5, .int .i64 y0_6, .int .i64 y0_7, .int .i64 y0_8], .agg #[.int .i64 y0_0, .int .i64 y0_1, .int .i64 y0_2, .int .i64 y0_3, .int .i64 y0_4, .int .i64 y0_5, .int .i64 y0_6, .int .i64 y0_7, .int .i64 y0_8], .agg #[.int .i64 y1_0, .int .i64 y1_1, .int .i64 y1_2, .int .i64 y1_3, .int .i64 y1_4, .int .i64 y1_5, .int .i64 y1_6, .int .i64 y1_7, .int .i64 y1_8, .int .i64 y1_9, .int .i64 y1_10, .int .i64 y1_11, .int .i64 y1_12, .int .i64 y1_13, .int .i64 y1_14, .string y1_15], .agg #[.int .i64 y1_0, .int .i64 y1_1, .int .i64 y1_2, .int .i64 y1_3, .int .i64 y1_4, .int .i64 y1_5, .int .i64 y1_6, .int .i64 y1_7, .int .i64 y1_8, .int .i64 y1_9, .int .i64 y1_10, .int .i64 y1_11, .int .i64 y1_12, .int .i64 y1_13, .int .i64 y1_14, .string y1_15], .bool B0, .bool B0] []) := ⟨_, Lib.hid rfl⟩
  refine wp_region_valuesG (by kernel_rfl) (fun W => Below w1.heap.size w1 W) V
    26 rfl (by kernel_rfl) (by kernel_rfl) below_drew (eachOp_all ?_) ?_
  · refine ⟨?_, ?_, ?_, ?_, ?_, ?_, trivial⟩
    · intro a W hd hS hdep hfree
      have x2 : a.tmps.getD 2 undef = .pointer (some ⟨w.heap.size, 0, none⟩) := hfree 2 (by kernel_rfl)
      clear hd hdep hfree
      refine .inl ⟨wanted_free rfl, ?_⟩
      have c0 : W.cell? ⟨w.heap.size, 0, none⟩ = some (.int .i64 y0_0) := (HP0.out.below hS hl0).cell 0 (by simp)
      have c1 : W.cell? ⟨w.heap.size, 1, none⟩ = some (.int .i64 y0_1) := (HP0.out.below hS hl0).cell 1 (by simp)
      have c2 : W.cell? ⟨w.heap.size, 2, none⟩ = some (.int .i64 y0_2) := (HP0.out.below hS hl0).cell 2 (by simp)
      have c3 : W.cell? ⟨w.heap.size, 3, none⟩ = some (.int .i64 y0_3) := (HP0.out.below hS hl0).cell 3 (by simp)
      have c4 : W.cell? ⟨w.heap.size, 4, none⟩ = some (.int .i64 y0_4) := (HP0.out.below hS hl0).cell 4 (by simp)
      have c5 : W.cell? ⟨w.heap.size, 5, none⟩ = some (.int .i64 y0_5) := (HP0.out.below hS hl0).cell 5 (by simp)
      have c6 : W.cell? ⟨w.heap.size, 6, none⟩ = some (.int .i64 y0_6) := (HP0.out.below hS hl0).cell 6 (by simp)
      have c7 : W.cell? ⟨w.heap.size, 7, none⟩ = some (.int .i64 y0_7) := (HP0.out.below hS hl0).cell 7 (by simp)
      have c8 : W.cell? ⟨w.heap.size, 8, none⟩ = some (.int .i64 y0_8) := (HP0.out.below hS hl0).cell 8 (by simp)
      simp only [Oper.wp, execOp]
      go_simp
      refine Nxt.mk _ rfl (fun _ _ => ?_) hS (fun _ _ h => h)
      (rw [hV.out]; rfl)
    · intro a W hd hS hdep hfree
      have x13 : a.tmps.getD 13 undef = .agg #[.int .i64 y0_0, .int .i64 y0_1, .int .i64 y0_2, .int .i64 y0_3, .int .i64 y0_4, .int .i64 y0_5, .int .i64 y0_6, .int .i64 y0_7, .int .i64 y0_8] := by have h := hdep 0 13 (by kernel_rfl) rfl; rw [hV.out] at h; exact h
      clear hd hdep hfree
      refine .inl ⟨wanted_free rfl, ?_⟩
      simp only [Oper.wp, execOp]
      go_simp
      refine ((HT0.out W)).mono ?_
      rintro e W' ⟨rfl, hb⟩
      exact Nxt.mk _ rfl (fun _ _ => by (rw [hV.out]; rfl)) (below_comp hS hb) (fun j u h => by rw [hV.out] at h ⊢; exact Vals.below hb j u h)
    · intro a W hd hS hdep hfree
      have x3 : a.tmps.getD 3 undef = .pointer (some ⟨w.heap.size + 1, 0, none⟩) := hfree 3 (by kernel_rfl)
      clear hd hdep hfree
      refine .inl ⟨wanted_free rfl, ?_⟩
      have c0 : W.cell? ⟨w.heap.size + 1, 0, none⟩ = some (.int .i64 y1_0) := (HP1.out.below hS hl1).cell 0 (by simp)
      have c1 : W.cell? ⟨w.heap.size + 1, 1, none⟩ = some (.int .i64 y1_1) := (HP1.out.below hS hl1).cell 1 (by simp)
      have c2 : W.cell? ⟨w.heap.size + 1, 2, none⟩ = some (.int .i64 y1_2) := (HP1.out.below hS hl1).cell 2 (by simp)
      have c3 : W.cell? ⟨w.heap.size + 1, 3, none⟩ = some (.int .i64 y1_3) := (HP1.out.below hS hl1).cell 3 (by simp)
      have c4 : W.cell? ⟨w.heap.size + 1, 4, none⟩ = some (.int .i64 y1_4) := (HP1.out.below hS hl1).cell 4 (by simp)
      have c5 : W.cell? ⟨w.heap.size + 1, 5, none⟩ = some (.int .i64 y1_5) := (HP1.out.below hS hl1).cell 5 (by simp)
      have c6 : W.cell? ⟨w.heap.size + 1, 6, none⟩ = some (.int .i64 y1_6) := (HP1.out.below hS hl1).cell 6 (by simp)
      have c7 : W.cell? ⟨w.heap.size + 1, 7, none⟩ = some (.int .i64 y1_7) := (HP1.out.below hS hl1).cell 7 (by simp)
      have c8 : W.cell? ⟨w.heap.size + 1, 8, none⟩ = some (.int .i64 y1_8) := (HP1.out.below hS hl1).cell 8 (by simp)
      have c9 : W.cell? ⟨w.heap.size + 1, 9, none⟩ = some (.int .i64 y1_9) := (HP1.out.below hS hl1).cell 9 (by simp)
      have c10 : W.cell? ⟨w.heap.size + 1, 10, none⟩ = some (.int .i64 y1_10) := (HP1.out.below hS hl1).cell 10 (by simp)
      have c11 : W.cell? ⟨w.heap.size + 1, 11, none⟩ = some (.int .i64 y1_11) := (HP1.out.below hS hl1).cell 11 (by simp)
      have c12 : W.cell? ⟨w.heap.size + 1, 12, none⟩ = some (.int .i64 y1_12) := (HP1.out.below hS hl1).cell 12 (by simp)
      have c13 : W.cell? ⟨w.heap.size + 1, 13, none⟩ = some (.int .i64 y1_13) := (HP1.out.below hS hl1).cell 13 (by simp)
      have c14 : W.cell? ⟨w.heap.size + 1, 14, none⟩ = some (.int .i64 y1_14) := (HP1.out.below hS hl1).cell 14 (by simp)
      have c15 : W.cell? ⟨w.heap.size + 1, 15, none⟩ = some (.string y1_15) := (HP1.out.below hS hl1).cell 15 (by simp)
      simp only [Oper.wp, execOp]
      go_simp
      refine Nxt.mk _ rfl (fun _ _ => ?_) hS (fun _ _ h => h)
      (rw [hV.out]; rfl)
    · intro a W hd hS hdep hfree
      have x15 : a.tmps.getD 15 undef = .agg #[.int .i64 y1_0, .int .i64 y1_1, .int .i64 y1_2, .int .i64 y1_3, .int .i64 y1_4, .int .i64 y1_5, .int .i64 y1_6, .int .i64 y1_7, .int .i64 y1_8, .int .i64 y1_9, .int .i64 y1_10, .int .i64 y1_11, .int .i64 y1_12, .int .i64 y1_13, .int .i64 y1_14, .string y1_15] := by have h := hdep 2 15 (by kernel_rfl) rfl; rw [hV.out] at h; exact h
      clear hd hdep hfree
      refine .inl ⟨wanted_free rfl, ?_⟩
      simp only [Oper.wp, execOp]
      go_simp
      refine ((HT1.out W)).mono ?_
      rintro e W' ⟨rfl, hb⟩
      exact Nxt.mk _ rfl (fun _ _ => by (rw [hV.out]; rfl)) (below_comp hS hb) (fun j u h => by rw [hV.out] at h ⊢; exact Vals.below hb j u h)
    · intro a W hd hS hdep hfree
      have x14 : a.tmps.getD 14 undef = .agg #[.int .i64 y0_0, .int .i64 y0_1, .int .i64 y0_2, .int .i64 y0_3, .int .i64 y0_4, .int .i64 y0_5, .int .i64 y0_6, .int .i64 y0_7, .int .i64 y0_8] := by have h := hdep 1 14 (by kernel_rfl) rfl; rw [hV.out] at h; exact h
      have x16 : a.tmps.getD 16 undef = .agg #[.int .i64 y1_0, .int .i64 y1_1, .int .i64 y1_2, .int .i64 y1_3, .int .i64 y1_4, .int .i64 y1_5, .int .i64 y1_6, .int .i64 y1_7, .int .i64 y1_8, .int .i64 y1_9, .int .i64 y1_10, .int .i64 y1_11, .int .i64 y1_12, .int .i64 y1_13, .int .i64 y1_14, .string y1_15] := by have h := hdep 3 16 (by kernel_rfl) rfl; rw [hV.out] at h; exact h
      clear hd hdep hfree
      refine .inl ⟨wanted_free rfl, ?_⟩
      simp only [Oper.wp, execOp]
      go_simp
      refine ((HS.out W)).mono ?_
      rintro e W' ⟨rfl, hb⟩
      exact Nxt.mk _ rfl (fun _ _ => by (rw [hV.out]; rfl)) (below_comp hS hb) (fun j u h => by rw [hV.out] at h ⊢; exact Vals.below hb j u h)
    · intro a W hd hS hdep hfree
      have x17 : a.tmps.getD 17 undef = .bool B0 := by have h := hdep 4 17 (by kernel_rfl) rfl; rw [hV.out] at h; exact h
      clear hd hdep hfree
      refine .inl ⟨wanted_free rfl, ?_⟩
      simp only [Oper.wp, execOp]
      go_simp
      refine Nxt.mk _ rfl (fun _ _ => ?_) hS (fun _ _ h => h)
      (rw [hV.out]; rfl)
  intro a w2 hs hd hS2 hdone hrest
  have ea := written_all [.agg #[.int .i64 y0_0, .int .i64 y0_1, .int .i64 y0_2, .int .i64 y0_3, .int .i64 y0_4, .int .i64 y0_5, .int .i64 y0_6, .int .i64 y0_7, .int .i64 y0_8], .agg #[.int .i64 y0_0, .int .i64 y0_1, .int .i64 y0_2, .int .i64 y0_3, .int .i64 y0_4, .int .i64 y0_5, .int .i64 y0_6, .int .i64 y0_7, .int .i64 y0_8], .agg #[.int .i64 y1_0, .int .i64 y1_1, .int .i64 y1_2, .int .i64 y1_3, .int .i64 y1_4, .int .i64 y1_5, .int .i64 y1_6, .int .i64 y1_7, .int .i64 y1_8, .int .i64 y1_9, .int .i64 y1_10, .int .i64 y1_11, .int .i64 y1_12, .int .i64 y1_13, .int .i64 y1_14, .string y1_15], .agg #[.int .i64 y1_0, .int .i64 y1_1, .int .i64 y1_2, .int .i64 y1_3, .int .i64 y1_4, .int .i64 y1_5, .int .i64 y1_6, .int .i64 y1_7, .int .i64 y1_8, .int .i64 y1_9, .int .i64 y1_10, .int .i64 y1_11, .int .i64 y1_12, .int .i64 y1_13, .int .i64 y1_14, .string y1_15], .bool B0, .bool B0] rfl hs hd hrest (fun j d hj => by have h := hdone j d hj; rw [hV.out] at h; exact h)
  clear hs hd hdone hrest hV V
  subst ea
  simp only [written, List.append_eq, Array.toList_append, List.append_toArray, List.map_append, List.cons_append, List.nil_append, List.map_cons, List.map_nil, List.zip_cons_cons, List.zip_nil_right, putAll]
  simp only [Exit.then, Act.put, List.setIfInBounds_toArray, List.set_cons_zero, List.set_cons_succ]
  replace HP0 := Lib.hid (HP0.out.below hS2 hl0)
  replace HP1 := Lib.hid (HP1.out.below hS2 hl1)
  replace HB9 := Lib.hid (below_comp HB9.out hS2)
  clear hS2 hl0 hl1
  have hl0 := HP0.out.lt
  have hl1 := HP1.out.lt
  go_upto_region 6 with (first | (refine wpList_load_row rfl 57 _ rfl (w.heap.size) rfl 57 #[.int .i64 y0_0, .int .i64 y0_1, .int .i64 y0_2, .int .i64 y0_3, .int .i64 y0_4, .int .i64 y0_5, .int .i64 y0_6, .int .i64 y0_7, .int .i64 y0_8] (0, 0) _ HP0.out Try.underlying57 rfl (by kernel_rfl) ?_) | (refine wpList_load_row rfl 36 _ rfl (w.heap.size + 1) rfl 36 #[.int .i64 y1_0, .int .i64 y1_1, .int .i64 y1_2, .int .i64 y1_3, .int .i64 y1_4, .int .i64 y1_5, .int .i64 y1_6, .int .i64 y1_7, .int .i64 y1_8, .int .i64 y1_9, .int .i64 y1_10, .int .i64 y1_11, .int .i64 y1_12, .int .i64 y1_13, .int .i64 y1_14, .string y1_15] (0, 0) _ HP1.out Try.underlying36 rfl (by kernel_rfl) ?_))
  obtain ⟨V, hV⟩ : ∃ V, Hid (V = Vals [.agg #[.int .i64 y0_0, .int .i64 y0_1, .int .i64 y0_2, .int .i64 y0_3, .int .i64 y0_4, .int .i64 y0_5, .int .i64 y0_6, .int .i64 y0_7, .int .i64 y0_8], .agg #[.int .i64 y0_0, .int .i64 y0_1, .int .i64 y0_2, .int .i64 y0_3, .int .i64 y0_4, .int .i64 y0_5, .int .i64 y0_6, .int .i64 y0_7, .int .i64 y0_8], .agg #[.int .i64 y1_0, .int .i64 y1_1, .int .i64 y1_2, .int .i64 y1_3, .int .i64 y1_4, .int .i64 y1_5, .int .i64 y1_6, .int .i64 y1_7, .int .i64 y1_8, .int .i64 y1_9, .int .i64 y1_10, .int .i64 y1_11, .int .i64 y1_12, .int .i64 y1_13, .int .i64 y1_14, .string y1_15], .agg #[.int .i64 y1_0, .int .i64 y1_1, .int .i64 y1_2, .int .i64 y1_3, .int .i64 y1_4, .int .i64 y1_5, .int .i64 y1_6, .int .i64 y1_7, .int .i64 y1_8, .int .i64 y1_9, .int .i64 y1_10, .int .i64 y1_11, .int .i64 y1_12, .int .i64 y1_13, .int .i64 y1_14, .string y1_15], .bool B0, .bool B0] []) := ⟨_, Lib.hid rfl⟩
  refine wp_region_valuesG (by kernel_rfl) (fun W => Below w2.heap.size w2 W) V
    26 rfl (by kernel_rfl) (by kernel_rfl) below_drew (eachOp_all ?_) ?_
  · refine ⟨?_, ?_, ?_, ?_, ?_, ?_, trivial⟩
    · intro a W hd hS hdep hfree
      have x2 : a.tmps.getD 2 undef = .pointer (some ⟨w.heap.size, 0, none⟩) := hfree 2 (by kernel_rfl)
      clear hd hdep hfree
      refine .inl ⟨wanted_free rfl, ?_⟩
      have c0 : W.cell? ⟨w.heap.size, 0, none⟩ = some (.int .i64 y0_0) := (HP0.out.below hS hl0).cell 0 (by simp)
      have c1 : W.cell? ⟨w.heap.size, 1, none⟩ = some (.int .i64 y0_1) := (HP0.out.below hS hl0).cell 1 (by simp)
      have c2 : W.cell? ⟨w.heap.size, 2, none⟩ = some (.int .i64 y0_2) := (HP0.out.below hS hl0).cell 2 (by simp)
      have c3 : W.cell? ⟨w.heap.size, 3, none⟩ = some (.int .i64 y0_3) := (HP0.out.below hS hl0).cell 3 (by simp)
      have c4 : W.cell? ⟨w.heap.size, 4, none⟩ = some (.int .i64 y0_4) := (HP0.out.below hS hl0).cell 4 (by simp)
      have c5 : W.cell? ⟨w.heap.size, 5, none⟩ = some (.int .i64 y0_5) := (HP0.out.below hS hl0).cell 5 (by simp)
      have c6 : W.cell? ⟨w.heap.size, 6, none⟩ = some (.int .i64 y0_6) := (HP0.out.below hS hl0).cell 6 (by simp)
      have c7 : W.cell? ⟨w.heap.size, 7, none⟩ = some (.int .i64 y0_7) := (HP0.out.below hS hl0).cell 7 (by simp)
      have c8 : W.cell? ⟨w.heap.size, 8, none⟩ = some (.int .i64 y0_8) := (HP0.out.below hS hl0).cell 8 (by simp)
      simp only [Oper.wp, execOp]
      go_simp
      refine Nxt.mk _ rfl (fun _ _ => ?_) hS (fun _ _ h => h)
      (rw [hV.out]; rfl)
    · intro a W hd hS hdep hfree
      have x18 : a.tmps.getD 18 undef = .agg #[.int .i64 y0_0, .int .i64 y0_1, .int .i64 y0_2, .int .i64 y0_3, .int .i64 y0_4, .int .i64 y0_5, .int .i64 y0_6, .int .i64 y0_7, .int .i64 y0_8] := by have h := hdep 0 18 (by kernel_rfl) rfl; rw [hV.out] at h; exact h
      clear hd hdep hfree
      refine .inl ⟨wanted_free rfl, ?_⟩
      simp only [Oper.wp, execOp]
      go_simp
      refine ((HT0.out W)).mono ?_
      rintro e W' ⟨rfl, hb⟩
      exact Nxt.mk _ rfl (fun _ _ => by (rw [hV.out]; rfl)) (below_comp hS hb) (fun j u h => by rw [hV.out] at h ⊢; exact Vals.below hb j u h)
    · intro a W hd hS hdep hfree
      have x3 : a.tmps.getD 3 undef = .pointer (some ⟨w.heap.size + 1, 0, none⟩) := hfree 3 (by kernel_rfl)
      clear hd hdep hfree
      refine .inl ⟨wanted_free rfl, ?_⟩
      have c0 : W.cell? ⟨w.heap.size + 1, 0, none⟩ = some (.int .i64 y1_0) := (HP1.out.below hS hl1).cell 0 (by simp)
      have c1 : W.cell? ⟨w.heap.size + 1, 1, none⟩ = some (.int .i64 y1_1) := (HP1.out.below hS hl1).cell 1 (by simp)
      have c2 : W.cell? ⟨w.heap.size + 1, 2, none⟩ = some (.int .i64 y1_2) := (HP1.out.below hS hl1).cell 2 (by simp)
      have c3 : W.cell? ⟨w.heap.size + 1, 3, none⟩ = some (.int .i64 y1_3) := (HP1.out.below hS hl1).cell 3 (by simp)
      have c4 : W.cell? ⟨w.heap.size + 1, 4, none⟩ = some (.int .i64 y1_4) := (HP1.out.below hS hl1).cell 4 (by simp)
      have c5 : W.cell? ⟨w.heap.size + 1, 5, none⟩ = some (.int .i64 y1_5) := (HP1.out.below hS hl1).cell 5 (by simp)
      have c6 : W.cell? ⟨w.heap.size + 1, 6, none⟩ = some (.int .i64 y1_6) := (HP1.out.below hS hl1).cell 6 (by simp)
      have c7 : W.cell? ⟨w.heap.size + 1, 7, none⟩ = some (.int .i64 y1_7) := (HP1.out.below hS hl1).cell 7 (by simp)
      have c8 : W.cell? ⟨w.heap.size + 1, 8, none⟩ = some (.int .i64 y1_8) := (HP1.out.below hS hl1).cell 8 (by simp)
      have c9 : W.cell? ⟨w.heap.size + 1, 9, none⟩ = some (.int .i64 y1_9) := (HP1.out.below hS hl1).cell 9 (by simp)
      have c10 : W.cell? ⟨w.heap.size + 1, 10, none⟩ = some (.int .i64 y1_10) := (HP1.out.below hS hl1).cell 10 (by simp)
      have c11 : W.cell? ⟨w.heap.size + 1, 11, none⟩ = some (.int .i64 y1_11) := (HP1.out.below hS hl1).cell 11 (by simp)
      have c12 : W.cell? ⟨w.heap.size + 1, 12, none⟩ = some (.int .i64 y1_12) := (HP1.out.below hS hl1).cell 12 (by simp)
      have c13 : W.cell? ⟨w.heap.size + 1, 13, none⟩ = some (.int .i64 y1_13) := (HP1.out.below hS hl1).cell 13 (by simp)
      have c14 : W.cell? ⟨w.heap.size + 1, 14, none⟩ = some (.int .i64 y1_14) := (HP1.out.below hS hl1).cell 14 (by simp)
      have c15 : W.cell? ⟨w.heap.size + 1, 15, none⟩ = some (.string y1_15) := (HP1.out.below hS hl1).cell 15 (by simp)
      simp only [Oper.wp, execOp]
      go_simp
      refine Nxt.mk _ rfl (fun _ _ => ?_) hS (fun _ _ h => h)
      (rw [hV.out]; rfl)
    · intro a W hd hS hdep hfree
      have x20 : a.tmps.getD 20 undef = .agg #[.int .i64 y1_0, .int .i64 y1_1, .int .i64 y1_2, .int .i64 y1_3, .int .i64 y1_4, .int .i64 y1_5, .int .i64 y1_6, .int .i64 y1_7, .int .i64 y1_8, .int .i64 y1_9, .int .i64 y1_10, .int .i64 y1_11, .int .i64 y1_12, .int .i64 y1_13, .int .i64 y1_14, .string y1_15] := by have h := hdep 2 20 (by kernel_rfl) rfl; rw [hV.out] at h; exact h
      clear hd hdep hfree
      refine .inl ⟨wanted_free rfl, ?_⟩
      simp only [Oper.wp, execOp]
      go_simp
      refine ((HT1.out W)).mono ?_
      rintro e W' ⟨rfl, hb⟩
      exact Nxt.mk _ rfl (fun _ _ => by (rw [hV.out]; rfl)) (below_comp hS hb) (fun j u h => by rw [hV.out] at h ⊢; exact Vals.below hb j u h)
    · intro a W hd hS hdep hfree
      have x19 : a.tmps.getD 19 undef = .agg #[.int .i64 y0_0, .int .i64 y0_1, .int .i64 y0_2, .int .i64 y0_3, .int .i64 y0_4, .int .i64 y0_5, .int .i64 y0_6, .int .i64 y0_7, .int .i64 y0_8] := by have h := hdep 1 19 (by kernel_rfl) rfl; rw [hV.out] at h; exact h
      have x21 : a.tmps.getD 21 undef = .agg #[.int .i64 y1_0, .int .i64 y1_1, .int .i64 y1_2, .int .i64 y1_3, .int .i64 y1_4, .int .i64 y1_5, .int .i64 y1_6, .int .i64 y1_7, .int .i64 y1_8, .int .i64 y1_9, .int .i64 y1_10, .int .i64 y1_11, .int .i64 y1_12, .int .i64 y1_13, .int .i64 y1_14, .string y1_15] := by have h := hdep 3 21 (by kernel_rfl) rfl; rw [hV.out] at h; exact h
      clear hd hdep hfree
      refine .inl ⟨wanted_free rfl, ?_⟩
      simp only [Oper.wp, execOp]
      go_simp
      refine ((HI.out W)).mono ?_
      rintro e W' ⟨rfl, hb⟩
      exact Nxt.mk _ rfl (fun _ _ => by (rw [hV.out]; rfl)) (below_comp hS hb) (fun j u h => by rw [hV.out] at h ⊢; exact Vals.below hb j u h)
    · intro a W hd hS hdep hfree
      have x22 : a.tmps.getD 22 undef = .bool B0 := by have h := hdep 4 22 (by kernel_rfl) rfl; rw [hV.out] at h; exact h
      clear hd hdep hfree
      refine .inl ⟨wanted_free rfl, ?_⟩
      simp only [Oper.wp, execOp]
      go_simp
      refine Nxt.mk _ rfl (fun _ _ => ?_) hS (fun _ _ h => h)
      (rw [hV.out]; rfl)
  intro a w3 hs hd hS3 hdone hrest
  have ea := written_all [.agg #[.int .i64 y0_0, .int .i64 y0_1, .int .i64 y0_2, .int .i64 y0_3, .int .i64 y0_4, .int .i64 y0_5, .int .i64 y0_6, .int .i64 y0_7, .int .i64 y0_8], .agg #[.int .i64 y0_0, .int .i64 y0_1, .int .i64 y0_2, .int .i64 y0_3, .int .i64 y0_4, .int .i64 y0_5, .int .i64 y0_6, .int .i64 y0_7, .int .i64 y0_8], .agg #[.int .i64 y1_0, .int .i64 y1_1, .int .i64 y1_2, .int .i64 y1_3, .int .i64 y1_4, .int .i64 y1_5, .int .i64 y1_6, .int .i64 y1_7, .int .i64 y1_8, .int .i64 y1_9, .int .i64 y1_10, .int .i64 y1_11, .int .i64 y1_12, .int .i64 y1_13, .int .i64 y1_14, .string y1_15], .agg #[.int .i64 y1_0, .int .i64 y1_1, .int .i64 y1_2, .int .i64 y1_3, .int .i64 y1_4, .int .i64 y1_5, .int .i64 y1_6, .int .i64 y1_7, .int .i64 y1_8, .int .i64 y1_9, .int .i64 y1_10, .int .i64 y1_11, .int .i64 y1_12, .int .i64 y1_13, .int .i64 y1_14, .string y1_15], .bool B0, .bool B0] rfl hs hd hrest (fun j d hj => by have h := hdone j d hj; rw [hV.out] at h; exact h)
  clear hs hd hdone hrest hV V
  subst ea
  simp only [written, List.append_eq, Array.toList_append, List.append_toArray, List.map_append, List.cons_append, List.nil_append, List.map_cons, List.map_nil, List.zip_cons_cons, List.zip_nil_right, putAll]
  simp only [Exit.then, Act.put, List.setIfInBounds_toArray, List.set_cons_zero, List.set_cons_succ]
  replace HP0 := Lib.hid (HP0.out.below hS3 hl0)
  replace HP1 := Lib.hid (HP1.out.below hS3 hl1)
  replace HB9 := Lib.hid (below_comp HB9.out hS3)
  clear hS3 hl0 hl1
  have hl0 := HP0.out.lt
  have hl1 := HP1.out.lt
  go_wp2_with (first | (refine wpList_load_row rfl 57 _ rfl (w.heap.size) rfl 57 #[.int .i64 y0_0, .int .i64 y0_1, .int .i64 y0_2, .int .i64 y0_3, .int .i64 y0_4, .int .i64 y0_5, .int .i64 y0_6, .int .i64 y0_7, .int .i64 y0_8] (0, 0) _ HP0.out Try.underlying57 rfl (by kernel_rfl) ?_) | (refine wpList_load_row rfl 36 _ rfl (w.heap.size + 1) rfl 36 #[.int .i64 y1_0, .int .i64 y1_1, .int .i64 y1_2, .int .i64 y1_3, .int .i64 y1_4, .int .i64 y1_5, .int .i64 y1_6, .int .i64 y1_7, .int .i64 y1_8, .int .i64 y1_9, .int .i64 y1_10, .int .i64 y1_11, .int .i64 y1_12, .int .i64 y1_13, .int .i64 y1_14, .string y1_15] (0, 0) _ HP1.out Try.underlying36 rfl (by kernel_rfl) ?_))
  go_ret
  refine ⟨rfl, ?_⟩
  repeat (first | ((with_reducible refine Below.setCell ?_ ?_ _); rotate_left; first | omega | (dsimp only; omega) | (simp; done) | (simp; omega)) | ((with_reducible refine below_setRow ?_ ?_ _); rotate_left; first | omega | (dsimp only; omega) | (simp; done) | (simp; omega)) | with_reducible exact Below.refl _ _ | with_reducible exact below_new _ | with_reducible exact below_drew | with_reducible exact HB9.out | with_reducible exact HB8.out | (with_reducible refine below_touch ?_ HTT.out ?_; rotate_left; (exact fun k hk => by have := HTL.out k hk; omega)) | (with_reducible apply below_comp; rotate_left; first | with_reducible exact HB9.out | with_reducible exact HB8.out | with_reducible assumption | with_reducible exact below_new _ | with_reducible exact below_drew))

set_option maxRecDepth 100000 in
theorem lifted (os : Os) (started : os.Started) (H : Type) (enc : TypeId × Value → H) :
    ReturnsInHanded {} Try.checked os 10 .any (Rows.fnExactRuleMatchesSpec.pre6 enc Try.prog Try.f10 Rows.fnExactRuleMatchesRow.domain false) (Rows.fnExactRuleMatchesSpec.post enc Try.prog Try.f10 false true false false) := by
  refine returnsInHanded_of_change (C := Try.checked) own started (by kernel_rfl) Try.func10
    (ChangeSpec.witness6 (enc := enc) (C := Try.checked) false ⟨#[], #[.agg #[.int .i64 0, .int .i64 0, .int .i64 0, .int .i64 0, .int .i64 0, .int .i64 0, .int .i64 0, .int .i64 0, .int .i64 0], .agg #[.int .i64 0, .int .i64 0, .int .i64 0, .int .i64 0, .int .i64 0, .int .i64 0, .int .i64 0, .int .i64 0, .int .i64 0, .int .i64 0, .int .i64 0, .int .i64 0, .int .i64 0, .int .i64 0, .int .i64 0, .string ByteArray.empty]], []⟩ 8 (by kernel_rfl) (by kernel_rfl) (by kernel_rfl) (by kernel_rfl)) ?_
  intro W base args ds gs before hval0 hW hcnd _
  have hval : ∀ (j : Nat) t v, Try.f10.params[j]? = some t → args[j]? = some v → Value.okWide Try.prog W .any base t v := hval0
  have hW' := hW
  obtain ⟨p, q, hA0, hV, rfl, hfz, hnd⟩ := hW
  have hA : DataW.TrodAll enc Try.prog W 0 (fun _ => true) true Try.f10.params.toList args.toList ds p := hA0
  rw [Try.params10] at hA hval
  obtain ⟨v0, vs0, d0, ds0, p0, q0, hargs, rfl, rfl, h0, r0⟩ := trodAll_cons hA
  obtain ⟨v1, vs1, d1, ds1, p1, q1, rfl, rfl, rfl, h1, r1⟩ := trodAll_cons r0
  obtain ⟨rfl, rfl, rfl⟩ := trodAll_nil r1
  obtain rfl : args = #[v0, v1] := by cases args; simp_all
  obtain ⟨rfl, rfl⟩ := trodVars_none hV
  have lt0 : ∀ x ∈ p0, x.block < W.heap.size := by obtain ⟨m, hm⟩ := h0; exact DataW.trod_lt m _ _ _ hm
  have k0 := h0
  obtain ⟨a0, rfl, w0⟩ := OpRule.opened (hval 0 57 v0 rfl rfl) h0
  have lt1 : ∀ x ∈ p1, x.block < W.heap.size := by obtain ⟨m, hm⟩ := h1; exact DataW.trod_lt m _ _ _ hm
  have k1 := h1
  obtain ⟨a1, rfl, w1⟩ := OpPacket.opened (hval 1 36 v1 rfl rfl) h1
  clear hA0 hval0
  refine (walk W a0 w0 a1 w1).mono fun e W' ⟨he, bel⟩ => ?_
  subst he
  exact ⟨_, rfl, _, _, _, [], _, [], hW', trodAll_mk1 (shut_bool Try.underlying4 _), (trodAll_cons_mk (Below.trod laidOut (by kernel_rfl) (of_decide_eq_true (by kernel_rfl)) k0 bel lt0) (trodAll_cons_mk (Below.trod laidOut (by kernel_rfl) (of_decide_eq_true (by kernel_rfl)) k1 bel lt1) trodAll_mk0)), rfl, bel.frame _, fun h => by cases h⟩

theorem over : Rows.fnExactRuleMatchesRow.holds Try.pinned (OpenSpec.ofChange Rows.fnExactRuleMatchesSpec) :=
  OpenClaim.holds_of_wide 10 Try.f10 rfl rfl rfl rfl rfl rfl rfl ⟨rfl, rfl, rfl, rfl, rfl⟩ rfl rfl rfl rfl rfl (by kernel_rfl) Try.func10 (by kernel_rfl)
    (of_decide_eq_true (by kernel_rfl)) (by unfold Func.isWrapper; first | (rw [if_pos (by decide +kernel)]; kernel_rfl) | (rw [if_neg (by decide +kernel)]; exact ⟨rfl, rfl⟩))
    (fun os started H enc _ => lifted os started H enc)

/-- The statement. -/
theorem proved : Rows.FnExactRuleMatchesSaid := over

end Go.Proofs.Ythjajgpejfoghaa.fnExactRuleMatches
