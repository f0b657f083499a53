/- At every argument RuleCovers answers as the model does: the law FnExactRuleCovers returns true for every input, and its arguments read as before. No condition. -/
import Derived.Test.YtncpnoloamebnabRuleCovB
import Derived.Test.YtncpnoloamebnabToRule
import Derived.Test.YtncpnoloamebnabOpenRule
import Derived.Test.YtncpnoloamebnabRegionS
import Derived.Deep.DeepCutAuto
import Derived.OpenShut
import Derived.ShutString
import Derived.ChangeOld
namespace Go.Proofs.Ytncpnoloamebnab.fnExactRuleCovers
open Go.ChangeShapes Go.WideShapes Go.ChangeAt Go.RowKit
open Go.ChangeMaps (open_string shut_string)
set_option linter.unusedVariables false

theorem own : ownKnob Try.prog.godebug = none := by kernel_rfl
theorem laidOut : laidOutB Try.prog = true := by kernel_rfl

set_option linter.unusedSimpArgs false
set_option maxHeartbeats 4000000 in
set_option maxRecDepth 100000 in
theorem walk (w : World) (a0 : RuleM) (w0 : a0.Wf) (a1 : RuleM) (w1 : a1.Wf) :
    Calls Try.prog 9 #[a0.val, a1.val] w fun e w' => e = .returned (.bool true) ∧ Below w.heap.size w w' := by
  have HT0 : Hid (∀ W, _) := Lib.hid fun W => to_rule a0 W
  have HT1 : Hid (∀ W, _) := Lib.hid fun W => to_rule a1 W
  have HS : Hid (∀ W, _) := Lib.hid fun W => spec_rulecovers a0 a1 W
  have HI : Hid (∀ W, _) := Lib.hid fun W => impl_rulecovers a0 a1 W
  generalize decide (a0.Covers a1) = B at HS HI
  obtain ⟨xPriority0, xKind0, xSrcIp0, xSrcBits0, xFirstPort0, xLastPort0, xVlan0, xAction0, xQueue0⟩ := a0
  obtain ⟨xPriority1, xKind1, xSrcIp1, xSrcBits1, xFirstPort1, xLastPort1, xVlan1, xAction1, xQueue1⟩ := a1
  clear w0 w1
  unfold RuleM.val at *
  dsimp only at *
  go_enter Try.func9, Try.ntmps9
  go_upto_region 1 with fail
  obtain ⟨w1, hw1⟩ : ∃ w1, w1 = (w.alloc (.cells #[.int .i64 xPriority0, .int .i64 xKind0, .int .i64 xSrcIp0, .int .i64 xSrcBits0, .int .i64 xFirstPort0, .int .i64 xLastPort0, .int .i64 xVlan0, .int .i64 xAction0, .int .i64 xQueue0] 38)).alloc (.cells #[.int .i64 xPriority1, .int .i64 xKind1, .int .i64 xSrcIp1, .int .i64 xSrcBits1, .int .i64 xFirstPort1, .int .i64 xLastPort1, .int .i64 xVlan1, .int .i64 xAction1, .int .i64 xQueue1] 38) := ⟨_, rfl⟩
  have hb1 : Below w.heap.size w w1 := hw1 ▸ below_comp (below_new _) (below_new _)
  have HB1 : Hid (Box w1 w.heap.size #[.int .i64 xPriority0, .int .i64 xKind0, .int .i64 xSrcIp0, .int .i64 xSrcBits0, .int .i64 xFirstPort0, .int .i64 xLastPort0, .int .i64 xVlan0, .int .i64 xAction0, .int .i64 xQueue0] 38) := Lib.hid (hw1 ▸ (Box.new w #[.int .i64 xPriority0, .int .i64 xKind0, .int .i64 xSrcIp0, .int .i64 xSrcBits0, .int .i64 xFirstPort0, .int .i64 xLastPort0, .int .i64 xVlan0, .int .i64 xAction0, .int .i64 xQueue0] 38).below (below_new _) (by simp))
  have HB2 : Hid (Box w1 (w.heap.size + 1) #[.int .i64 xPriority1, .int .i64 xKind1, .int .i64 xSrcIp1, .int .i64 xSrcBits1, .int .i64 xFirstPort1, .int .i64 xLastPort1, .int .i64 xVlan1, .int .i64 xAction1, .int .i64 xQueue1] 38) := Lib.hid (by have := Box.new (w.alloc (.cells #[.int .i64 xPriority0, .int .i64 xKind0, .int .i64 xSrcIp0, .int .i64 xSrcBits0, .int .i64 xFirstPort0, .int .i64 xLastPort0, .int .i64 xVlan0, .int .i64 xAction0, .int .i64 xQueue0] 38)) #[.int .i64 xPriority1, .int .i64 xKind1, .int .i64 xSrcIp1, .int .i64 xSrcBits1, .int .i64 xFirstPort1, .int .i64 xLastPort1, .int .i64 xVlan1, .int .i64 xAction1, .int .i64 xQueue1] 38; rw [← hw1] at this; simpa using this)
  have hg1 : w.heap.size < w1.heap.size := by have h := congrArg (fun x => x.heap.size) hw1; simp at h; omega
  have hg2 : w.heap.size + 1 < w1.heap.size := by have h := congrArg (fun x => x.heap.size) hw1; simp at h; omega
  rw [← hw1]
  clear hw1
  obtain ⟨V, hV⟩ : ∃ V, Hid (V = Vals [.agg #[.int .i64 xPriority0, .int .i64 xKind0, .int .i64 xSrcIp0, .int .i64 xSrcBits0, .int .i64 xFirstPort0, .int .i64 xLastPort0, .int .i64 xVlan0, .int .i64 xAction0, .int .i64 xQueue0], .agg #[.int .i64 xPriority0, .int .i64 xKind0, .int .i64 xSrcIp0, .int .i64 xSrcBits0, .int .i64 xFirstPort0, .int .i64 xLastPort0, .int .i64 xVlan0, .int .i64 xAction0, .int .i64 xQueue0], .agg #[.int .i64 xPriority1, .int .i64 xKind1, .int .i64 xSrcIp1, .int .i64 xSrcBits1, .int .i64 xFirstPort1, .int .i64 xLastPort1, .int .i64 xVlan1, .int .i64 xAction1, .int .i64 xQueue1], .agg #[.int .i64 xPriority1, .int .i64 xKind1, .int .i64 xSrcIp1, .int .i64 xSrcBits1, .int .i64 xFirstPort1, .int .i64 xLastPort1, .int .i64 xVlan1, .int .i64 xAction1, .int .i64 xQueue1], .bool B, .bool B] []) := ⟨_, Lib.hid rfl⟩
  refine wp_region_valuesG (by kernel_rfl) (fun W => Below w1.heap.size w1 W) V
    20 rfl (by kernel_rfl) (by kernel_rfl) below_drew (eachOp_all ?_) ?_
  · refine ⟨?_, ?_, ?_, ?_, ?_, ?_, trivial⟩
    · intro a W hd hS hdep hfree
      have x2 : a.tmps.getD 2 undef = .pointer (some ⟨w.heap.size, 0, none⟩) := hfree 2 (by kernel_rfl)
      clear hd hdep hfree
      refine .inl ⟨wanted_free rfl, ?_⟩
      have c0 : W.cell? ⟨w.heap.size, 0, none⟩ = some (.int .i64 xPriority0) := (HB1.out.below hS hg1).cell 0 (by simp)
      have c1 : W.cell? ⟨w.heap.size, 1, none⟩ = some (.int .i64 xKind0) := (HB1.out.below hS hg1).cell 1 (by simp)
      have c2 : W.cell? ⟨w.heap.size, 2, none⟩ = some (.int .i64 xSrcIp0) := (HB1.out.below hS hg1).cell 2 (by simp)
      have c3 : W.cell? ⟨w.heap.size, 3, none⟩ = some (.int .i64 xSrcBits0) := (HB1.out.below hS hg1).cell 3 (by simp)
      have c4 : W.cell? ⟨w.heap.size, 4, none⟩ = some (.int .i64 xFirstPort0) := (HB1.out.below hS hg1).cell 4 (by simp)
      have c5 : W.cell? ⟨w.heap.size, 5, none⟩ = some (.int .i64 xLastPort0) := (HB1.out.below hS hg1).cell 5 (by simp)
      have c6 : W.cell? ⟨w.heap.size, 6, none⟩ = some (.int .i64 xVlan0) := (HB1.out.below hS hg1).cell 6 (by simp)
      have c7 : W.cell? ⟨w.heap.size, 7, none⟩ = some (.int .i64 xAction0) := (HB1.out.below hS hg1).cell 7 (by simp)
      have c8 : W.cell? ⟨w.heap.size, 8, none⟩ = some (.int .i64 xQueue0) := (HB1.out.below hS hg1).cell 8 (by simp)
      simp only [Oper.wp, execOp]
      go_simp
      refine Nxt.mk _ rfl (fun _ _ => ?_) hS (fun _ _ h => h)
      (rw [hV.out]; rfl)
    · intro a W hd hS hdep hfree
      have x7 : a.tmps.getD 7 undef = .agg #[.int .i64 xPriority0, .int .i64 xKind0, .int .i64 xSrcIp0, .int .i64 xSrcBits0, .int .i64 xFirstPort0, .int .i64 xLastPort0, .int .i64 xVlan0, .int .i64 xAction0, .int .i64 xQueue0] := by have h := hdep 0 7 (by kernel_rfl) rfl; rw [hV.out] at h; exact h
      clear hd hdep hfree
      refine .inl ⟨wanted_free rfl, ?_⟩
      simp only [Oper.wp, execOp]
      go_simp
      refine (HT0.out W).mono ?_
      rintro e W' ⟨rfl, hb⟩
      exact Nxt.mk _ rfl (fun _ _ => by (rw [hV.out]; rfl)) (below_comp hS hb) (fun j u h => by rw [hV.out] at h ⊢; exact Vals.below hb j u h)
    · intro a W hd hS hdep hfree
      have x3 : a.tmps.getD 3 undef = .pointer (some ⟨w.heap.size + 1, 0, none⟩) := hfree 3 (by kernel_rfl)
      clear hd hdep hfree
      refine .inl ⟨wanted_free rfl, ?_⟩
      have c0 : W.cell? ⟨w.heap.size + 1, 0, none⟩ = some (.int .i64 xPriority1) := (HB2.out.below hS hg2).cell 0 (by simp)
      have c1 : W.cell? ⟨w.heap.size + 1, 1, none⟩ = some (.int .i64 xKind1) := (HB2.out.below hS hg2).cell 1 (by simp)
      have c2 : W.cell? ⟨w.heap.size + 1, 2, none⟩ = some (.int .i64 xSrcIp1) := (HB2.out.below hS hg2).cell 2 (by simp)
      have c3 : W.cell? ⟨w.heap.size + 1, 3, none⟩ = some (.int .i64 xSrcBits1) := (HB2.out.below hS hg2).cell 3 (by simp)
      have c4 : W.cell? ⟨w.heap.size + 1, 4, none⟩ = some (.int .i64 xFirstPort1) := (HB2.out.below hS hg2).cell 4 (by simp)
      have c5 : W.cell? ⟨w.heap.size + 1, 5, none⟩ = some (.int .i64 xLastPort1) := (HB2.out.below hS hg2).cell 5 (by simp)
      have c6 : W.cell? ⟨w.heap.size + 1, 6, none⟩ = some (.int .i64 xVlan1) := (HB2.out.below hS hg2).cell 6 (by simp)
      have c7 : W.cell? ⟨w.heap.size + 1, 7, none⟩ = some (.int .i64 xAction1) := (HB2.out.below hS hg2).cell 7 (by simp)
      have c8 : W.cell? ⟨w.heap.size + 1, 8, none⟩ = some (.int .i64 xQueue1) := (HB2.out.below hS hg2).cell 8 (by simp)
      simp only [Oper.wp, execOp]
      go_simp
      refine Nxt.mk _ rfl (fun _ _ => ?_) hS (fun _ _ h => h)
      (rw [hV.out]; rfl)
    · intro a W hd hS hdep hfree
      have x9 : a.tmps.getD 9 undef = .agg #[.int .i64 xPriority1, .int .i64 xKind1, .int .i64 xSrcIp1, .int .i64 xSrcBits1, .int .i64 xFirstPort1, .int .i64 xLastPort1, .int .i64 xVlan1, .int .i64 xAction1, .int .i64 xQueue1] := by have h := hdep 2 9 (by kernel_rfl) rfl; rw [hV.out] at h; exact h
      clear hd hdep hfree
      refine .inl ⟨wanted_free rfl, ?_⟩
      simp only [Oper.wp, execOp]
      go_simp
      refine (HT1.out W).mono ?_
      rintro e W' ⟨rfl, hb⟩
      exact Nxt.mk _ rfl (fun _ _ => by (rw [hV.out]; rfl)) (below_comp hS hb) (fun j u h => by rw [hV.out] at h ⊢; exact Vals.below hb j u h)
    · intro a W hd hS hdep hfree
      have x8 : a.tmps.getD 8 undef = .agg #[.int .i64 xPriority0, .int .i64 xKind0, .int .i64 xSrcIp0, .int .i64 xSrcBits0, .int .i64 xFirstPort0, .int .i64 xLastPort0, .int .i64 xVlan0, .int .i64 xAction0, .int .i64 xQueue0] := by have h := hdep 1 8 (by kernel_rfl) rfl; rw [hV.out] at h; exact h
      have x10 : a.tmps.getD 10 undef = .agg #[.int .i64 xPriority1, .int .i64 xKind1, .int .i64 xSrcIp1, .int .i64 xSrcBits1, .int .i64 xFirstPort1, .int .i64 xLastPort1, .int .i64 xVlan1, .int .i64 xAction1, .int .i64 xQueue1] := by have h := hdep 3 10 (by kernel_rfl) rfl; rw [hV.out] at h; exact h
      clear hd hdep hfree
      refine .inl ⟨wanted_free rfl, ?_⟩
      simp only [Oper.wp, execOp]
      go_simp
      refine (HS.out W).mono ?_
      rintro e W' ⟨rfl, hb⟩
      exact Nxt.mk _ rfl (fun _ _ => by (rw [hV.out]; rfl)) (below_comp hS hb) (fun j u h => by rw [hV.out] at h ⊢; exact Vals.below hb j u h)
    · intro a W hd hS hdep hfree
      have x11 : a.tmps.getD 11 undef = .bool B := by have h := hdep 4 11 (by kernel_rfl) rfl; rw [hV.out] at h; exact h
      clear hd hdep hfree
      refine .inl ⟨wanted_free rfl, ?_⟩
      simp only [Oper.wp, execOp]
      go_simp
      refine Nxt.mk _ rfl (fun _ _ => ?_) hS (fun _ _ h => h)
      (rw [hV.out]; rfl)
  intro a W2 hs hd hS2 hdone hrest
  have ea := written_all [.agg #[.int .i64 xPriority0, .int .i64 xKind0, .int .i64 xSrcIp0, .int .i64 xSrcBits0, .int .i64 xFirstPort0, .int .i64 xLastPort0, .int .i64 xVlan0, .int .i64 xAction0, .int .i64 xQueue0], .agg #[.int .i64 xPriority0, .int .i64 xKind0, .int .i64 xSrcIp0, .int .i64 xSrcBits0, .int .i64 xFirstPort0, .int .i64 xLastPort0, .int .i64 xVlan0, .int .i64 xAction0, .int .i64 xQueue0], .agg #[.int .i64 xPriority1, .int .i64 xKind1, .int .i64 xSrcIp1, .int .i64 xSrcBits1, .int .i64 xFirstPort1, .int .i64 xLastPort1, .int .i64 xVlan1, .int .i64 xAction1, .int .i64 xQueue1], .agg #[.int .i64 xPriority1, .int .i64 xKind1, .int .i64 xSrcIp1, .int .i64 xSrcBits1, .int .i64 xFirstPort1, .int .i64 xLastPort1, .int .i64 xVlan1, .int .i64 xAction1, .int .i64 xQueue1], .bool B, .bool B] rfl hs hd hrest (fun j d hj => by have h := hdone j d hj; rw [hV.out] at h; exact h)
  clear hs hd hdone hrest hV V
  subst ea
  simp only [written, List.append_eq, Array.toList_append, List.append_toArray, List.map_append, List.cons_append, List.nil_append, List.map_cons, List.map_nil, List.zip_cons_cons, List.zip_nil_right, putAll]
  simp only [Exit.then, Act.put, List.setIfInBounds_toArray, List.set_cons_zero, List.set_cons_succ]
  go_upto_region 2 with fail
  have HB3 := Lib.hid (HB1.out.below hS2 hg1)
  have HB4 := Lib.hid (HB2.out.below hS2 hg2)
  have hg3 := Nat.lt_of_lt_of_le hg1 hS2.size
  have hg4 := Nat.lt_of_lt_of_le hg2 hS2.size
  obtain ⟨V, hV⟩ : ∃ V, Hid (V = Vals [.agg #[.int .i64 xPriority0, .int .i64 xKind0, .int .i64 xSrcIp0, .int .i64 xSrcBits0, .int .i64 xFirstPort0, .int .i64 xLastPort0, .int .i64 xVlan0, .int .i64 xAction0, .int .i64 xQueue0], .agg #[.int .i64 xPriority0, .int .i64 xKind0, .int .i64 xSrcIp0, .int .i64 xSrcBits0, .int .i64 xFirstPort0, .int .i64 xLastPort0, .int .i64 xVlan0, .int .i64 xAction0, .int .i64 xQueue0], .agg #[.int .i64 xPriority1, .int .i64 xKind1, .int .i64 xSrcIp1, .int .i64 xSrcBits1, .int .i64 xFirstPort1, .int .i64 xLastPort1, .int .i64 xVlan1, .int .i64 xAction1, .int .i64 xQueue1], .agg #[.int .i64 xPriority1, .int .i64 xKind1, .int .i64 xSrcIp1, .int .i64 xSrcBits1, .int .i64 xFirstPort1, .int .i64 xLastPort1, .int .i64 xVlan1, .int .i64 xAction1, .int .i64 xQueue1], .bool B, .bool B] []) := ⟨_, Lib.hid rfl⟩
  refine wp_region_valuesG (by kernel_rfl) (fun W => Below W2.heap.size W2 W) V
    20 rfl (by kernel_rfl) (by kernel_rfl) below_drew (eachOp_all ?_) ?_
  · refine ⟨?_, ?_, ?_, ?_, ?_, ?_, trivial⟩
    · intro a W hd hS hdep hfree
      have x2 : a.tmps.getD 2 undef = .pointer (some ⟨w.heap.size, 0, none⟩) := hfree 2 (by kernel_rfl)
      clear hd hdep hfree
      refine .inl ⟨wanted_free rfl, ?_⟩
      have c0 : W.cell? ⟨w.heap.size, 0, none⟩ = some (.int .i64 xPriority0) := (HB3.out.below hS hg3).cell 0 (by simp)
      have c1 : W.cell? ⟨w.heap.size, 1, none⟩ = some (.int .i64 xKind0) := (HB3.out.below hS hg3).cell 1 (by simp)
      have c2 : W.cell? ⟨w.heap.size, 2, none⟩ = some (.int .i64 xSrcIp0) := (HB3.out.below hS hg3).cell 2 (by simp)
      have c3 : W.cell? ⟨w.heap.size, 3, none⟩ = some (.int .i64 xSrcBits0) := (HB3.out.below hS hg3).cell 3 (by simp)
      have c4 : W.cell? ⟨w.heap.size, 4, none⟩ = some (.int .i64 xFirstPort0) := (HB3.out.below hS hg3).cell 4 (by simp)
      have c5 : W.cell? ⟨w.heap.size, 5, none⟩ = some (.int .i64 xLastPort0) := (HB3.out.below hS hg3).cell 5 (by simp)
      have c6 : W.cell? ⟨w.heap.size, 6, none⟩ = some (.int .i64 xVlan0) := (HB3.out.below hS hg3).cell 6 (by simp)
      have c7 : W.cell? ⟨w.heap.size, 7, none⟩ = some (.int .i64 xAction0) := (HB3.out.below hS hg3).cell 7 (by simp)
      have c8 : W.cell? ⟨w.heap.size, 8, none⟩ = some (.int .i64 xQueue0) := (HB3.out.below hS hg3).cell 8 (by simp)
      simp only [Oper.wp, execOp]
      go_simp
      refine Nxt.mk _ rfl (fun _ _ => ?_) hS (fun _ _ h => h)
      (rw [hV.out]; rfl)
    · intro a W hd hS hdep hfree
      have x12 : a.tmps.getD 12 undef = .agg #[.int .i64 xPriority0, .int .i64 xKind0, .int .i64 xSrcIp0, .int .i64 xSrcBits0, .int .i64 xFirstPort0, .int .i64 xLastPort0, .int .i64 xVlan0, .int .i64 xAction0, .int .i64 xQueue0] := by have h := hdep 0 12 (by kernel_rfl) rfl; rw [hV.out] at h; exact h
      clear hd hdep hfree
      refine .inl ⟨wanted_free rfl, ?_⟩
      simp only [Oper.wp, execOp]
      go_simp
      refine (HT0.out W).mono ?_
      rintro e W' ⟨rfl, hb⟩
      exact Nxt.mk _ rfl (fun _ _ => by (rw [hV.out]; rfl)) (below_comp hS hb) (fun j u h => by rw [hV.out] at h ⊢; exact Vals.below hb j u h)
    · intro a W hd hS hdep hfree
      have x3 : a.tmps.getD 3 undef = .pointer (some ⟨w.heap.size + 1, 0, none⟩) := hfree 3 (by kernel_rfl)
      clear hd hdep hfree
      refine .inl ⟨wanted_free rfl, ?_⟩
      have c0 : W.cell? ⟨w.heap.size + 1, 0, none⟩ = some (.int .i64 xPriority1) := (HB4.out.below hS hg4).cell 0 (by simp)
      have c1 : W.cell? ⟨w.heap.size + 1, 1, none⟩ = some (.int .i64 xKind1) := (HB4.out.below hS hg4).cell 1 (by simp)
      have c2 : W.cell? ⟨w.heap.size + 1, 2, none⟩ = some (.int .i64 xSrcIp1) := (HB4.out.below hS hg4).cell 2 (by simp)
      have c3 : W.cell? ⟨w.heap.size + 1, 3, none⟩ = some (.int .i64 xSrcBits1) := (HB4.out.below hS hg4).cell 3 (by simp)
      have c4 : W.cell? ⟨w.heap.size + 1, 4, none⟩ = some (.int .i64 xFirstPort1) := (HB4.out.below hS hg4).cell 4 (by simp)
      have c5 : W.cell? ⟨w.heap.size + 1, 5, none⟩ = some (.int .i64 xLastPort1) := (HB4.out.below hS hg4).cell 5 (by simp)
      have c6 : W.cell? ⟨w.heap.size + 1, 6, none⟩ = some (.int .i64 xVlan1) := (HB4.out.below hS hg4).cell 6 (by simp)
      have c7 : W.cell? ⟨w.heap.size + 1, 7, none⟩ = some (.int .i64 xAction1) := (HB4.out.below hS hg4).cell 7 (by simp)
      have c8 : W.cell? ⟨w.heap.size + 1, 8, none⟩ = some (.int .i64 xQueue1) := (HB4.out.below hS hg4).cell 8 (by simp)
      simp only [Oper.wp, execOp]
      go_simp
      refine Nxt.mk _ rfl (fun _ _ => ?_) hS (fun _ _ h => h)
      (rw [hV.out]; rfl)
    · intro a W hd hS hdep hfree
      have x14 : a.tmps.getD 14 undef = .agg #[.int .i64 xPriority1, .int .i64 xKind1, .int .i64 xSrcIp1, .int .i64 xSrcBits1, .int .i64 xFirstPort1, .int .i64 xLastPort1, .int .i64 xVlan1, .int .i64 xAction1, .int .i64 xQueue1] := by have h := hdep 2 14 (by kernel_rfl) rfl; rw [hV.out] at h; exact h
      clear hd hdep hfree
      refine .inl ⟨wanted_free rfl, ?_⟩
      simp only [Oper.wp, execOp]
      go_simp
      refine (HT1.out W).mono ?_
      rintro e W' ⟨rfl, hb⟩
      exact Nxt.mk _ rfl (fun _ _ => by (rw [hV.out]; rfl)) (below_comp hS hb) (fun j u h => by rw [hV.out] at h ⊢; exact Vals.below hb j u h)
    · intro a W hd hS hdep hfree
      have x13 : a.tmps.getD 13 undef = .agg #[.int .i64 xPriority0, .int .i64 xKind0, .int .i64 xSrcIp0, .int .i64 xSrcBits0, .int .i64 xFirstPort0, .int .i64 xLastPort0, .int .i64 xVlan0, .int .i64 xAction0, .int .i64 xQueue0] := by have h := hdep 1 13 (by kernel_rfl) rfl; rw [hV.out] at h; exact h
      have x15 : a.tmps.getD 15 undef = .agg #[.int .i64 xPriority1, .int .i64 xKind1, .int .i64 xSrcIp1, .int .i64 xSrcBits1, .int .i64 xFirstPort1, .int .i64 xLastPort1, .int .i64 xVlan1, .int .i64 xAction1, .int .i64 xQueue1] := by have h := hdep 3 15 (by kernel_rfl) rfl; rw [hV.out] at h; exact h
      clear hd hdep hfree
      refine .inl ⟨wanted_free rfl, ?_⟩
      simp only [Oper.wp, execOp]
      go_simp
      refine (HI.out W).mono ?_
      rintro e W' ⟨rfl, hb⟩
      exact Nxt.mk _ rfl (fun _ _ => by (rw [hV.out]; rfl)) (below_comp hS hb) (fun j u h => by rw [hV.out] at h ⊢; exact Vals.below hb j u h)
    · intro a W hd hS hdep hfree
      have x16 : a.tmps.getD 16 undef = .bool B := by have h := hdep 4 16 (by kernel_rfl) rfl; rw [hV.out] at h; exact h
      clear hd hdep hfree
      refine .inl ⟨wanted_free rfl, ?_⟩
      simp only [Oper.wp, execOp]
      go_simp
      refine Nxt.mk _ rfl (fun _ _ => ?_) hS (fun _ _ h => h)
      (rw [hV.out]; rfl)
  intro a W3 hs hd hS3 hdone hrest
  have ea := written_all [.agg #[.int .i64 xPriority0, .int .i64 xKind0, .int .i64 xSrcIp0, .int .i64 xSrcBits0, .int .i64 xFirstPort0, .int .i64 xLastPort0, .int .i64 xVlan0, .int .i64 xAction0, .int .i64 xQueue0], .agg #[.int .i64 xPriority0, .int .i64 xKind0, .int .i64 xSrcIp0, .int .i64 xSrcBits0, .int .i64 xFirstPort0, .int .i64 xLastPort0, .int .i64 xVlan0, .int .i64 xAction0, .int .i64 xQueue0], .agg #[.int .i64 xPriority1, .int .i64 xKind1, .int .i64 xSrcIp1, .int .i64 xSrcBits1, .int .i64 xFirstPort1, .int .i64 xLastPort1, .int .i64 xVlan1, .int .i64 xAction1, .int .i64 xQueue1], .agg #[.int .i64 xPriority1, .int .i64 xKind1, .int .i64 xSrcIp1, .int .i64 xSrcBits1, .int .i64 xFirstPort1, .int .i64 xLastPort1, .int .i64 xVlan1, .int .i64 xAction1, .int .i64 xQueue1], .bool B, .bool B] rfl hs hd hrest (fun j d hj => by have h := hdone j d hj; rw [hV.out] at h; exact h)
  clear hs hd hdone hrest hV V
  subst ea
  simp only [written, List.append_eq, Array.toList_append, List.append_toArray, List.map_append, List.cons_append, List.nil_append, List.map_cons, List.map_nil, List.zip_cons_cons, List.zip_nil_right, putAll]
  simp only [Exit.then, Act.put, List.setIfInBounds_toArray, List.set_cons_zero, List.set_cons_succ]
  go_wp2
  go_ret
  exact ⟨rfl, below_comp (below_comp hb1 hS2) hS3⟩

set_option maxRecDepth 100000 in
theorem lifted (os : Os) (started : os.Started) (H : Type) (enc : TypeId × Value → H) :
    ReturnsInHanded {} Try.checked os 9 .any (Rows.fnExactRuleCoversSpec.pre6 enc Try.prog Try.f9 Rows.fnExactRuleCoversRow.domain false) (Rows.fnExactRuleCoversSpec.post enc Try.prog Try.f9 false true false false) := by
  refine returnsInHanded_of_change (C := Try.checked) own started (by kernel_rfl) Try.func9
    (ChangeSpec.witness6 (enc := enc) (C := Try.checked) false ⟨#[], #[.agg #[.int .i64 0, .int .i64 0, .int .i64 0, .int .i64 0, .int .i64 0, .int .i64 0, .int .i64 0, .int .i64 0, .int .i64 0], .agg #[.int .i64 0, .int .i64 0, .int .i64 0, .int .i64 0, .int .i64 0, .int .i64 0, .int .i64 0, .int .i64 0, .int .i64 0]], []⟩ 8 (by kernel_rfl) (by kernel_rfl) (by kernel_rfl) (by kernel_rfl)) ?_
  intro W base args ds gs before hval0 hW hcnd _
  have hval : ∀ (j : Nat) t v, Try.f9.params[j]? = some t → args[j]? = some v → Value.okWide Try.prog W .any base t v := hval0
  have hW' := hW
  obtain ⟨p, q, hA0, hV, rfl, hfz, hnd⟩ := hW
  have hA : DataW.TrodAll enc Try.prog W 0 (fun _ => true) true Try.f9.params.toList args.toList ds p := hA0
  rw [Try.params9] at hA hval
  obtain ⟨v0, vs0, d0, ds0, p0, q0, hargs, rfl, rfl, h0, r0⟩ := trodAll_cons hA
  obtain ⟨v1, vs1, d1, ds1, p1, q1, rfl, rfl, rfl, h1, r1⟩ := trodAll_cons r0
  obtain ⟨rfl, rfl, rfl⟩ := trodAll_nil r1
  obtain rfl : args = #[v0, v1] := by cases args; simp_all
  obtain ⟨rfl, rfl⟩ := trodVars_none hV
  have lt0 : ∀ x ∈ p0, x.block < W.heap.size := by obtain ⟨m, hm⟩ := h0; exact DataW.trod_lt m _ _ _ hm
  have k0 := h0
  obtain ⟨a0, rfl, w0⟩ := OpRule.opened (hval 0 38 v0 rfl rfl) h0
  have lt1 : ∀ x ∈ p1, x.block < W.heap.size := by obtain ⟨m, hm⟩ := h1; exact DataW.trod_lt m _ _ _ hm
  have k1 := h1
  obtain ⟨a1, rfl, w1⟩ := OpRule.opened (hval 1 38 v1 rfl rfl) h1
  clear hA0 hval0
  refine (walk W a0 w0 a1 w1).mono fun e W' ⟨he, bel⟩ => ?_
  subst he
  exact ⟨_, rfl, _, _, _, [], _, [], hW', trodAll_mk1 (shut_bool Try.underlying4 _), (trodAll_cons_mk (Below.trod laidOut (by kernel_rfl) (of_decide_eq_true (by kernel_rfl)) k0 bel lt0) (trodAll_cons_mk (Below.trod laidOut (by kernel_rfl) (of_decide_eq_true (by kernel_rfl)) k1 bel lt1) trodAll_mk0)), rfl, bel.frame _, fun h => by cases h⟩

theorem over : Rows.fnExactRuleCoversRow.holds Try.pinned (OpenSpec.ofChange Rows.fnExactRuleCoversSpec) :=
  OpenClaim.holds_of_wide 9 Try.f9 rfl rfl rfl rfl rfl rfl rfl ⟨rfl, rfl, rfl, rfl, rfl⟩ rfl rfl rfl rfl rfl (by kernel_rfl) Try.func9 (by kernel_rfl)
    (of_decide_eq_true (by kernel_rfl)) (by unfold Func.isWrapper; first | (rw [if_pos (by decide +kernel)]; kernel_rfl) | (rw [if_neg (by decide +kernel)]; exact ⟨rfl, rfl⟩))
    (fun os started H enc _ => lifted os started H enc)

/-- The statement. -/
theorem proved : Rows.FnExactRuleCoversSaid := over

end Go.Proofs.Ytncpnoloamebnab.fnExactRuleCovers
