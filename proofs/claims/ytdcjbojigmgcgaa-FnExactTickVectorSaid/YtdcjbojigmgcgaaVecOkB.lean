/- Vectors: VectorOk of both sides. -/
import Derived.Test.YtdcjbojigmgcgaaVecB
import Derived.Test.YtdcjbojigmgcgaaRegionS
import Derived.Deep.QuietTactic
import Derived.BigQuiet
import Derived.Deep.DeepCutAuto
namespace Go.Proofs.Ytdcjbojigmgcgaa
open Go.RowKit
set_option linter.unusedSimpArgs false
set_option linter.unusedVariables false

set_option maxHeartbeats 4000000 in
set_option maxRecDepth 100000 in
theorem impl_check (e : VectorM) (w : World) :
    Calls Try.prog 49 #[e.val] w fun r w' => r = .returned (VectorM.check e).val ∧ Below w.heap.size w w' := by
  obtain ⟨mc, mt, c, t, m, r⟩ := e
  unfold VectorM.check
  obtain ⟨D, HB, HD⟩ : ∃ B : Bool, Hid (VectorM.due ⟨mc, mt, c, t, m, r⟩ = B) ∧ Hid (B = decide (1 ≤ c ∧ (mc ≤ c ∨ mt ≤ t))) := ⟨_, Lib.hid rfl, Lib.hid rfl⟩
  rw [HB.out]
  clear HB
  unfold VectorM.val
  dsimp only
  by_cases h1 : 1 ≤ c
  case neg =>
    obtain rfl : D = false := by rw [HD.out]; exact decide_eq_false (fun h => h1 h.1)
    go_enter Try.func49, Try.ntmps49
    go_wp2
    apply bodyPost_row (g := w.heap.size + 1) rfl rfl Try.underlying25 rfl
    focus (repeat (first | (with_reducible exact HP0.out) | (with_reducible exact HP1.out) | (with_reducible exact HP2.out) | (with_reducible exact HP3.out) | (with_reducible exact HQ0.out) | (with_reducible exact HQ1.out) | (with_reducible exact HQ2.out) | (with_reducible exact HQ3.out) | (with_reducible apply Box.new) | (with_reducible apply Box.newAt; simp; done) | (with_reducible apply Box.set) | (with_reducible apply Box.skip; omega) | (with_reducible apply Box.alloc) | (with_reducible apply Box.row) | (with_reducible apply Box.skipRow; omega)))
    focus (kernel_rfl)
    focus (rfl)
    try simp only [List.setIfInBounds_toArray, List.set_cons_zero, List.set_cons_succ]
    refine ⟨?_, ?_⟩
    · first | rfl | trivial | (simp; done)
    · repeat (first | ((with_reducible refine Below.setCell ?_ ?_ _); rotate_left; first | omega | (dsimp only; omega) | (simp; done) | (simp; omega)) | ((with_reducible refine below_setRow ?_ ?_ _); rotate_left; first | omega | (dsimp only; omega) | (simp; done) | (simp; omega)) | with_reducible exact Below.refl _ _ | with_reducible exact below_new _ | with_reducible exact below_drew | with_reducible exact HB1.out | with_reducible exact HB2.out | with_reducible exact HB3.out | (with_reducible apply below_comp; rotate_left; first | with_reducible exact HB3.out | with_reducible exact HB2.out | with_reducible exact HB1.out | with_reducible assumption | with_reducible exact below_new _ | with_reducible exact below_drew))
  by_cases h2 : mc ≤ c
  case pos =>
    obtain rfl : D = true := by rw [HD.out]; exact decide_eq_true ⟨h1, .inl h2⟩
    rcases m with _ | _
    all_goals
      go_enter Try.func49, Try.ntmps49
      go_wp2
      apply bodyPost_row (g := w.heap.size + 1) rfl rfl Try.underlying25 rfl
      focus (repeat (first | (with_reducible exact HP0.out) | (with_reducible exact HP1.out) | (with_reducible exact HP2.out) | (with_reducible exact HP3.out) | (with_reducible exact HQ0.out) | (with_reducible exact HQ1.out) | (with_reducible exact HQ2.out) | (with_reducible exact HQ3.out) | (with_reducible apply Box.new) | (with_reducible apply Box.newAt; simp; done) | (with_reducible apply Box.set) | (with_reducible apply Box.skip; omega) | (with_reducible apply Box.alloc) | (with_reducible apply Box.row) | (with_reducible apply Box.skipRow; omega)))
      focus (kernel_rfl)
      focus (rfl)
      try simp only [List.setIfInBounds_toArray, List.set_cons_zero, List.set_cons_succ]
      refine ⟨?_, ?_⟩
      · first | rfl | trivial | (simp; done)
      · repeat (first | ((with_reducible refine Below.setCell ?_ ?_ _); rotate_left; first | omega | (dsimp only; omega) | (simp; done) | (simp; omega)) | ((with_reducible refine below_setRow ?_ ?_ _); rotate_left; first | omega | (dsimp only; omega) | (simp; done) | (simp; omega)) | with_reducible exact Below.refl _ _ | with_reducible exact below_new _ | with_reducible exact below_drew | with_reducible exact HB1.out | with_reducible exact HB2.out | with_reducible exact HB3.out | (with_reducible apply below_comp; rotate_left; first | with_reducible exact HB3.out | with_reducible exact HB2.out | with_reducible exact HB1.out | with_reducible assumption | with_reducible exact below_new _ | with_reducible exact below_drew))
  by_cases h3 : mt ≤ t
  case' pos => obtain rfl : D = true := by rw [HD.out]; exact decide_eq_true ⟨h1, .inr h3⟩
  case' neg => obtain rfl : D = false := by rw [HD.out]; exact decide_eq_false (fun h => h.2.elim h2 h3)
  all_goals
    rcases m with _ | _
    all_goals
      go_enter Try.func49, Try.ntmps49
      go_wp2
      apply bodyPost_row (g := w.heap.size + 1) rfl rfl Try.underlying25 rfl
      focus (repeat (first | (with_reducible exact HP0.out) | (with_reducible exact HP1.out) | (with_reducible exact HP2.out) | (with_reducible exact HP3.out) | (with_reducible exact HQ0.out) | (with_reducible exact HQ1.out) | (with_reducible exact HQ2.out) | (with_reducible exact HQ3.out) | (with_reducible apply Box.new) | (with_reducible apply Box.newAt; simp; done) | (with_reducible apply Box.set) | (with_reducible apply Box.skip; omega) | (with_reducible apply Box.alloc) | (with_reducible apply Box.row) | (with_reducible apply Box.skipRow; omega)))
      focus (kernel_rfl)
      focus (rfl)
      try simp only [List.setIfInBounds_toArray, List.set_cons_zero, List.set_cons_succ]
      refine ⟨?_, ?_⟩
      · first | rfl | trivial | (simp; done)
      · repeat (first | ((with_reducible refine Below.setCell ?_ ?_ _); rotate_left; first | omega | (dsimp only; omega) | (simp; done) | (simp; omega)) | ((with_reducible refine below_setRow ?_ ?_ _); rotate_left; first | omega | (dsimp only; omega) | (simp; done) | (simp; omega)) | with_reducible exact Below.refl _ _ | with_reducible exact below_new _ | with_reducible exact below_drew | with_reducible exact HB1.out | with_reducible exact HB2.out | with_reducible exact HB3.out | (with_reducible apply below_comp; rotate_left; first | with_reducible exact HB3.out | with_reducible exact HB2.out | with_reducible exact HB1.out | with_reducible assumption | with_reducible exact below_new _ | with_reducible exact below_drew))

theorem ok_of (mc mt c t : Int) (m r D : Bool) (e : VectorM.due ⟨mc, mt, c, t, m, r⟩ = D) : VectorM.Ok ⟨mc, mt, c, t, m, r⟩ ↔ (1 ≤ mc ∧ mc ≤ 64) ∧ (0 ≤ mt ∧ mt ≤ 64) ∧ (0 ≤ c ∧ c ≤ 1000000) ∧ (0 ≤ t ∧ t ≤ 1000000) ∧ (0 < c ∨ t = 0) ∧ r = (D && !m) := by
  unfold VectorM.Ok; rw [e]

set_option maxHeartbeats 4000000 in
set_option maxRecDepth 100000 in
theorem impl_vectorok (e : VectorM) (w : World) :
    Calls Try.prog 18 #[e.val] w fun r w' => r = .returned (.bool (decide e.Ok)) ∧ Below w.heap.size w w' := by
  obtain ⟨mc, mt, c, t, m, r⟩ := e
  unfold VectorM.val
  obtain ⟨D, HD⟩ : ∃ B : Bool, Hid (VectorM.due ⟨mc, mt, c, t, m, r⟩ = B) := ⟨_, Lib.hid rfl⟩
  obtain ⟨B, HB⟩ : ∃ B : Bool, Hid (B = decide (VectorM.Ok ⟨mc, mt, c, t, m, r⟩) ∧ (B = true ↔ (1 ≤ mc ∧ mc ≤ 64) ∧ (0 ≤ mt ∧ mt ≤ 64) ∧ (0 ≤ c ∧ c ≤ 1000000) ∧ (0 ≤ t ∧ t ≤ 1000000) ∧ (0 < c ∨ t = 0) ∧ r = (D && !m))) := ⟨_, Lib.hid ⟨rfl, decide_eq_true_iff.trans (ok_of mc mt c t m r D HD.out)⟩⟩
  rw [← HB.out.1]
  have HC : Hid (∀ W, Calls Try.prog 49 #[.agg #[.int .i64 mc, .int .i64 mt, .int .i64 c, .int .i64 t, .bool m, .bool r]] W fun e w' => e = .returned (.agg #[.int .i64 mc, .int .i64 mt, .int .i64 c, .int .i64 t, .bool m, .bool (D && !m)]) ∧ Below W.heap.size W w') := Lib.hid fun W => by
    have h := impl_check ⟨mc, mt, c, t, m, r⟩ W
    unfold VectorM.check at h
    rwa [HD.out] at h
  dsimp only
  go_enter Try.func18, Try.ntmps18
  go_wp2_with fail
  obtain ⟨w1, hw1⟩ : ∃ w1, w1 = w.alloc (.cells #[.int .i64 mc, .int .i64 mt, .int .i64 c, .int .i64 t, .bool m, .bool r] 25) := ⟨_, rfl⟩
  have hb1 : Below w.heap.size w w1 := hw1 ▸ below_new _
  have HB1 : Hid (Box w1 w.heap.size #[.int .i64 mc, .int .i64 mt, .int .i64 c, .int .i64 t, .bool m, .bool r] 25) := Lib.hid (hw1 ▸ Box.new w #[.int .i64 mc, .int .i64 mt, .int .i64 c, .int .i64 t, .bool m, .bool r] 25)
  have hg1 : w.heap.size < w1.heap.size := by rw [hw1]; simp
  rw [← hw1]
  clear hw1
  obtain ⟨V, hV⟩ : ∃ V, Hid (V = Vals ((.pointer (some ⟨w.heap.size, 0, none⟩) : Value) :: (.int .i64 mc : Value) :: (.bool (decide (1 ≤ mc) && decide (mc ≤ 64)) : Value) :: (.bool (decide (1 ≤ mc) && decide (mc ≤ 64)) : Value) :: onlyIf ((decide (1 ≤ mc) && decide (mc ≤ 64)) == true) (.pointer (some ⟨w.heap.size, 1, none⟩)) :: onlyIf ((decide (1 ≤ mc) && decide (mc ≤ 64)) == true) (.int .i64 mt) :: onlyIf ((decide (1 ≤ mc) && decide (mc ≤ 64)) == true) (.bool (decide (0 ≤ mt) && decide (mt ≤ 64))) :: (.bool ((decide (1 ≤ mc) && decide (mc ≤ 64)) && (decide (0 ≤ mt) && decide (mt ≤ 64))) : Value) :: (.bool ((decide (1 ≤ mc) && decide (mc ≤ 64)) && (decide (0 ≤ mt) && decide (mt ≤ 64))) : Value) :: onlyIf (((decide (1 ≤ mc) && decide (mc ≤ 64)) && (decide (0 ≤ mt) && decide (mt ≤ 64))) == true) (.pointer (some ⟨w.heap.size, 2, none⟩)) :: onlyIf (((decide (1 ≤ mc) && decide (mc ≤ 64)) && (decide (0 ≤ mt) && decide (mt ≤ 64))) == true) (.int .i64 c) :: onlyIf (((decide (1 ≤ mc) && decide (mc ≤ 64)) && (decide (0 ≤ mt) && decide (mt ≤ 64))) == true) (.bool (decide (0 ≤ c) && decide (c ≤ 1000000))) :: (.bool (((decide (1 ≤ mc) && decide (mc ≤ 64)) && (decide (0 ≤ mt) && decide (mt ≤ 64))) && (decide (0 ≤ c) && decide (c ≤ 1000000))) : Value) :: (.bool (((decide (1 ≤ mc) && decide (mc ≤ 64)) && (decide (0 ≤ mt) && decide (mt ≤ 64))) && (decide (0 ≤ c) && decide (c ≤ 1000000))) : Value) :: onlyIf ((((decide (1 ≤ mc) && decide (mc ≤ 64)) && (decide (0 ≤ mt) && decide (mt ≤ 64))) && (decide (0 ≤ c) && decide (c ≤ 1000000))) == true) (.pointer (some ⟨w.heap.size, 3, none⟩)) :: onlyIf ((((decide (1 ≤ mc) && decide (mc ≤ 64)) && (decide (0 ≤ mt) && decide (mt ≤ 64))) && (decide (0 ≤ c) && decide (c ≤ 1000000))) == true) (.int .i64 t) :: onlyIf ((((decide (1 ≤ mc) && decide (mc ≤ 64)) && (decide (0 ≤ mt) && decide (mt ≤ 64))) && (decide (0 ≤ c) && decide (c ≤ 1000000))) == true) (.bool (decide (0 ≤ t) && decide (t ≤ 1000000))) :: (.bool ((((decide (1 ≤ mc) && decide (mc ≤ 64)) && (decide (0 ≤ mt) && decide (mt ≤ 64))) && (decide (0 ≤ c) && decide (c ≤ 1000000))) && (decide (0 ≤ t) && decide (t ≤ 1000000))) : Value) :: (.bool ((((decide (1 ≤ mc) && decide (mc ≤ 64)) && (decide (0 ≤ mt) && decide (mt ≤ 64))) && (decide (0 ≤ c) && decide (c ≤ 1000000))) && (decide (0 ≤ t) && decide (t ≤ 1000000))) : Value) :: onlyIf (((((decide (1 ≤ mc) && decide (mc ≤ 64)) && (decide (0 ≤ mt) && decide (mt ≤ 64))) && (decide (0 ≤ c) && decide (c ≤ 1000000))) && (decide (0 ≤ t) && decide (t ≤ 1000000))) == true) (.pointer (some ⟨w.heap.size, 2, none⟩)) :: onlyIf (((((decide (1 ≤ mc) && decide (mc ≤ 64)) && (decide (0 ≤ mt) && decide (mt ≤ 64))) && (decide (0 ≤ c) && decide (c ≤ 1000000))) && (decide (0 ≤ t) && decide (t ≤ 1000000))) == true) (.int .i64 c) :: onlyIf (((((decide (1 ≤ mc) && decide (mc ≤ 64)) && (decide (0 ≤ mt) && decide (mt ≤ 64))) && (decide (0 ≤ c) && decide (c ≤ 1000000))) && (decide (0 ≤ t) && decide (t ≤ 1000000))) == true) (.bool (decide (0 < c))) :: onlyIf (((((decide (1 ≤ mc) && decide (mc ≤ 64)) && (decide (0 ≤ mt) && decide (mt ≤ 64))) && (decide (0 ≤ c) && decide (c ≤ 1000000))) && (decide (0 ≤ t) && decide (t ≤ 1000000))) == true) (.bool (decide (0 < c))) :: onlyIf ((((((decide (1 ≤ mc) && decide (mc ≤ 64)) && (decide (0 ≤ mt) && decide (mt ≤ 64))) && (decide (0 ≤ c) && decide (c ≤ 1000000))) && (decide (0 ≤ t) && decide (t ≤ 1000000))) == true) && ((decide (0 < c)) == false)) (.pointer (some ⟨w.heap.size, 3, none⟩)) :: onlyIf ((((((decide (1 ≤ mc) && decide (mc ≤ 64)) && (decide (0 ≤ mt) && decide (mt ≤ 64))) && (decide (0 ≤ c) && decide (c ≤ 1000000))) && (decide (0 ≤ t) && decide (t ≤ 1000000))) == true) && ((decide (0 < c)) == false)) (.int .i64 t) :: onlyIf ((((((decide (1 ≤ mc) && decide (mc ≤ 64)) && (decide (0 ≤ mt) && decide (mt ≤ 64))) && (decide (0 ≤ c) && decide (c ≤ 1000000))) && (decide (0 ≤ t) && decide (t ≤ 1000000))) == true) && ((decide (0 < c)) == false)) (.bool (t == 0)) :: onlyIf (((((decide (1 ≤ mc) && decide (mc ≤ 64)) && (decide (0 ≤ mt) && decide (mt ≤ 64))) && (decide (0 ≤ c) && decide (c ≤ 1000000))) && (decide (0 ≤ t) && decide (t ≤ 1000000))) == true) (.bool ((decide (0 < c)) || (t == 0))) :: (.bool (((((decide (1 ≤ mc) && decide (mc ≤ 64)) && (decide (0 ≤ mt) && decide (mt ≤ 64))) && (decide (0 ≤ c) && decide (c ≤ 1000000))) && (decide (0 ≤ t) && decide (t ≤ 1000000))) && ((decide (0 < c)) || (t == 0))) : Value) :: (.bool (((((decide (1 ≤ mc) && decide (mc ≤ 64)) && (decide (0 ≤ mt) && decide (mt ≤ 64))) && (decide (0 ≤ c) && decide (c ≤ 1000000))) && (decide (0 ≤ t) && decide (t ≤ 1000000))) && ((decide (0 < c)) || (t == 0))) : Value) :: onlyIf ((((((decide (1 ≤ mc) && decide (mc ≤ 64)) && (decide (0 ≤ mt) && decide (mt ≤ 64))) && (decide (0 ≤ c) && decide (c ≤ 1000000))) && (decide (0 ≤ t) && decide (t ≤ 1000000))) && ((decide (0 < c)) || (t == 0))) == true) (.agg #[.int .i64 mc, .int .i64 mt, .int .i64 c, .int .i64 t, .bool m, .bool r]) :: onlyIf ((((((decide (1 ≤ mc) && decide (mc ≤ 64)) && (decide (0 ≤ mt) && decide (mt ≤ 64))) && (decide (0 ≤ c) && decide (c ≤ 1000000))) && (decide (0 ≤ t) && decide (t ≤ 1000000))) && ((decide (0 < c)) || (t == 0))) == true) (.agg #[.int .i64 mc, .int .i64 mt, .int .i64 c, .int .i64 t, .bool m, .bool r]) :: onlyIf ((((((decide (1 ≤ mc) && decide (mc ≤ 64)) && (decide (0 ≤ mt) && decide (mt ≤ 64))) && (decide (0 ≤ c) && decide (c ≤ 1000000))) && (decide (0 ≤ t) && decide (t ≤ 1000000))) && ((decide (0 < c)) || (t == 0))) == true) (.agg #[.int .i64 mc, .int .i64 mt, .int .i64 c, .int .i64 t, .bool m, .bool (D && !m)]) :: onlyIf ((((((decide (1 ≤ mc) && decide (mc ≤ 64)) && (decide (0 ≤ mt) && decide (mt ≤ 64))) && (decide (0 ≤ c) && decide (c ≤ 1000000))) && (decide (0 ≤ t) && decide (t ≤ 1000000))) && ((decide (0 < c)) || (t == 0))) == true) (.bool (r == (D && !m))) :: (.bool ((((((decide (1 ≤ mc) && decide (mc ≤ 64)) && (decide (0 ≤ mt) && decide (mt ≤ 64))) && (decide (0 ≤ c) && decide (c ≤ 1000000))) && (decide (0 ≤ t) && decide (t ≤ 1000000))) && ((decide (0 < c)) || (t == 0))) && (r == (D && !m))) : Value) :: (.bool ((((((decide (1 ≤ mc) && decide (mc ≤ 64)) && (decide (0 ≤ mt) && decide (mt ≤ 64))) && (decide (0 ≤ c) && decide (c ≤ 1000000))) && (decide (0 ≤ t) && decide (t ≤ 1000000))) && ((decide (0 < c)) || (t == 0))) && (r == (D && !m))) : Value) :: ([] : List Value)) []) := ⟨_, Lib.hid rfl⟩
  refine wp_region_valuesG (by kernel_rfl) (fun W => Below w1.heap.size w1 W) V
    37 rfl (by kernel_rfl) (by kernel_rfl) below_drew (eachOp_all ?_) ?_
  · refine ⟨?_, ?_, ?_, ?_, ?_, ?_, ?_, ?_, ?_, ?_, ?_, ?_, ?_, ?_, ?_, ?_, ?_, ?_, ?_, ?_, ?_, ?_, ?_, ?_, ?_, ?_, ?_, ?_, ?_, ?_, ?_, ?_, ?_, ?_, ?_, trivial⟩
    · intro a W hd hS hdep hfree
      have x1 : a.tmps.getD 1 undef = .pointer (some ⟨w.heap.size, 0, none⟩) := hfree 1 (by kernel_rfl)
      clear hd hdep hfree
      refine .inl ⟨wanted_free rfl, ?_⟩
      simp only [Oper.wp, execOp]
      go_simp
      refine Nxt.mk _ rfl (fun _ _ => ?_) hS (fun _ _ h => h)
      (rw [hV.out]; rfl)
    · intro a W hd hS hdep hfree
      have x3 : a.tmps.getD 3 undef = .pointer (some ⟨w.heap.size, 0, none⟩) := by have h := hdep 0 3 (by kernel_rfl) rfl; rw [hV.out] at h; exact h
      clear hd hdep hfree
      refine .inl ⟨wanted_free rfl, ?_⟩
      have c0 : W.cell? ⟨w.heap.size, 0, none⟩ = some (.int .i64 mc) := (HB1.out.below hS hg1).cell 0 (by simp)
      simp only [Oper.wp, execOp]
      go_simp
      refine Nxt.mk _ rfl (fun _ _ => ?_) hS (fun _ _ h => h)
      (rw [hV.out]; rfl)
    · intro a W hd hS hdep hfree
      have x4 : a.tmps.getD 4 undef = .int .i64 mc := by have h := hdep 1 4 (by kernel_rfl) rfl; rw [hV.out] at h; exact h
      clear hd hdep hfree
      refine .inl ⟨wanted_free rfl, ?_⟩
      simp only [Oper.wp, execOp]
      go_simp
      refine (impl_in2 mc 1 64 W).mono ?_
      rintro e W' ⟨rfl, hb⟩
      exact Nxt.mk _ rfl (fun _ _ => by (rw [hV.out]; rfl)) (below_comp hS hb) (fun j u h => by rw [hV.out] at h ⊢; exact Vals.below hb j u h)
    · intro a W hd hS hdep hfree
      have x5 : a.tmps.getD 5 undef = .bool (decide (1 ≤ mc) && decide (mc ≤ 64)) := by have h := hdep 2 5 (by kernel_rfl) rfl; rw [hV.out] at h; exact h
      clear hd hdep hfree
      refine .inl ⟨wanted_free rfl, ?_⟩
      simp only [Oper.wp, execOp]
      go_simp
      refine Nxt.mk _ rfl (fun _ _ => ?_) hS (fun _ _ h => h)
      (rw [hV.out]; rfl)
    · intro a W hd hS hdep hfree
      have x6 : a.tmps.getD 6 undef = .bool (decide (1 ≤ mc) && decide (mc ≤ 64)) := by have h := hdep 3 6 (by kernel_rfl) rfl; rw [hV.out] at h; exact h
      have x1 : a.tmps.getD 1 undef = .pointer (some ⟨w.heap.size, 0, none⟩) := hfree 1 (by kernel_rfl)
      clear hd hdep hfree
      rcases (Bool.eq_false_or_eq_true (((decide (1 ≤ mc) && decide (mc ≤ 64)) == true))).symm with hE | hE
      · exact .inr ⟨(wanted_sym rfl rfl x6).trans hE, fun _ _ => by rw [hV.out]; exact (onlyIf_neg hE).symm⟩
      refine .inl ⟨(wanted_sym rfl rfl x6).trans hE, ?_⟩
      have hG0 := eq_of_beq hE
      have HE := Lib.hid hE
      clear hE hG0
      simp only [Oper.wp, execOp]
      go_simp
      refine Nxt.mk _ rfl (fun _ _ => ?_) hS (fun _ _ h => h)
      (rw [hV.out]; exact (onlyIf_pos HE.out).symm)
    · intro a W hd hS hdep hfree
      have x6 : a.tmps.getD 6 undef = .bool (decide (1 ≤ mc) && decide (mc ≤ 64)) := by have h := hdep 3 6 (by kernel_rfl) rfl; rw [hV.out] at h; exact h
      have x7 : a.tmps.getD 7 undef = onlyIf ((decide (1 ≤ mc) && decide (mc ≤ 64)) == true) (.pointer (some ⟨w.heap.size, 1, none⟩)) := by have h := hdep 4 7 (by kernel_rfl) rfl; rw [hV.out] at h; exact h
      clear hd hdep hfree
      rcases (Bool.eq_false_or_eq_true (((decide (1 ≤ mc) && decide (mc ≤ 64)) == true))).symm with hE | hE
      · exact .inr ⟨(wanted_sym rfl rfl x6).trans hE, fun _ _ => by rw [hV.out]; exact (onlyIf_neg hE).symm⟩
      refine .inl ⟨(wanted_sym rfl rfl x6).trans hE, ?_⟩
      replace x7 := x7.trans (onlyIf_pos hE)
      have hG0 := eq_of_beq hE
      have HE := Lib.hid hE
      clear hE hG0
      have c0 : W.cell? ⟨w.heap.size, 1, none⟩ = some (.int .i64 mt) := (HB1.out.below hS hg1).cell 1 (by simp)
      simp only [Oper.wp, execOp]
      go_simp
      refine Nxt.mk _ rfl (fun _ _ => ?_) hS (fun _ _ h => h)
      (rw [hV.out]; exact (onlyIf_pos HE.out).symm)
    · intro a W hd hS hdep hfree
      have x6 : a.tmps.getD 6 undef = .bool (decide (1 ≤ mc) && decide (mc ≤ 64)) := by have h := hdep 3 6 (by kernel_rfl) rfl; rw [hV.out] at h; exact h
      have x8 : a.tmps.getD 8 undef = onlyIf ((decide (1 ≤ mc) && decide (mc ≤ 64)) == true) (.int .i64 mt) := by have h := hdep 5 8 (by kernel_rfl) rfl; rw [hV.out] at h; exact h
      clear hd hdep hfree
      rcases (Bool.eq_false_or_eq_true (((decide (1 ≤ mc) && decide (mc ≤ 64)) == true))).symm with hE | hE
      · exact .inr ⟨(wanted_sym rfl rfl x6).trans hE, fun _ _ => by rw [hV.out]; exact (onlyIf_neg hE).symm⟩
      refine .inl ⟨(wanted_sym rfl rfl x6).trans hE, ?_⟩
      replace x8 := x8.trans (onlyIf_pos hE)
      have hG0 := eq_of_beq hE
      have HE := Lib.hid hE
      clear hE hG0
      simp only [Oper.wp, execOp]
      go_simp
      refine (impl_in2 mt 0 64 W).mono ?_
      rintro e W' ⟨rfl, hb⟩
      exact Nxt.mk _ rfl (fun _ _ => by (rw [hV.out]; exact (onlyIf_pos HE.out).symm)) (below_comp hS hb) (fun j u h => by rw [hV.out] at h ⊢; exact Vals.below hb j u h)
    · intro a W hd hS hdep hfree
      have x6 : a.tmps.getD 6 undef = .bool (decide (1 ≤ mc) && decide (mc ≤ 64)) := by have h := hdep 3 6 (by kernel_rfl) rfl; rw [hV.out] at h; exact h
      have x9 : a.tmps.getD 9 undef = onlyIf ((decide (1 ≤ mc) && decide (mc ≤ 64)) == true) (.bool (decide (0 ≤ mt) && decide (mt ≤ 64))) := by have h := hdep 6 9 (by kernel_rfl) rfl; rw [hV.out] at h; exact h
      clear hd hdep hfree
      refine .inl ⟨wanted_free rfl, ?_⟩
      rcases (Bool.eq_false_or_eq_true ((decide (1 ≤ mc) && decide (mc ≤ 64)))).symm with hX | hX
      · rw [hX] at x6
        replace hX := Lib.hid hX
        simp only [Oper.wp, execOp]
        go_simp
        refine Nxt.mk _ rfl (fun _ _ => ?_) hS (fun _ _ h => h)
        rw [hV.out]; show (_ : Value) = .bool _; rw [hX.out]; rfl
      · have hp : ((decide (1 ≤ mc) && decide (mc ≤ 64)) == true) = true := by simp [hX]
        replace x9 := x9.trans (onlyIf_pos hp)
        rw [hX] at x6
        replace hX := Lib.hid hX
        simp only [Oper.wp, execOp]
        go_simp
        refine Nxt.mk _ rfl (fun _ _ => ?_) hS (fun _ _ h => h)
        rw [hV.out]; show (_ : Value) = .bool _; rw [hX.out]; rfl
    · intro a W hd hS hdep hfree
      have x10 : a.tmps.getD 10 undef = .bool ((decide (1 ≤ mc) && decide (mc ≤ 64)) && (decide (0 ≤ mt) && decide (mt ≤ 64))) := by have h := hdep 7 10 (by kernel_rfl) rfl; rw [hV.out] at h; exact h
      clear hd hdep hfree
      refine .inl ⟨wanted_free rfl, ?_⟩
      simp only [Oper.wp, execOp]
      go_simp
      refine Nxt.mk _ rfl (fun _ _ => ?_) hS (fun _ _ h => h)
      (rw [hV.out]; rfl)
    · intro a W hd hS hdep hfree
      have x11 : a.tmps.getD 11 undef = .bool ((decide (1 ≤ mc) && decide (mc ≤ 64)) && (decide (0 ≤ mt) && decide (mt ≤ 64))) := by have h := hdep 8 11 (by kernel_rfl) rfl; rw [hV.out] at h; exact h
      have x1 : a.tmps.getD 1 undef = .pointer (some ⟨w.heap.size, 0, none⟩) := hfree 1 (by kernel_rfl)
      clear hd hdep hfree
      rcases (Bool.eq_false_or_eq_true ((((decide (1 ≤ mc) && decide (mc ≤ 64)) && (decide (0 ≤ mt) && decide (mt ≤ 64))) == true))).symm with hE | hE
      · exact .inr ⟨(wanted_sym rfl rfl x11).trans hE, fun _ _ => by rw [hV.out]; exact (onlyIf_neg hE).symm⟩
      refine .inl ⟨(wanted_sym rfl rfl x11).trans hE, ?_⟩
      have hG0 := eq_of_beq hE
      have HE := Lib.hid hE
      clear hE hG0
      simp only [Oper.wp, execOp]
      go_simp
      refine Nxt.mk _ rfl (fun _ _ => ?_) hS (fun _ _ h => h)
      (rw [hV.out]; exact (onlyIf_pos HE.out).symm)
    · intro a W hd hS hdep hfree
      have x11 : a.tmps.getD 11 undef = .bool ((decide (1 ≤ mc) && decide (mc ≤ 64)) && (decide (0 ≤ mt) && decide (mt ≤ 64))) := by have h := hdep 8 11 (by kernel_rfl) rfl; rw [hV.out] at h; exact h
      have x12 : a.tmps.getD 12 undef = onlyIf (((decide (1 ≤ mc) && decide (mc ≤ 64)) && (decide (0 ≤ mt) && decide (mt ≤ 64))) == true) (.pointer (some ⟨w.heap.size, 2, none⟩)) := by have h := hdep 9 12 (by kernel_rfl) rfl; rw [hV.out] at h; exact h
      clear hd hdep hfree
      rcases (Bool.eq_false_or_eq_true ((((decide (1 ≤ mc) && decide (mc ≤ 64)) && (decide (0 ≤ mt) && decide (mt ≤ 64))) == true))).symm with hE | hE
      · exact .inr ⟨(wanted_sym rfl rfl x11).trans hE, fun _ _ => by rw [hV.out]; exact (onlyIf_neg hE).symm⟩
      refine .inl ⟨(wanted_sym rfl rfl x11).trans hE, ?_⟩
      replace x12 := x12.trans (onlyIf_pos hE)
      have hG0 := eq_of_beq hE
      have HE := Lib.hid hE
      clear hE hG0
      have c0 : W.cell? ⟨w.heap.size, 2, none⟩ = some (.int .i64 c) := (HB1.out.below hS hg1).cell 2 (by simp)
      simp only [Oper.wp, execOp]
      go_simp
      refine Nxt.mk _ rfl (fun _ _ => ?_) hS (fun _ _ h => h)
      (rw [hV.out]; exact (onlyIf_pos HE.out).symm)
    · intro a W hd hS hdep hfree
      have x11 : a.tmps.getD 11 undef = .bool ((decide (1 ≤ mc) && decide (mc ≤ 64)) && (decide (0 ≤ mt) && decide (mt ≤ 64))) := by have h := hdep 8 11 (by kernel_rfl) rfl; rw [hV.out] at h; exact h
      have x13 : a.tmps.getD 13 undef = onlyIf (((decide (1 ≤ mc) && decide (mc ≤ 64)) && (decide (0 ≤ mt) && decide (mt ≤ 64))) == true) (.int .i64 c) := by have h := hdep 10 13 (by kernel_rfl) rfl; rw [hV.out] at h; exact h
      clear hd hdep hfree
      rcases (Bool.eq_false_or_eq_true ((((decide (1 ≤ mc) && decide (mc ≤ 64)) && (decide (0 ≤ mt) && decide (mt ≤ 64))) == true))).symm with hE | hE
      · exact .inr ⟨(wanted_sym rfl rfl x11).trans hE, fun _ _ => by rw [hV.out]; exact (onlyIf_neg hE).symm⟩
      refine .inl ⟨(wanted_sym rfl rfl x11).trans hE, ?_⟩
      replace x13 := x13.trans (onlyIf_pos hE)
      have hG0 := eq_of_beq hE
      have HE := Lib.hid hE
      clear hE hG0
      simp only [Oper.wp, execOp]
      go_simp
      refine (impl_in2 c 0 1000000 W).mono ?_
      rintro e W' ⟨rfl, hb⟩
      exact Nxt.mk _ rfl (fun _ _ => by (rw [hV.out]; exact (onlyIf_pos HE.out).symm)) (below_comp hS hb) (fun j u h => by rw [hV.out] at h ⊢; exact Vals.below hb j u h)
    · intro a W hd hS hdep hfree
      have x11 : a.tmps.getD 11 undef = .bool ((decide (1 ≤ mc) && decide (mc ≤ 64)) && (decide (0 ≤ mt) && decide (mt ≤ 64))) := by have h := hdep 8 11 (by kernel_rfl) rfl; rw [hV.out] at h; exact h
      have x14 : a.tmps.getD 14 undef = onlyIf (((decide (1 ≤ mc) && decide (mc ≤ 64)) && (decide (0 ≤ mt) && decide (mt ≤ 64))) == true) (.bool (decide (0 ≤ c) && decide (c ≤ 1000000))) := by have h := hdep 11 14 (by kernel_rfl) rfl; rw [hV.out] at h; exact h
      clear hd hdep hfree
      refine .inl ⟨wanted_free rfl, ?_⟩
      rcases (Bool.eq_false_or_eq_true (((decide (1 ≤ mc) && decide (mc ≤ 64)) && (decide (0 ≤ mt) && decide (mt ≤ 64))))).symm with hX | hX
      · rw [hX] at x11
        replace hX := Lib.hid hX
        simp only [Oper.wp, execOp]
        go_simp
        refine Nxt.mk _ rfl (fun _ _ => ?_) hS (fun _ _ h => h)
        rw [hV.out]; show (_ : Value) = .bool _; rw [hX.out]; rfl
      · have hp : (((decide (1 ≤ mc) && decide (mc ≤ 64)) && (decide (0 ≤ mt) && decide (mt ≤ 64))) == true) = true := by simp [hX]
        replace x14 := x14.trans (onlyIf_pos hp)
        rw [hX] at x11
        replace hX := Lib.hid hX
        simp only [Oper.wp, execOp]
        go_simp
        refine Nxt.mk _ rfl (fun _ _ => ?_) hS (fun _ _ h => h)
        rw [hV.out]; show (_ : Value) = .bool _; rw [hX.out]; rfl
    · intro a W hd hS hdep hfree
      have x15 : a.tmps.getD 15 undef = .bool (((decide (1 ≤ mc) && decide (mc ≤ 64)) && (decide (0 ≤ mt) && decide (mt ≤ 64))) && (decide (0 ≤ c) && decide (c ≤ 1000000))) := by have h := hdep 12 15 (by kernel_rfl) rfl; rw [hV.out] at h; exact h
      clear hd hdep hfree
      refine .inl ⟨wanted_free rfl, ?_⟩
      simp only [Oper.wp, execOp]
      go_simp
      refine Nxt.mk _ rfl (fun _ _ => ?_) hS (fun _ _ h => h)
      (rw [hV.out]; rfl)
    · intro a W hd hS hdep hfree
      have x16 : a.tmps.getD 16 undef = .bool (((decide (1 ≤ mc) && decide (mc ≤ 64)) && (decide (0 ≤ mt) && decide (mt ≤ 64))) && (decide (0 ≤ c) && decide (c ≤ 1000000))) := by have h := hdep 13 16 (by kernel_rfl) rfl; rw [hV.out] at h; exact h
      have x1 : a.tmps.getD 1 undef = .pointer (some ⟨w.heap.size, 0, none⟩) := hfree 1 (by kernel_rfl)
      clear hd hdep hfree
      rcases (Bool.eq_false_or_eq_true (((((decide (1 ≤ mc) && decide (mc ≤ 64)) && (decide (0 ≤ mt) && decide (mt ≤ 64))) && (decide (0 ≤ c) && decide (c ≤ 1000000))) == true))).symm with hE | hE
      · exact .inr ⟨(wanted_sym rfl rfl x16).trans hE, fun _ _ => by rw [hV.out]; exact (onlyIf_neg hE).symm⟩
      refine .inl ⟨(wanted_sym rfl rfl x16).trans hE, ?_⟩
      have hG0 := eq_of_beq hE
      have HE := Lib.hid hE
      clear hE hG0
      simp only [Oper.wp, execOp]
      go_simp
      refine Nxt.mk _ rfl (fun _ _ => ?_) hS (fun _ _ h => h)
      (rw [hV.out]; exact (onlyIf_pos HE.out).symm)
    · intro a W hd hS hdep hfree
      have x16 : a.tmps.getD 16 undef = .bool (((decide (1 ≤ mc) && decide (mc ≤ 64)) && (decide (0 ≤ mt) && decide (mt ≤ 64))) && (decide (0 ≤ c) && decide (c ≤ 1000000))) := by have h := hdep 13 16 (by kernel_rfl) rfl; rw [hV.out] at h; exact h
      have x17 : a.tmps.getD 17 undef = onlyIf ((((decide (1 ≤ mc) && decide (mc ≤ 64)) && (decide (0 ≤ mt) && decide (mt ≤ 64))) && (decide (0 ≤ c) && decide (c ≤ 1000000))) == true) (.pointer (some ⟨w.heap.size, 3, none⟩)) := by have h := hdep 14 17 (by kernel_rfl) rfl; rw [hV.out] at h; exact h
      clear hd hdep hfree
      rcases (Bool.eq_false_or_eq_true (((((decide (1 ≤ mc) && decide (mc ≤ 64)) && (decide (0 ≤ mt) && decide (mt ≤ 64))) && (decide (0 ≤ c) && decide (c ≤ 1000000))) == true))).symm with hE | hE
      · exact .inr ⟨(wanted_sym rfl rfl x16).trans hE, fun _ _ => by rw [hV.out]; exact (onlyIf_neg hE).symm⟩
      refine .inl ⟨(wanted_sym rfl rfl x16).trans hE, ?_⟩
      replace x17 := x17.trans (onlyIf_pos hE)
      have hG0 := eq_of_beq hE
      have HE := Lib.hid hE
      clear hE hG0
      have c0 : W.cell? ⟨w.heap.size, 3, none⟩ = some (.int .i64 t) := (HB1.out.below hS hg1).cell 3 (by simp)
      simp only [Oper.wp, execOp]
      go_simp
      refine Nxt.mk _ rfl (fun _ _ => ?_) hS (fun _ _ h => h)
      (rw [hV.out]; exact (onlyIf_pos HE.out).symm)
    · intro a W hd hS hdep hfree
      have x16 : a.tmps.getD 16 undef = .bool (((decide (1 ≤ mc) && decide (mc ≤ 64)) && (decide (0 ≤ mt) && decide (mt ≤ 64))) && (decide (0 ≤ c) && decide (c ≤ 1000000))) := by have h := hdep 13 16 (by kernel_rfl) rfl; rw [hV.out] at h; exact h
      have x18 : a.tmps.getD 18 undef = onlyIf ((((decide (1 ≤ mc) && decide (mc ≤ 64)) && (decide (0 ≤ mt) && decide (mt ≤ 64))) && (decide (0 ≤ c) && decide (c ≤ 1000000))) == true) (.int .i64 t) := by have h := hdep 15 18 (by kernel_rfl) rfl; rw [hV.out] at h; exact h
      clear hd hdep hfree
      rcases (Bool.eq_false_or_eq_true (((((decide (1 ≤ mc) && decide (mc ≤ 64)) && (decide (0 ≤ mt) && decide (mt ≤ 64))) && (decide (0 ≤ c) && decide (c ≤ 1000000))) == true))).symm with hE | hE
      · exact .inr ⟨(wanted_sym rfl rfl x16).trans hE, fun _ _ => by rw [hV.out]; exact (onlyIf_neg hE).symm⟩
      refine .inl ⟨(wanted_sym rfl rfl x16).trans hE, ?_⟩
      replace x18 := x18.trans (onlyIf_pos hE)
      have hG0 := eq_of_beq hE
      have HE := Lib.hid hE
      clear hE hG0
      simp only [Oper.wp, execOp]
      go_simp
      refine (impl_in2 t 0 1000000 W).mono ?_
      rintro e W' ⟨rfl, hb⟩
      exact Nxt.mk _ rfl (fun _ _ => by (rw [hV.out]; exact (onlyIf_pos HE.out).symm)) (below_comp hS hb) (fun j u h => by rw [hV.out] at h ⊢; exact Vals.below hb j u h)
    · intro a W hd hS hdep hfree
      have x16 : a.tmps.getD 16 undef = .bool (((decide (1 ≤ mc) && decide (mc ≤ 64)) && (decide (0 ≤ mt) && decide (mt ≤ 64))) && (decide (0 ≤ c) && decide (c ≤ 1000000))) := by have h := hdep 13 16 (by kernel_rfl) rfl; rw [hV.out] at h; exact h
      have x19 : a.tmps.getD 19 undef = onlyIf ((((decide (1 ≤ mc) && decide (mc ≤ 64)) && (decide (0 ≤ mt) && decide (mt ≤ 64))) && (decide (0 ≤ c) && decide (c ≤ 1000000))) == true) (.bool (decide (0 ≤ t) && decide (t ≤ 1000000))) := by have h := hdep 16 19 (by kernel_rfl) rfl; rw [hV.out] at h; exact h
      clear hd hdep hfree
      refine .inl ⟨wanted_free rfl, ?_⟩
      rcases (Bool.eq_false_or_eq_true ((((decide (1 ≤ mc) && decide (mc ≤ 64)) && (decide (0 ≤ mt) && decide (mt ≤ 64))) && (decide (0 ≤ c) && decide (c ≤ 1000000))))).symm with hX | hX
      · rw [hX] at x16
        replace hX := Lib.hid hX
        simp only [Oper.wp, execOp]
        go_simp
        refine Nxt.mk _ rfl (fun _ _ => ?_) hS (fun _ _ h => h)
        rw [hV.out]; show (_ : Value) = .bool _; rw [hX.out]; rfl
      · have hp : ((((decide (1 ≤ mc) && decide (mc ≤ 64)) && (decide (0 ≤ mt) && decide (mt ≤ 64))) && (decide (0 ≤ c) && decide (c ≤ 1000000))) == true) = true := by simp [hX]
        replace x19 := x19.trans (onlyIf_pos hp)
        rw [hX] at x16
        replace hX := Lib.hid hX
        simp only [Oper.wp, execOp]
        go_simp
        refine Nxt.mk _ rfl (fun _ _ => ?_) hS (fun _ _ h => h)
        rw [hV.out]; show (_ : Value) = .bool _; rw [hX.out]; rfl
    · intro a W hd hS hdep hfree
      have x20 : a.tmps.getD 20 undef = .bool ((((decide (1 ≤ mc) && decide (mc ≤ 64)) && (decide (0 ≤ mt) && decide (mt ≤ 64))) && (decide (0 ≤ c) && decide (c ≤ 1000000))) && (decide (0 ≤ t) && decide (t ≤ 1000000))) := by have h := hdep 17 20 (by kernel_rfl) rfl; rw [hV.out] at h; exact h
      clear hd hdep hfree
      refine .inl ⟨wanted_free rfl, ?_⟩
      simp only [Oper.wp, execOp]
      go_simp
      refine Nxt.mk _ rfl (fun _ _ => ?_) hS (fun _ _ h => h)
      (rw [hV.out]; rfl)
    · intro a W hd hS hdep hfree
      have x21 : a.tmps.getD 21 undef = .bool ((((decide (1 ≤ mc) && decide (mc ≤ 64)) && (decide (0 ≤ mt) && decide (mt ≤ 64))) && (decide (0 ≤ c) && decide (c ≤ 1000000))) && (decide (0 ≤ t) && decide (t ≤ 1000000))) := by have h := hdep 18 21 (by kernel_rfl) rfl; rw [hV.out] at h; exact h
      have x1 : a.tmps.getD 1 undef = .pointer (some ⟨w.heap.size, 0, none⟩) := hfree 1 (by kernel_rfl)
      clear hd hdep hfree
      rcases (Bool.eq_false_or_eq_true ((((((decide (1 ≤ mc) && decide (mc ≤ 64)) && (decide (0 ≤ mt) && decide (mt ≤ 64))) && (decide (0 ≤ c) && decide (c ≤ 1000000))) && (decide (0 ≤ t) && decide (t ≤ 1000000))) == true))).symm with hE | hE
      · exact .inr ⟨(wanted_sym rfl rfl x21).trans hE, fun _ _ => by rw [hV.out]; exact (onlyIf_neg hE).symm⟩
      refine .inl ⟨(wanted_sym rfl rfl x21).trans hE, ?_⟩
      have hG0 := eq_of_beq hE
      have HE := Lib.hid hE
      clear hE hG0
      simp only [Oper.wp, execOp]
      go_simp
      refine Nxt.mk _ rfl (fun _ _ => ?_) hS (fun _ _ h => h)
      (rw [hV.out]; exact (onlyIf_pos HE.out).symm)
    · intro a W hd hS hdep hfree
      have x21 : a.tmps.getD 21 undef = .bool ((((decide (1 ≤ mc) && decide (mc ≤ 64)) && (decide (0 ≤ mt) && decide (mt ≤ 64))) && (decide (0 ≤ c) && decide (c ≤ 1000000))) && (decide (0 ≤ t) && decide (t ≤ 1000000))) := by have h := hdep 18 21 (by kernel_rfl) rfl; rw [hV.out] at h; exact h
      have x22 : a.tmps.getD 22 undef = onlyIf (((((decide (1 ≤ mc) && decide (mc ≤ 64)) && (decide (0 ≤ mt) && decide (mt ≤ 64))) && (decide (0 ≤ c) && decide (c ≤ 1000000))) && (decide (0 ≤ t) && decide (t ≤ 1000000))) == true) (.pointer (some ⟨w.heap.size, 2, none⟩)) := by have h := hdep 19 22 (by kernel_rfl) rfl; rw [hV.out] at h; exact h
      clear hd hdep hfree
      rcases (Bool.eq_false_or_eq_true ((((((decide (1 ≤ mc) && decide (mc ≤ 64)) && (decide (0 ≤ mt) && decide (mt ≤ 64))) && (decide (0 ≤ c) && decide (c ≤ 1000000))) && (decide (0 ≤ t) && decide (t ≤ 1000000))) == true))).symm with hE | hE
      · exact .inr ⟨(wanted_sym rfl rfl x21).trans hE, fun _ _ => by rw [hV.out]; exact (onlyIf_neg hE).symm⟩
      refine .inl ⟨(wanted_sym rfl rfl x21).trans hE, ?_⟩
      replace x22 := x22.trans (onlyIf_pos hE)
      have hG0 := eq_of_beq hE
      have HE := Lib.hid hE
      clear hE hG0
      have c0 : W.cell? ⟨w.heap.size, 2, none⟩ = some (.int .i64 c) := (HB1.out.below hS hg1).cell 2 (by simp)
      simp only [Oper.wp, execOp]
      go_simp
      refine Nxt.mk _ rfl (fun _ _ => ?_) hS (fun _ _ h => h)
      (rw [hV.out]; exact (onlyIf_pos HE.out).symm)
    · intro a W hd hS hdep hfree
      have x21 : a.tmps.getD 21 undef = .bool ((((decide (1 ≤ mc) && decide (mc ≤ 64)) && (decide (0 ≤ mt) && decide (mt ≤ 64))) && (decide (0 ≤ c) && decide (c ≤ 1000000))) && (decide (0 ≤ t) && decide (t ≤ 1000000))) := by have h := hdep 18 21 (by kernel_rfl) rfl; rw [hV.out] at h; exact h
      have x23 : a.tmps.getD 23 undef = onlyIf (((((decide (1 ≤ mc) && decide (mc ≤ 64)) && (decide (0 ≤ mt) && decide (mt ≤ 64))) && (decide (0 ≤ c) && decide (c ≤ 1000000))) && (decide (0 ≤ t) && decide (t ≤ 1000000))) == true) (.int .i64 c) := by have h := hdep 20 23 (by kernel_rfl) rfl; rw [hV.out] at h; exact h
      clear hd hdep hfree
      rcases (Bool.eq_false_or_eq_true ((((((decide (1 ≤ mc) && decide (mc ≤ 64)) && (decide (0 ≤ mt) && decide (mt ≤ 64))) && (decide (0 ≤ c) && decide (c ≤ 1000000))) && (decide (0 ≤ t) && decide (t ≤ 1000000))) == true))).symm with hE | hE
      · exact .inr ⟨(wanted_sym rfl rfl x21).trans hE, fun _ _ => by rw [hV.out]; exact (onlyIf_neg hE).symm⟩
      refine .inl ⟨(wanted_sym rfl rfl x21).trans hE, ?_⟩
      replace x23 := x23.trans (onlyIf_pos hE)
      have hG0 := eq_of_beq hE
      have HE := Lib.hid hE
      clear hE hG0
      simp only [Oper.wp, execOp]
      go_simp
      refine Nxt.mk _ rfl (fun _ _ => ?_) hS (fun _ _ h => h)
      rw [hV.out]; first | exact (onlyIf_pos HE.out).symm | (show (_ : Value) = onlyIf _ _; rw [onlyIf_pos HE.out]; simp)
    · intro a W hd hS hdep hfree
      have x21 : a.tmps.getD 21 undef = .bool ((((decide (1 ≤ mc) && decide (mc ≤ 64)) && (decide (0 ≤ mt) && decide (mt ≤ 64))) && (decide (0 ≤ c) && decide (c ≤ 1000000))) && (decide (0 ≤ t) && decide (t ≤ 1000000))) := by have h := hdep 18 21 (by kernel_rfl) rfl; rw [hV.out] at h; exact h
      have x24 : a.tmps.getD 24 undef = onlyIf (((((decide (1 ≤ mc) && decide (mc ≤ 64)) && (decide (0 ≤ mt) && decide (mt ≤ 64))) && (decide (0 ≤ c) && decide (c ≤ 1000000))) && (decide (0 ≤ t) && decide (t ≤ 1000000))) == true) (.bool (decide (0 < c))) := by have h := hdep 21 24 (by kernel_rfl) rfl; rw [hV.out] at h; exact h
      clear hd hdep hfree
      rcases (Bool.eq_false_or_eq_true ((((((decide (1 ≤ mc) && decide (mc ≤ 64)) && (decide (0 ≤ mt) && decide (mt ≤ 64))) && (decide (0 ≤ c) && decide (c ≤ 1000000))) && (decide (0 ≤ t) && decide (t ≤ 1000000))) == true))).symm with hE | hE
      · exact .inr ⟨(wanted_sym rfl rfl x21).trans hE, fun _ _ => by rw [hV.out]; exact (onlyIf_neg hE).symm⟩
      refine .inl ⟨(wanted_sym rfl rfl x21).trans hE, ?_⟩
      replace x24 := x24.trans (onlyIf_pos hE)
      have hG0 := eq_of_beq hE
      have HE := Lib.hid hE
      clear hE hG0
      simp only [Oper.wp, execOp]
      go_simp
      refine Nxt.mk _ rfl (fun _ _ => ?_) hS (fun _ _ h => h)
      (rw [hV.out]; exact (onlyIf_pos HE.out).symm)
    · intro a W hd hS hdep hfree
      have x25 : a.tmps.getD 25 undef = onlyIf (((((decide (1 ≤ mc) && decide (mc ≤ 64)) && (decide (0 ≤ mt) && decide (mt ≤ 64))) && (decide (0 ≤ c) && decide (c ≤ 1000000))) && (decide (0 ≤ t) && decide (t ≤ 1000000))) == true) (.bool (decide (0 < c))) := by have h := hdep 22 25 (by kernel_rfl) rfl; rw [hV.out] at h; exact h
      have x1 : a.tmps.getD 1 undef = .pointer (some ⟨w.heap.size, 0, none⟩) := hfree 1 (by kernel_rfl)
      clear hd hdep hfree
      rcases (Bool.eq_false_or_eq_true (((((((decide (1 ≤ mc) && decide (mc ≤ 64)) && (decide (0 ≤ mt) && decide (mt ≤ 64))) && (decide (0 ≤ c) && decide (c ≤ 1000000))) && (decide (0 ≤ t) && decide (t ≤ 1000000))) == true) && ((decide (0 < c)) == false)))).symm with hE | hE
      · exact .inr ⟨(wanted_cond rfl rfl x25).trans hE, fun _ _ => by rw [hV.out]; exact (onlyIf_neg hE).symm⟩
      refine .inl ⟨(wanted_cond rfl rfl x25).trans hE, ?_⟩
      have hC1 : (((((decide (1 ≤ mc) && decide (mc ≤ 64)) && (decide (0 ≤ mt) && decide (mt ≤ 64))) && (decide (0 ≤ c) && decide (c ≤ 1000000))) && (decide (0 ≤ t) && decide (t ≤ 1000000))) == true) = true := and_l hE
      replace x25 := x25.trans (onlyIf_pos hC1)
      have hG0 := eq_of_beq hC1
      have hG1 := eq_of_beq (and_r hE)
      have HE := Lib.hid hE
      clear hE hC1 hG0 hG1
      simp only [Oper.wp, execOp]
      go_simp
      refine Nxt.mk _ rfl (fun _ _ => ?_) hS (fun _ _ h => h)
      (rw [hV.out]; exact (onlyIf_pos HE.out).symm)
    · intro a W hd hS hdep hfree
      have x25 : a.tmps.getD 25 undef = onlyIf (((((decide (1 ≤ mc) && decide (mc ≤ 64)) && (decide (0 ≤ mt) && decide (mt ≤ 64))) && (decide (0 ≤ c) && decide (c ≤ 1000000))) && (decide (0 ≤ t) && decide (t ≤ 1000000))) == true) (.bool (decide (0 < c))) := by have h := hdep 22 25 (by kernel_rfl) rfl; rw [hV.out] at h; exact h
      have x26 : a.tmps.getD 26 undef = onlyIf ((((((decide (1 ≤ mc) && decide (mc ≤ 64)) && (decide (0 ≤ mt) && decide (mt ≤ 64))) && (decide (0 ≤ c) && decide (c ≤ 1000000))) && (decide (0 ≤ t) && decide (t ≤ 1000000))) == true) && ((decide (0 < c)) == false)) (.pointer (some ⟨w.heap.size, 3, none⟩)) := by have h := hdep 23 26 (by kernel_rfl) rfl; rw [hV.out] at h; exact h
      clear hd hdep hfree
      rcases (Bool.eq_false_or_eq_true (((((((decide (1 ≤ mc) && decide (mc ≤ 64)) && (decide (0 ≤ mt) && decide (mt ≤ 64))) && (decide (0 ≤ c) && decide (c ≤ 1000000))) && (decide (0 ≤ t) && decide (t ≤ 1000000))) == true) && ((decide (0 < c)) == false)))).symm with hE | hE
      · exact .inr ⟨(wanted_cond rfl rfl x25).trans hE, fun _ _ => by rw [hV.out]; exact (onlyIf_neg hE).symm⟩
      refine .inl ⟨(wanted_cond rfl rfl x25).trans hE, ?_⟩
      have hC1 : (((((decide (1 ≤ mc) && decide (mc ≤ 64)) && (decide (0 ≤ mt) && decide (mt ≤ 64))) && (decide (0 ≤ c) && decide (c ≤ 1000000))) && (decide (0 ≤ t) && decide (t ≤ 1000000))) == true) = true := and_l hE
      replace x25 := x25.trans (onlyIf_pos hC1)
      replace x26 := x26.trans (onlyIf_pos hE)
      have hG0 := eq_of_beq hC1
      have hG1 := eq_of_beq (and_r hE)
      have HE := Lib.hid hE
      clear hE hC1 hG0 hG1
      have c0 : W.cell? ⟨w.heap.size, 3, none⟩ = some (.int .i64 t) := (HB1.out.below hS hg1).cell 3 (by simp)
      simp only [Oper.wp, execOp]
      go_simp
      refine Nxt.mk _ rfl (fun _ _ => ?_) hS (fun _ _ h => h)
      (rw [hV.out]; exact (onlyIf_pos HE.out).symm)
    · intro a W hd hS hdep hfree
      have x25 : a.tmps.getD 25 undef = onlyIf (((((decide (1 ≤ mc) && decide (mc ≤ 64)) && (decide (0 ≤ mt) && decide (mt ≤ 64))) && (decide (0 ≤ c) && decide (c ≤ 1000000))) && (decide (0 ≤ t) && decide (t ≤ 1000000))) == true) (.bool (decide (0 < c))) := by have h := hdep 22 25 (by kernel_rfl) rfl; rw [hV.out] at h; exact h
      have x27 : a.tmps.getD 27 undef = onlyIf ((((((decide (1 ≤ mc) && decide (mc ≤ 64)) && (decide (0 ≤ mt) && decide (mt ≤ 64))) && (decide (0 ≤ c) && decide (c ≤ 1000000))) && (decide (0 ≤ t) && decide (t ≤ 1000000))) == true) && ((decide (0 < c)) == false)) (.int .i64 t) := by have h := hdep 24 27 (by kernel_rfl) rfl; rw [hV.out] at h; exact h
      clear hd hdep hfree
      rcases (Bool.eq_false_or_eq_true (((((((decide (1 ≤ mc) && decide (mc ≤ 64)) && (decide (0 ≤ mt) && decide (mt ≤ 64))) && (decide (0 ≤ c) && decide (c ≤ 1000000))) && (decide (0 ≤ t) && decide (t ≤ 1000000))) == true) && ((decide (0 < c)) == false)))).symm with hE | hE
      · exact .inr ⟨(wanted_cond rfl rfl x25).trans hE, fun _ _ => by rw [hV.out]; exact (onlyIf_neg hE).symm⟩
      refine .inl ⟨(wanted_cond rfl rfl x25).trans hE, ?_⟩
      have hC1 : (((((decide (1 ≤ mc) && decide (mc ≤ 64)) && (decide (0 ≤ mt) && decide (mt ≤ 64))) && (decide (0 ≤ c) && decide (c ≤ 1000000))) && (decide (0 ≤ t) && decide (t ≤ 1000000))) == true) = true := and_l hE
      replace x25 := x25.trans (onlyIf_pos hC1)
      replace x27 := x27.trans (onlyIf_pos hE)
      have hG0 := eq_of_beq hC1
      have hG1 := eq_of_beq (and_r hE)
      have HE := Lib.hid hE
      clear hE hC1 hG0 hG1
      simp only [Oper.wp, execOp]
      go_simp
      refine Nxt.mk _ rfl (fun _ _ => ?_) hS (fun _ _ h => h)
      rw [hV.out]; first | exact (onlyIf_pos HE.out).symm | (show (_ : Value) = onlyIf _ _; rw [onlyIf_pos HE.out]; simp)
    · intro a W hd hS hdep hfree
      have x21 : a.tmps.getD 21 undef = .bool ((((decide (1 ≤ mc) && decide (mc ≤ 64)) && (decide (0 ≤ mt) && decide (mt ≤ 64))) && (decide (0 ≤ c) && decide (c ≤ 1000000))) && (decide (0 ≤ t) && decide (t ≤ 1000000))) := by have h := hdep 18 21 (by kernel_rfl) rfl; rw [hV.out] at h; exact h
      have x25 : a.tmps.getD 25 undef = onlyIf (((((decide (1 ≤ mc) && decide (mc ≤ 64)) && (decide (0 ≤ mt) && decide (mt ≤ 64))) && (decide (0 ≤ c) && decide (c ≤ 1000000))) && (decide (0 ≤ t) && decide (t ≤ 1000000))) == true) (.bool (decide (0 < c))) := by have h := hdep 22 25 (by kernel_rfl) rfl; rw [hV.out] at h; exact h
      have x28 : a.tmps.getD 28 undef = onlyIf ((((((decide (1 ≤ mc) && decide (mc ≤ 64)) && (decide (0 ≤ mt) && decide (mt ≤ 64))) && (decide (0 ≤ c) && decide (c ≤ 1000000))) && (decide (0 ≤ t) && decide (t ≤ 1000000))) == true) && ((decide (0 < c)) == false)) (.bool (t == 0)) := by have h := hdep 25 28 (by kernel_rfl) rfl; rw [hV.out] at h; exact h
      clear hd hdep hfree
      rcases (Bool.eq_false_or_eq_true ((((((decide (1 ≤ mc) && decide (mc ≤ 64)) && (decide (0 ≤ mt) && decide (mt ≤ 64))) && (decide (0 ≤ c) && decide (c ≤ 1000000))) && (decide (0 ≤ t) && decide (t ≤ 1000000))) == true))).symm with hE | hE
      · exact .inr ⟨(wanted_sym rfl rfl x21).trans hE, fun _ _ => by rw [hV.out]; exact (onlyIf_neg hE).symm⟩
      refine .inl ⟨(wanted_sym rfl rfl x21).trans hE, ?_⟩
      replace x25 := x25.trans (onlyIf_pos hE)
      have hG0 := eq_of_beq hE
      have HE := Lib.hid hE
      clear hE hG0
      rcases (Bool.eq_false_or_eq_true ((decide (0 < c)))).symm with hX | hX
      · have hp : ((((((decide (1 ≤ mc) && decide (mc ≤ 64)) && (decide (0 ≤ mt) && decide (mt ≤ 64))) && (decide (0 ≤ c) && decide (c ≤ 1000000))) && (decide (0 ≤ t) && decide (t ≤ 1000000))) == true) && ((decide (0 < c)) == false)) = true := by have hE := HE.out; first | simp [hX, hE] | (rw [hE, hX]; rfl) | simp_all
        replace x28 := x28.trans (onlyIf_pos hp)
        rw [hX] at x25
        replace hX := Lib.hid hX
        simp only [Oper.wp, execOp]
        go_simp
        refine Nxt.mk _ rfl (fun _ _ => ?_) hS (fun _ _ h => h)
        rw [hV.out]; show (_ : Value) = onlyIf _ _; rw [onlyIf_pos HE.out, hX.out]; rfl
      · rw [hX] at x25
        replace hX := Lib.hid hX
        simp only [Oper.wp, execOp]
        go_simp
        refine Nxt.mk _ rfl (fun _ _ => ?_) hS (fun _ _ h => h)
        rw [hV.out]; show (_ : Value) = onlyIf _ _; rw [onlyIf_pos HE.out, hX.out]; rfl
    · intro a W hd hS hdep hfree
      have x21 : a.tmps.getD 21 undef = .bool ((((decide (1 ≤ mc) && decide (mc ≤ 64)) && (decide (0 ≤ mt) && decide (mt ≤ 64))) && (decide (0 ≤ c) && decide (c ≤ 1000000))) && (decide (0 ≤ t) && decide (t ≤ 1000000))) := by have h := hdep 18 21 (by kernel_rfl) rfl; rw [hV.out] at h; exact h
      have x29 : a.tmps.getD 29 undef = onlyIf (((((decide (1 ≤ mc) && decide (mc ≤ 64)) && (decide (0 ≤ mt) && decide (mt ≤ 64))) && (decide (0 ≤ c) && decide (c ≤ 1000000))) && (decide (0 ≤ t) && decide (t ≤ 1000000))) == true) (.bool ((decide (0 < c)) || (t == 0))) := by have h := hdep 26 29 (by kernel_rfl) rfl; rw [hV.out] at h; exact h
      clear hd hdep hfree
      refine .inl ⟨wanted_free rfl, ?_⟩
      rcases (Bool.eq_false_or_eq_true (((((decide (1 ≤ mc) && decide (mc ≤ 64)) && (decide (0 ≤ mt) && decide (mt ≤ 64))) && (decide (0 ≤ c) && decide (c ≤ 1000000))) && (decide (0 ≤ t) && decide (t ≤ 1000000))))).symm with hX | hX
      · rw [hX] at x21
        replace hX := Lib.hid hX
        simp only [Oper.wp, execOp]
        go_simp
        refine Nxt.mk _ rfl (fun _ _ => ?_) hS (fun _ _ h => h)
        rw [hV.out]; show (_ : Value) = .bool _; rw [hX.out]; rfl
      · have hp : (((((decide (1 ≤ mc) && decide (mc ≤ 64)) && (decide (0 ≤ mt) && decide (mt ≤ 64))) && (decide (0 ≤ c) && decide (c ≤ 1000000))) && (decide (0 ≤ t) && decide (t ≤ 1000000))) == true) = true := by simp [hX]
        replace x29 := x29.trans (onlyIf_pos hp)
        rw [hX] at x21
        replace hX := Lib.hid hX
        simp only [Oper.wp, execOp]
        go_simp
        refine Nxt.mk _ rfl (fun _ _ => ?_) hS (fun _ _ h => h)
        rw [hV.out]; show (_ : Value) = .bool _; rw [hX.out]; rfl
    · intro a W hd hS hdep hfree
      have x30 : a.tmps.getD 30 undef = .bool (((((decide (1 ≤ mc) && decide (mc ≤ 64)) && (decide (0 ≤ mt) && decide (mt ≤ 64))) && (decide (0 ≤ c) && decide (c ≤ 1000000))) && (decide (0 ≤ t) && decide (t ≤ 1000000))) && ((decide (0 < c)) || (t == 0))) := by have h := hdep 27 30 (by kernel_rfl) rfl; rw [hV.out] at h; exact h
      clear hd hdep hfree
      refine .inl ⟨wanted_free rfl, ?_⟩
      simp only [Oper.wp, execOp]
      go_simp
      refine Nxt.mk _ rfl (fun _ _ => ?_) hS (fun _ _ h => h)
      (rw [hV.out]; rfl)
    · intro a W hd hS hdep hfree
      have x31 : a.tmps.getD 31 undef = .bool (((((decide (1 ≤ mc) && decide (mc ≤ 64)) && (decide (0 ≤ mt) && decide (mt ≤ 64))) && (decide (0 ≤ c) && decide (c ≤ 1000000))) && (decide (0 ≤ t) && decide (t ≤ 1000000))) && ((decide (0 < c)) || (t == 0))) := by have h := hdep 28 31 (by kernel_rfl) rfl; rw [hV.out] at h; exact h
      have x1 : a.tmps.getD 1 undef = .pointer (some ⟨w.heap.size, 0, none⟩) := hfree 1 (by kernel_rfl)
      clear hd hdep hfree
      rcases (Bool.eq_false_or_eq_true (((((((decide (1 ≤ mc) && decide (mc ≤ 64)) && (decide (0 ≤ mt) && decide (mt ≤ 64))) && (decide (0 ≤ c) && decide (c ≤ 1000000))) && (decide (0 ≤ t) && decide (t ≤ 1000000))) && ((decide (0 < c)) || (t == 0))) == true))).symm with hE | hE
      · exact .inr ⟨(wanted_sym rfl rfl x31).trans hE, fun _ _ => by rw [hV.out]; exact (onlyIf_neg hE).symm⟩
      refine .inl ⟨(wanted_sym rfl rfl x31).trans hE, ?_⟩
      have hG0 := eq_of_beq hE
      have HE := Lib.hid hE
      clear hE hG0
      have c0 : W.cell? ⟨w.heap.size, 0, none⟩ = some (.int .i64 mc) := (HB1.out.below hS hg1).cell 0 (by simp)
      have c1 : W.cell? ⟨w.heap.size, 1, none⟩ = some (.int .i64 mt) := (HB1.out.below hS hg1).cell 1 (by simp)
      have c2 : W.cell? ⟨w.heap.size, 2, none⟩ = some (.int .i64 c) := (HB1.out.below hS hg1).cell 2 (by simp)
      have c3 : W.cell? ⟨w.heap.size, 3, none⟩ = some (.int .i64 t) := (HB1.out.below hS hg1).cell 3 (by simp)
      have c4 : W.cell? ⟨w.heap.size, 4, none⟩ = some (.bool m) := (HB1.out.below hS hg1).cell 4 (by simp)
      have c5 : W.cell? ⟨w.heap.size, 5, none⟩ = some (.bool r) := (HB1.out.below hS hg1).cell 5 (by simp)
      simp only [Oper.wp, execOp]
      go_simp
      refine Nxt.mk _ rfl (fun _ _ => ?_) hS (fun _ _ h => h)
      (rw [hV.out]; exact (onlyIf_pos HE.out).symm)
    · intro a W hd hS hdep hfree
      have x31 : a.tmps.getD 31 undef = .bool (((((decide (1 ≤ mc) && decide (mc ≤ 64)) && (decide (0 ≤ mt) && decide (mt ≤ 64))) && (decide (0 ≤ c) && decide (c ≤ 1000000))) && (decide (0 ≤ t) && decide (t ≤ 1000000))) && ((decide (0 < c)) || (t == 0))) := by have h := hdep 28 31 (by kernel_rfl) rfl; rw [hV.out] at h; exact h
      have x1 : a.tmps.getD 1 undef = .pointer (some ⟨w.heap.size, 0, none⟩) := hfree 1 (by kernel_rfl)
      clear hd hdep hfree
      rcases (Bool.eq_false_or_eq_true (((((((decide (1 ≤ mc) && decide (mc ≤ 64)) && (decide (0 ≤ mt) && decide (mt ≤ 64))) && (decide (0 ≤ c) && decide (c ≤ 1000000))) && (decide (0 ≤ t) && decide (t ≤ 1000000))) && ((decide (0 < c)) || (t == 0))) == true))).symm with hE | hE
      · exact .inr ⟨(wanted_sym rfl rfl x31).trans hE, fun _ _ => by rw [hV.out]; exact (onlyIf_neg hE).symm⟩
      refine .inl ⟨(wanted_sym rfl rfl x31).trans hE, ?_⟩
      have hG0 := eq_of_beq hE
      have HE := Lib.hid hE
      clear hE hG0
      have c0 : W.cell? ⟨w.heap.size, 0, none⟩ = some (.int .i64 mc) := (HB1.out.below hS hg1).cell 0 (by simp)
      have c1 : W.cell? ⟨w.heap.size, 1, none⟩ = some (.int .i64 mt) := (HB1.out.below hS hg1).cell 1 (by simp)
      have c2 : W.cell? ⟨w.heap.size, 2, none⟩ = some (.int .i64 c) := (HB1.out.below hS hg1).cell 2 (by simp)
      have c3 : W.cell? ⟨w.heap.size, 3, none⟩ = some (.int .i64 t) := (HB1.out.below hS hg1).cell 3 (by simp)
      have c4 : W.cell? ⟨w.heap.size, 4, none⟩ = some (.bool m) := (HB1.out.below hS hg1).cell 4 (by simp)
      have c5 : W.cell? ⟨w.heap.size, 5, none⟩ = some (.bool r) := (HB1.out.below hS hg1).cell 5 (by simp)
      simp only [Oper.wp, execOp]
      go_simp
      refine Nxt.mk _ rfl (fun _ _ => ?_) hS (fun _ _ h => h)
      (rw [hV.out]; exact (onlyIf_pos HE.out).symm)
    · intro a W hd hS hdep hfree
      have x31 : a.tmps.getD 31 undef = .bool (((((decide (1 ≤ mc) && decide (mc ≤ 64)) && (decide (0 ≤ mt) && decide (mt ≤ 64))) && (decide (0 ≤ c) && decide (c ≤ 1000000))) && (decide (0 ≤ t) && decide (t ≤ 1000000))) && ((decide (0 < c)) || (t == 0))) := by have h := hdep 28 31 (by kernel_rfl) rfl; rw [hV.out] at h; exact h
      have x33 : a.tmps.getD 33 undef = onlyIf ((((((decide (1 ≤ mc) && decide (mc ≤ 64)) && (decide (0 ≤ mt) && decide (mt ≤ 64))) && (decide (0 ≤ c) && decide (c ≤ 1000000))) && (decide (0 ≤ t) && decide (t ≤ 1000000))) && ((decide (0 < c)) || (t == 0))) == true) (.agg #[.int .i64 mc, .int .i64 mt, .int .i64 c, .int .i64 t, .bool m, .bool r]) := by have h := hdep 30 33 (by kernel_rfl) rfl; rw [hV.out] at h; exact h
      clear hd hdep hfree
      rcases (Bool.eq_false_or_eq_true (((((((decide (1 ≤ mc) && decide (mc ≤ 64)) && (decide (0 ≤ mt) && decide (mt ≤ 64))) && (decide (0 ≤ c) && decide (c ≤ 1000000))) && (decide (0 ≤ t) && decide (t ≤ 1000000))) && ((decide (0 < c)) || (t == 0))) == true))).symm with hE | hE
      · exact .inr ⟨(wanted_sym rfl rfl x31).trans hE, fun _ _ => by rw [hV.out]; exact (onlyIf_neg hE).symm⟩
      refine .inl ⟨(wanted_sym rfl rfl x31).trans hE, ?_⟩
      replace x33 := x33.trans (onlyIf_pos hE)
      have hG0 := eq_of_beq hE
      have HE := Lib.hid hE
      clear hE hG0
      simp only [Oper.wp, execOp]
      go_simp
      refine (HC.out W).mono ?_
      rintro e W' ⟨rfl, hb⟩
      exact Nxt.mk _ rfl (fun _ _ => by (rw [hV.out]; exact (onlyIf_pos HE.out).symm)) (below_comp hS hb) (fun j u h => by rw [hV.out] at h ⊢; exact Vals.below hb j u h)
    · intro a W hd hS hdep hfree
      have x31 : a.tmps.getD 31 undef = .bool (((((decide (1 ≤ mc) && decide (mc ≤ 64)) && (decide (0 ≤ mt) && decide (mt ≤ 64))) && (decide (0 ≤ c) && decide (c ≤ 1000000))) && (decide (0 ≤ t) && decide (t ≤ 1000000))) && ((decide (0 < c)) || (t == 0))) := by have h := hdep 28 31 (by kernel_rfl) rfl; rw [hV.out] at h; exact h
      have x32 : a.tmps.getD 32 undef = onlyIf ((((((decide (1 ≤ mc) && decide (mc ≤ 64)) && (decide (0 ≤ mt) && decide (mt ≤ 64))) && (decide (0 ≤ c) && decide (c ≤ 1000000))) && (decide (0 ≤ t) && decide (t ≤ 1000000))) && ((decide (0 < c)) || (t == 0))) == true) (.agg #[.int .i64 mc, .int .i64 mt, .int .i64 c, .int .i64 t, .bool m, .bool r]) := by have h := hdep 29 32 (by kernel_rfl) rfl; rw [hV.out] at h; exact h
      have x34 : a.tmps.getD 34 undef = onlyIf ((((((decide (1 ≤ mc) && decide (mc ≤ 64)) && (decide (0 ≤ mt) && decide (mt ≤ 64))) && (decide (0 ≤ c) && decide (c ≤ 1000000))) && (decide (0 ≤ t) && decide (t ≤ 1000000))) && ((decide (0 < c)) || (t == 0))) == true) (.agg #[.int .i64 mc, .int .i64 mt, .int .i64 c, .int .i64 t, .bool m, .bool (D && !m)]) := by have h := hdep 31 34 (by kernel_rfl) rfl; rw [hV.out] at h; exact h
      clear hd hdep hfree
      rcases (Bool.eq_false_or_eq_true (((((((decide (1 ≤ mc) && decide (mc ≤ 64)) && (decide (0 ≤ mt) && decide (mt ≤ 64))) && (decide (0 ≤ c) && decide (c ≤ 1000000))) && (decide (0 ≤ t) && decide (t ≤ 1000000))) && ((decide (0 < c)) || (t == 0))) == true))).symm with hE | hE
      · exact .inr ⟨(wanted_sym rfl rfl x31).trans hE, fun _ _ => by rw [hV.out]; exact (onlyIf_neg hE).symm⟩
      refine .inl ⟨(wanted_sym rfl rfl x31).trans hE, ?_⟩
      replace x32 := x32.trans (onlyIf_pos hE)
      replace x34 := x34.trans (onlyIf_pos hE)
      have hG0 := eq_of_beq hE
      have HE := Lib.hid hE
      clear hE hG0
      by_cases hq0 : r = (D && !m)
      case neg =>
        simp only [Oper.wp, execOp]
        go_simp
        refine Nxt.mk _ rfl (fun _ _ => ?_) hS (fun _ _ h => h)
        rw [hV.out]; show (_ : Value) = onlyIf _ _; rw [onlyIf_pos HE.out]; simp [hq0]
      simp only [Oper.wp, execOp]
      go_simp
      refine Nxt.mk _ rfl (fun _ _ => ?_) hS (fun _ _ h => h)
      rw [hV.out]; show (_ : Value) = onlyIf _ _; rw [onlyIf_pos HE.out]; simp [hq0]
    · intro a W hd hS hdep hfree
      have x31 : a.tmps.getD 31 undef = .bool (((((decide (1 ≤ mc) && decide (mc ≤ 64)) && (decide (0 ≤ mt) && decide (mt ≤ 64))) && (decide (0 ≤ c) && decide (c ≤ 1000000))) && (decide (0 ≤ t) && decide (t ≤ 1000000))) && ((decide (0 < c)) || (t == 0))) := by have h := hdep 28 31 (by kernel_rfl) rfl; rw [hV.out] at h; exact h
      have x35 : a.tmps.getD 35 undef = onlyIf ((((((decide (1 ≤ mc) && decide (mc ≤ 64)) && (decide (0 ≤ mt) && decide (mt ≤ 64))) && (decide (0 ≤ c) && decide (c ≤ 1000000))) && (decide (0 ≤ t) && decide (t ≤ 1000000))) && ((decide (0 < c)) || (t == 0))) == true) (.bool (r == (D && !m))) := by have h := hdep 32 35 (by kernel_rfl) rfl; rw [hV.out] at h; exact h
      clear hd hdep hfree
      refine .inl ⟨wanted_free rfl, ?_⟩
      rcases (Bool.eq_false_or_eq_true ((((((decide (1 ≤ mc) && decide (mc ≤ 64)) && (decide (0 ≤ mt) && decide (mt ≤ 64))) && (decide (0 ≤ c) && decide (c ≤ 1000000))) && (decide (0 ≤ t) && decide (t ≤ 1000000))) && ((decide (0 < c)) || (t == 0))))).symm with hX | hX
      · rw [hX] at x31
        replace hX := Lib.hid hX
        simp only [Oper.wp, execOp]
        go_simp
        refine Nxt.mk _ rfl (fun _ _ => ?_) hS (fun _ _ h => h)
        rw [hV.out]; show (_ : Value) = .bool _; rw [hX.out]; rfl
      · have hp : ((((((decide (1 ≤ mc) && decide (mc ≤ 64)) && (decide (0 ≤ mt) && decide (mt ≤ 64))) && (decide (0 ≤ c) && decide (c ≤ 1000000))) && (decide (0 ≤ t) && decide (t ≤ 1000000))) && ((decide (0 < c)) || (t == 0))) == true) = true := by simp [hX]
        replace x35 := x35.trans (onlyIf_pos hp)
        rw [hX] at x31
        replace hX := Lib.hid hX
        simp only [Oper.wp, execOp]
        go_simp
        refine Nxt.mk _ rfl (fun _ _ => ?_) hS (fun _ _ h => h)
        rw [hV.out]; show (_ : Value) = .bool _; rw [hX.out]; rfl
    · intro a W hd hS hdep hfree
      have x36 : a.tmps.getD 36 undef = .bool ((((((decide (1 ≤ mc) && decide (mc ≤ 64)) && (decide (0 ≤ mt) && decide (mt ≤ 64))) && (decide (0 ≤ c) && decide (c ≤ 1000000))) && (decide (0 ≤ t) && decide (t ≤ 1000000))) && ((decide (0 < c)) || (t == 0))) && (r == (D && !m))) := by have h := hdep 33 36 (by kernel_rfl) rfl; rw [hV.out] at h; exact h
      clear hd hdep hfree
      refine .inl ⟨wanted_free rfl, ?_⟩
      simp only [Oper.wp, execOp]
      go_simp
      refine Nxt.mk _ rfl (fun _ _ => ?_) hS (fun _ _ h => h)
      (rw [hV.out]; rfl)
  intro a W2 hs hd hS2 hdone hrest
  have ea := written_all ((.pointer (some ⟨w.heap.size, 0, none⟩) : Value) :: (.int .i64 mc : Value) :: (.bool (decide (1 ≤ mc) && decide (mc ≤ 64)) : Value) :: (.bool (decide (1 ≤ mc) && decide (mc ≤ 64)) : Value) :: onlyIf ((decide (1 ≤ mc) && decide (mc ≤ 64)) == true) (.pointer (some ⟨w.heap.size, 1, none⟩)) :: onlyIf ((decide (1 ≤ mc) && decide (mc ≤ 64)) == true) (.int .i64 mt) :: onlyIf ((decide (1 ≤ mc) && decide (mc ≤ 64)) == true) (.bool (decide (0 ≤ mt) && decide (mt ≤ 64))) :: (.bool ((decide (1 ≤ mc) && decide (mc ≤ 64)) && (decide (0 ≤ mt) && decide (mt ≤ 64))) : Value) :: (.bool ((decide (1 ≤ mc) && decide (mc ≤ 64)) && (decide (0 ≤ mt) && decide (mt ≤ 64))) : Value) :: onlyIf (((decide (1 ≤ mc) && decide (mc ≤ 64)) && (decide (0 ≤ mt) && decide (mt ≤ 64))) == true) (.pointer (some ⟨w.heap.size, 2, none⟩)) :: onlyIf (((decide (1 ≤ mc) && decide (mc ≤ 64)) && (decide (0 ≤ mt) && decide (mt ≤ 64))) == true) (.int .i64 c) :: onlyIf (((decide (1 ≤ mc) && decide (mc ≤ 64)) && (decide (0 ≤ mt) && decide (mt ≤ 64))) == true) (.bool (decide (0 ≤ c) && decide (c ≤ 1000000))) :: (.bool (((decide (1 ≤ mc) && decide (mc ≤ 64)) && (decide (0 ≤ mt) && decide (mt ≤ 64))) && (decide (0 ≤ c) && decide (c ≤ 1000000))) : Value) :: (.bool (((decide (1 ≤ mc) && decide (mc ≤ 64)) && (decide (0 ≤ mt) && decide (mt ≤ 64))) && (decide (0 ≤ c) && decide (c ≤ 1000000))) : Value) :: onlyIf ((((decide (1 ≤ mc) && decide (mc ≤ 64)) && (decide (0 ≤ mt) && decide (mt ≤ 64))) && (decide (0 ≤ c) && decide (c ≤ 1000000))) == true) (.pointer (some ⟨w.heap.size, 3, none⟩)) :: onlyIf ((((decide (1 ≤ mc) && decide (mc ≤ 64)) && (decide (0 ≤ mt) && decide (mt ≤ 64))) && (decide (0 ≤ c) && decide (c ≤ 1000000))) == true) (.int .i64 t) :: onlyIf ((((decide (1 ≤ mc) && decide (mc ≤ 64)) && (decide (0 ≤ mt) && decide (mt ≤ 64))) && (decide (0 ≤ c) && decide (c ≤ 1000000))) == true) (.bool (decide (0 ≤ t) && decide (t ≤ 1000000))) :: (.bool ((((decide (1 ≤ mc) && decide (mc ≤ 64)) && (decide (0 ≤ mt) && decide (mt ≤ 64))) && (decide (0 ≤ c) && decide (c ≤ 1000000))) && (decide (0 ≤ t) && decide (t ≤ 1000000))) : Value) :: (.bool ((((decide (1 ≤ mc) && decide (mc ≤ 64)) && (decide (0 ≤ mt) && decide (mt ≤ 64))) && (decide (0 ≤ c) && decide (c ≤ 1000000))) && (decide (0 ≤ t) && decide (t ≤ 1000000))) : Value) :: onlyIf (((((decide (1 ≤ mc) && decide (mc ≤ 64)) && (decide (0 ≤ mt) && decide (mt ≤ 64))) && (decide (0 ≤ c) && decide (c ≤ 1000000))) && (decide (0 ≤ t) && decide (t ≤ 1000000))) == true) (.pointer (some ⟨w.heap.size, 2, none⟩)) :: onlyIf (((((decide (1 ≤ mc) && decide (mc ≤ 64)) && (decide (0 ≤ mt) && decide (mt ≤ 64))) && (decide (0 ≤ c) && decide (c ≤ 1000000))) && (decide (0 ≤ t) && decide (t ≤ 1000000))) == true) (.int .i64 c) :: onlyIf (((((decide (1 ≤ mc) && decide (mc ≤ 64)) && (decide (0 ≤ mt) && decide (mt ≤ 64))) && (decide (0 ≤ c) && decide (c ≤ 1000000))) && (decide (0 ≤ t) && decide (t ≤ 1000000))) == true) (.bool (decide (0 < c))) :: onlyIf (((((decide (1 ≤ mc) && decide (mc ≤ 64)) && (decide (0 ≤ mt) && decide (mt ≤ 64))) && (decide (0 ≤ c) && decide (c ≤ 1000000))) && (decide (0 ≤ t) && decide (t ≤ 1000000))) == true) (.bool (decide (0 < c))) :: onlyIf ((((((decide (1 ≤ mc) && decide (mc ≤ 64)) && (decide (0 ≤ mt) && decide (mt ≤ 64))) && (decide (0 ≤ c) && decide (c ≤ 1000000))) && (decide (0 ≤ t) && decide (t ≤ 1000000))) == true) && ((decide (0 < c)) == false)) (.pointer (some ⟨w.heap.size, 3, none⟩)) :: onlyIf ((((((decide (1 ≤ mc) && decide (mc ≤ 64)) && (decide (0 ≤ mt) && decide (mt ≤ 64))) && (decide (0 ≤ c) && decide (c ≤ 1000000))) && (decide (0 ≤ t) && decide (t ≤ 1000000))) == true) && ((decide (0 < c)) == false)) (.int .i64 t) :: onlyIf ((((((decide (1 ≤ mc) && decide (mc ≤ 64)) && (decide (0 ≤ mt) && decide (mt ≤ 64))) && (decide (0 ≤ c) && decide (c ≤ 1000000))) && (decide (0 ≤ t) && decide (t ≤ 1000000))) == true) && ((decide (0 < c)) == false)) (.bool (t == 0)) :: onlyIf (((((decide (1 ≤ mc) && decide (mc ≤ 64)) && (decide (0 ≤ mt) && decide (mt ≤ 64))) && (decide (0 ≤ c) && decide (c ≤ 1000000))) && (decide (0 ≤ t) && decide (t ≤ 1000000))) == true) (.bool ((decide (0 < c)) || (t == 0))) :: (.bool (((((decide (1 ≤ mc) && decide (mc ≤ 64)) && (decide (0 ≤ mt) && decide (mt ≤ 64))) && (decide (0 ≤ c) && decide (c ≤ 1000000))) && (decide (0 ≤ t) && decide (t ≤ 1000000))) && ((decide (0 < c)) || (t == 0))) : Value) :: (.bool (((((decide (1 ≤ mc) && decide (mc ≤ 64)) && (decide (0 ≤ mt) && decide (mt ≤ 64))) && (decide (0 ≤ c) && decide (c ≤ 1000000))) && (decide (0 ≤ t) && decide (t ≤ 1000000))) && ((decide (0 < c)) || (t == 0))) : Value) :: onlyIf ((((((decide (1 ≤ mc) && decide (mc ≤ 64)) && (decide (0 ≤ mt) && decide (mt ≤ 64))) && (decide (0 ≤ c) && decide (c ≤ 1000000))) && (decide (0 ≤ t) && decide (t ≤ 1000000))) && ((decide (0 < c)) || (t == 0))) == true) (.agg #[.int .i64 mc, .int .i64 mt, .int .i64 c, .int .i64 t, .bool m, .bool r]) :: onlyIf ((((((decide (1 ≤ mc) && decide (mc ≤ 64)) && (decide (0 ≤ mt) && decide (mt ≤ 64))) && (decide (0 ≤ c) && decide (c ≤ 1000000))) && (decide (0 ≤ t) && decide (t ≤ 1000000))) && ((decide (0 < c)) || (t == 0))) == true) (.agg #[.int .i64 mc, .int .i64 mt, .int .i64 c, .int .i64 t, .bool m, .bool r]) :: onlyIf ((((((decide (1 ≤ mc) && decide (mc ≤ 64)) && (decide (0 ≤ mt) && decide (mt ≤ 64))) && (decide (0 ≤ c) && decide (c ≤ 1000000))) && (decide (0 ≤ t) && decide (t ≤ 1000000))) && ((decide (0 < c)) || (t == 0))) == true) (.agg #[.int .i64 mc, .int .i64 mt, .int .i64 c, .int .i64 t, .bool m, .bool (D && !m)]) :: onlyIf ((((((decide (1 ≤ mc) && decide (mc ≤ 64)) && (decide (0 ≤ mt) && decide (mt ≤ 64))) && (decide (0 ≤ c) && decide (c ≤ 1000000))) && (decide (0 ≤ t) && decide (t ≤ 1000000))) && ((decide (0 < c)) || (t == 0))) == true) (.bool (r == (D && !m))) :: (.bool ((((((decide (1 ≤ mc) && decide (mc ≤ 64)) && (decide (0 ≤ mt) && decide (mt ≤ 64))) && (decide (0 ≤ c) && decide (c ≤ 1000000))) && (decide (0 ≤ t) && decide (t ≤ 1000000))) && ((decide (0 < c)) || (t == 0))) && (r == (D && !m))) : Value) :: (.bool ((((((decide (1 ≤ mc) && decide (mc ≤ 64)) && (decide (0 ≤ mt) && decide (mt ≤ 64))) && (decide (0 ≤ c) && decide (c ≤ 1000000))) && (decide (0 ≤ t) && decide (t ≤ 1000000))) && ((decide (0 < c)) || (t == 0))) && (r == (D && !m))) : Value) :: ([] : List Value)) rfl hs hd hrest (fun j d hj => by have h := hdone j d hj; rw [hV.out] at h; exact h)
  clear hs hd hdone hrest hV V
  subst ea
  simp only [written, List.append_eq, Array.toList_append, List.append_toArray, List.map_append, List.cons_append, List.nil_append, List.map_cons, List.map_nil, List.zip_cons_cons, List.zip_nil_right, putAll]
  simp only [Exit.then, Act.put, List.setIfInBounds_toArray, List.set_cons_zero, List.set_cons_succ]
  go_wp2
  go_ret
  refine ⟨ret_bool ?_, below_comp hb1 hS2⟩
  rw [Bool.eq_iff_iff, HB.out.2]
  clear HB HD
  rcases m with _ | _ <;> rcases r with _ | _ <;> rcases D with _ | _ <;> simp <;> omega

set_option maxHeartbeats 4000000 in
set_option maxRecDepth 100000 in
theorem spec_vectorok (e : VectorM) (w : World) :
    Calls Try.prog 16 #[e.val] w fun r w' => r = .returned (.bool (decide e.Ok)) ∧ Below w.heap.size w w' := by
  obtain ⟨mc, mt, c, t, m, r⟩ := e
  unfold VectorM.val
  obtain ⟨D, HD⟩ : ∃ B : Bool, Hid (VectorM.due ⟨mc, mt, c, t, m, r⟩ = B) := ⟨_, Lib.hid rfl⟩
  obtain ⟨B, HB⟩ : ∃ B : Bool, Hid (B = decide (VectorM.Ok ⟨mc, mt, c, t, m, r⟩) ∧ (B = true ↔ (1 ≤ mc ∧ mc ≤ 64) ∧ (0 ≤ mt ∧ mt ≤ 64) ∧ (0 ≤ c ∧ c ≤ 1000000) ∧ (0 ≤ t ∧ t ≤ 1000000) ∧ (0 < c ∨ t = 0) ∧ r = (D && !m))) := ⟨_, Lib.hid ⟨rfl, decide_eq_true_iff.trans (ok_of mc mt c t m r D HD.out)⟩⟩
  rw [← HB.out.1]
  have HC : Hid (∀ W, Calls Try.prog 47 #[.agg #[.int .i64 mc, .int .i64 mt, .int .i64 c, .int .i64 t, .bool m, .bool r]] W fun e w' => e = .returned (.bool D) ∧ Below W.heap.size W w') := Lib.hid fun W => by
    have h := spec_due ⟨mc, mt, c, t, m, r⟩ W
    rwa [HD.out] at h
  dsimp only
  by_cases c0 : 1 ≤ mc ∧ mc ≤ 64
  case neg =>
    obtain rfl : B = false := by rw [HB.out.1]; exact decide_eq_false (fun h => c0 ((ok_of mc mt c t m r D HD.out).1 h).1)
    have Y0 := Lib.hid fun W => spec_in_no mc 1 64 W c0
    clear c0 HB HD HC
    go_enter Try.func16, Try.ntmps16
    go_wp2_with (first
      | (go_at_call_of 46 (Value.int IntKind.i64 mc); refine (Y0.out _).mono ?_; rintro e w' ⟨rfl, rfl⟩))
    go_ret
    exact ⟨rfl, below_new _⟩
  have Y0 := Lib.hid fun W => spec_in_yes mc 1 64 W c0
  have i0 := c0.1
  have j0 := c0.2
  by_cases c1 : 0 ≤ mt ∧ mt ≤ 64
  case neg =>
    obtain rfl : B = false := by rw [HB.out.1]; exact decide_eq_false (fun h => c1 ((ok_of mc mt c t m r D HD.out).1 h).2.1)
    have Y1 := Lib.hid fun W => spec_in_no mt 0 64 W c1
    clear c1 HB HD HC
    go_enter Try.func16, Try.ntmps16
    go_wp2_with (first
      | (go_at_call_of 46 (Value.int IntKind.i64 mc); refine (Y0.out _).mono ?_; rintro e w' ⟨rfl, rfl⟩)
      | (go_at_call_of 46 (Value.int IntKind.i64 mt); refine (Y1.out _).mono ?_; rintro e w' ⟨rfl, rfl⟩))
    go_ret
    exact ⟨rfl, below_new _⟩
  have Y1 := Lib.hid fun W => spec_in_yes mt 0 64 W c1
  have i1 := c1.1
  have j1 := c1.2
  by_cases c2 : 0 ≤ c ∧ c ≤ 1000000
  case neg =>
    obtain rfl : B = false := by rw [HB.out.1]; exact decide_eq_false (fun h => c2 ((ok_of mc mt c t m r D HD.out).1 h).2.2.1)
    have Y2 := Lib.hid fun W => spec_in_no c 0 1000000 W c2
    clear c2 HB HD HC
    go_enter Try.func16, Try.ntmps16
    go_wp2_with (first
      | (go_at_call_of 46 (Value.int IntKind.i64 mc); refine (Y0.out _).mono ?_; rintro e w' ⟨rfl, rfl⟩)
      | (go_at_call_of 46 (Value.int IntKind.i64 mt); refine (Y1.out _).mono ?_; rintro e w' ⟨rfl, rfl⟩)
      | (go_at_call_of 46 (Value.int IntKind.i64 c); refine (Y2.out _).mono ?_; rintro e w' ⟨rfl, rfl⟩))
    go_ret
    exact ⟨rfl, below_new _⟩
  have Y2 := Lib.hid fun W => spec_in_yes c 0 1000000 W c2
  have i2 := c2.1
  have j2 := c2.2
  by_cases c3 : 0 ≤ t ∧ t ≤ 1000000
  case neg =>
    obtain rfl : B = false := by rw [HB.out.1]; exact decide_eq_false (fun h => c3 ((ok_of mc mt c t m r D HD.out).1 h).2.2.2.1)
    have Y3 := Lib.hid fun W => spec_in_no t 0 1000000 W c3
    clear c3 HB HD HC
    go_enter Try.func16, Try.ntmps16
    go_wp2_with (first
      | (go_at_call_of 46 (Value.int IntKind.i64 mc); refine (Y0.out _).mono ?_; rintro e w' ⟨rfl, rfl⟩)
      | (go_at_call_of 46 (Value.int IntKind.i64 mt); refine (Y1.out _).mono ?_; rintro e w' ⟨rfl, rfl⟩)
      | (go_at_call_of 46 (Value.int IntKind.i64 c); refine (Y2.out _).mono ?_; rintro e w' ⟨rfl, rfl⟩)
      | (go_at_call_of 46 (Value.int IntKind.i64 t); refine (Y3.out _).mono ?_; rintro e w' ⟨rfl, rfl⟩))
    go_ret
    exact ⟨rfl, below_new _⟩
  have Y3 := Lib.hid fun W => spec_in_yes t 0 1000000 W c3
  have i3 := c3.1
  have j3 := c3.2
  clear c0 c1 c2 c3
  go_enter Try.func16, Try.ntmps16
  go_upto_region 3 with (first
    | (go_at_call_of 46 (Value.int IntKind.i64 mc); refine (Y0.out _).mono ?_; rintro e w' ⟨rfl, rfl⟩)
    | (go_at_call_of 46 (Value.int IntKind.i64 mt); refine (Y1.out _).mono ?_; rintro e w' ⟨rfl, rfl⟩)
    | (go_at_call_of 46 (Value.int IntKind.i64 c); refine (Y2.out _).mono ?_; rintro e w' ⟨rfl, rfl⟩)
    | (go_at_call_of 46 (Value.int IntKind.i64 t); refine (Y3.out _).mono ?_; rintro e w' ⟨rfl, rfl⟩))
  obtain ⟨w1, hw1⟩ : ∃ w1, w1 = w.alloc (.cells #[.int .i64 mc, .int .i64 mt, .int .i64 c, .int .i64 t, .bool m, .bool r] 25) := ⟨_, rfl⟩
  have hb1 : Below w.heap.size w w1 := hw1 ▸ below_new _
  have HB1 : Hid (Box w1 w.heap.size #[.int .i64 mc, .int .i64 mt, .int .i64 c, .int .i64 t, .bool m, .bool r] 25) := Lib.hid (hw1 ▸ Box.new w #[.int .i64 mc, .int .i64 mt, .int .i64 c, .int .i64 t, .bool m, .bool r] 25)
  have hg1 : w.heap.size < w1.heap.size := by rw [hw1]; simp
  rw [← hw1]
  clear hw1
  obtain ⟨V, hV⟩ : ∃ V, Hid (V = Vals [.pointer (some ⟨w.heap.size, 2, none⟩), .int .i64 c, .bool (decide (0 < c)), .bool (decide (0 < c)), onlyIf ((decide (0 < c)) == false) (.pointer (some ⟨w.heap.size, 3, none⟩)), onlyIf ((decide (0 < c)) == false) (.int .i64 t), onlyIf ((decide (0 < c)) == false) (.bool (t == 0)), .bool ((decide (0 < c)) || (t == 0)), .bool ((decide (0 < c)) || (t == 0)), onlyIf (((decide (0 < c)) || (t == 0)) == true) (.pointer (some ⟨w.heap.size, 5, none⟩)), onlyIf (((decide (0 < c)) || (t == 0)) == true) (.bool r), onlyIf (((decide (0 < c)) || (t == 0)) == true) (.agg #[.int .i64 mc, .int .i64 mt, .int .i64 c, .int .i64 t, .bool m, .bool r]), onlyIf (((decide (0 < c)) || (t == 0)) == true) (.bool D), onlyIf (((decide (0 < c)) || (t == 0)) == true) (.bool D), onlyIf ((((decide (0 < c)) || (t == 0)) == true) && (D == true)) (.pointer (some ⟨w.heap.size, 4, none⟩)), onlyIf ((((decide (0 < c)) || (t == 0)) == true) && (D == true)) (.bool m), onlyIf ((((decide (0 < c)) || (t == 0)) == true) && (D == true)) (.bool (!m)), onlyIf (((decide (0 < c)) || (t == 0)) == true) (.bool (D && (!m))), onlyIf (((decide (0 < c)) || (t == 0)) == true) (.bool (r == (D && (!m)))), .bool (((decide (0 < c)) || (t == 0)) && (r == (D && (!m)))), .bool (((decide (0 < c)) || (t == 0)) && (r == (D && (!m))))] []) := ⟨_, Lib.hid rfl⟩
  refine wp_region_valuesG (by kernel_rfl) (fun W => Below w1.heap.size w1 W) V
    45 rfl (by kernel_rfl) (by kernel_rfl) below_drew (eachOp_all ?_) ?_
  · refine ⟨?_, ?_, ?_, ?_, ?_, ?_, ?_, ?_, ?_, ?_, ?_, ?_, ?_, ?_, ?_, ?_, ?_, ?_, ?_, ?_, ?_, trivial⟩
    · intro a W hd hS hdep hfree
      have x1 : a.tmps.getD 1 undef = .pointer (some ⟨w.heap.size, 0, none⟩) := hfree 1 (by kernel_rfl)
      clear hd hdep hfree
      refine .inl ⟨wanted_free rfl, ?_⟩
      simp only [Oper.wp, execOp]
      go_simp
      refine Nxt.mk _ rfl (fun _ _ => ?_) hS (fun _ _ h => h)
      (rw [hV.out]; rfl)
    · intro a W hd hS hdep hfree
      have x25 : a.tmps.getD 25 undef = .pointer (some ⟨w.heap.size, 2, none⟩) := by have h := hdep 0 25 (by kernel_rfl) rfl; rw [hV.out] at h; exact h
      clear hd hdep hfree
      refine .inl ⟨wanted_free rfl, ?_⟩
      have c0 : W.cell? ⟨w.heap.size, 2, none⟩ = some (.int .i64 c) := (HB1.out.below hS hg1).cell 2 (by simp)
      simp only [Oper.wp, execOp]
      go_simp
      refine Nxt.mk _ rfl (fun _ _ => ?_) hS (fun _ _ h => h)
      (rw [hV.out]; rfl)
    · intro a W hd hS hdep hfree
      have x26 : a.tmps.getD 26 undef = .int .i64 c := by have h := hdep 1 26 (by kernel_rfl) rfl; rw [hV.out] at h; exact h
      clear hd hdep hfree
      refine .inl ⟨wanted_free rfl, ?_⟩
      simp only [Oper.wp, execOp]
      go_simp
      refine Nxt.mk _ rfl (fun _ _ => ?_) hS (fun _ _ h => h)
      rw [hV.out]; first | rfl | (show (_ : Value) = _; simp)
    · intro a W hd hS hdep hfree
      have x27 : a.tmps.getD 27 undef = .bool (decide (0 < c)) := by have h := hdep 2 27 (by kernel_rfl) rfl; rw [hV.out] at h; exact h
      clear hd hdep hfree
      refine .inl ⟨wanted_free rfl, ?_⟩
      simp only [Oper.wp, execOp]
      go_simp
      refine Nxt.mk _ rfl (fun _ _ => ?_) hS (fun _ _ h => h)
      (rw [hV.out]; rfl)
    · intro a W hd hS hdep hfree
      have x28 : a.tmps.getD 28 undef = .bool (decide (0 < c)) := by have h := hdep 3 28 (by kernel_rfl) rfl; rw [hV.out] at h; exact h
      have x1 : a.tmps.getD 1 undef = .pointer (some ⟨w.heap.size, 0, none⟩) := hfree 1 (by kernel_rfl)
      clear hd hdep hfree
      rcases (Bool.eq_false_or_eq_true (((decide (0 < c)) == false))).symm with hE | hE
      · exact .inr ⟨(wanted_sym rfl rfl x28).trans hE, fun _ _ => by rw [hV.out]; exact (onlyIf_neg hE).symm⟩
      refine .inl ⟨(wanted_sym rfl rfl x28).trans hE, ?_⟩
      have hG0 := eq_of_beq hE
      have HE := Lib.hid hE
      clear hE hG0
      simp only [Oper.wp, execOp]
      go_simp
      refine Nxt.mk _ rfl (fun _ _ => ?_) hS (fun _ _ h => h)
      (rw [hV.out]; exact (onlyIf_pos HE.out).symm)
    · intro a W hd hS hdep hfree
      have x28 : a.tmps.getD 28 undef = .bool (decide (0 < c)) := by have h := hdep 3 28 (by kernel_rfl) rfl; rw [hV.out] at h; exact h
      have x29 : a.tmps.getD 29 undef = onlyIf ((decide (0 < c)) == false) (.pointer (some ⟨w.heap.size, 3, none⟩)) := by have h := hdep 4 29 (by kernel_rfl) rfl; rw [hV.out] at h; exact h
      clear hd hdep hfree
      rcases (Bool.eq_false_or_eq_true (((decide (0 < c)) == false))).symm with hE | hE
      · exact .inr ⟨(wanted_sym rfl rfl x28).trans hE, fun _ _ => by rw [hV.out]; exact (onlyIf_neg hE).symm⟩
      refine .inl ⟨(wanted_sym rfl rfl x28).trans hE, ?_⟩
      replace x29 := x29.trans (onlyIf_pos hE)
      have hG0 := eq_of_beq hE
      have HE := Lib.hid hE
      clear hE hG0
      have c0 : W.cell? ⟨w.heap.size, 3, none⟩ = some (.int .i64 t) := (HB1.out.below hS hg1).cell 3 (by simp)
      simp only [Oper.wp, execOp]
      go_simp
      refine Nxt.mk _ rfl (fun _ _ => ?_) hS (fun _ _ h => h)
      (rw [hV.out]; exact (onlyIf_pos HE.out).symm)
    · intro a W hd hS hdep hfree
      have x28 : a.tmps.getD 28 undef = .bool (decide (0 < c)) := by have h := hdep 3 28 (by kernel_rfl) rfl; rw [hV.out] at h; exact h
      have x30 : a.tmps.getD 30 undef = onlyIf ((decide (0 < c)) == false) (.int .i64 t) := by have h := hdep 5 30 (by kernel_rfl) rfl; rw [hV.out] at h; exact h
      clear hd hdep hfree
      rcases (Bool.eq_false_or_eq_true (((decide (0 < c)) == false))).symm with hE | hE
      · exact .inr ⟨(wanted_sym rfl rfl x28).trans hE, fun _ _ => by rw [hV.out]; exact (onlyIf_neg hE).symm⟩
      refine .inl ⟨(wanted_sym rfl rfl x28).trans hE, ?_⟩
      replace x30 := x30.trans (onlyIf_pos hE)
      have hG0 := eq_of_beq hE
      have HE := Lib.hid hE
      clear hE hG0
      simp only [Oper.wp, execOp]
      go_simp
      refine Nxt.mk _ rfl (fun _ _ => ?_) hS (fun _ _ h => h)
      rw [hV.out]; first | exact (onlyIf_pos HE.out).symm | (show (_ : Value) = onlyIf _ _; rw [onlyIf_pos HE.out]; simp)
    · intro a W hd hS hdep hfree
      have x28 : a.tmps.getD 28 undef = .bool (decide (0 < c)) := by have h := hdep 3 28 (by kernel_rfl) rfl; rw [hV.out] at h; exact h
      have x31 : a.tmps.getD 31 undef = onlyIf ((decide (0 < c)) == false) (.bool (t == 0)) := by have h := hdep 6 31 (by kernel_rfl) rfl; rw [hV.out] at h; exact h
      clear hd hdep hfree
      refine .inl ⟨wanted_free rfl, ?_⟩
      rcases (Bool.eq_false_or_eq_true ((decide (0 < c)))).symm with hX | hX
      · have hp : ((decide (0 < c)) == false) = true := by simp [hX]
        replace x31 := x31.trans (onlyIf_pos hp)
        rw [hX] at x28
        replace hX := Lib.hid hX
        simp only [Oper.wp, execOp]
        go_simp
        refine Nxt.mk _ rfl (fun _ _ => ?_) hS (fun _ _ h => h)
        rw [hV.out]; show (_ : Value) = .bool _; rw [hX.out]; rfl
      · rw [hX] at x28
        replace hX := Lib.hid hX
        simp only [Oper.wp, execOp]
        go_simp
        refine Nxt.mk _ rfl (fun _ _ => ?_) hS (fun _ _ h => h)
        rw [hV.out]; show (_ : Value) = .bool _; rw [hX.out]; rfl
    · intro a W hd hS hdep hfree
      have x32 : a.tmps.getD 32 undef = .bool ((decide (0 < c)) || (t == 0)) := by have h := hdep 7 32 (by kernel_rfl) rfl; rw [hV.out] at h; exact h
      clear hd hdep hfree
      refine .inl ⟨wanted_free rfl, ?_⟩
      simp only [Oper.wp, execOp]
      go_simp
      refine Nxt.mk _ rfl (fun _ _ => ?_) hS (fun _ _ h => h)
      (rw [hV.out]; rfl)
    · intro a W hd hS hdep hfree
      have x33 : a.tmps.getD 33 undef = .bool ((decide (0 < c)) || (t == 0)) := by have h := hdep 8 33 (by kernel_rfl) rfl; rw [hV.out] at h; exact h
      have x1 : a.tmps.getD 1 undef = .pointer (some ⟨w.heap.size, 0, none⟩) := hfree 1 (by kernel_rfl)
      clear hd hdep hfree
      rcases (Bool.eq_false_or_eq_true ((((decide (0 < c)) || (t == 0)) == true))).symm with hE | hE
      · exact .inr ⟨(wanted_sym rfl rfl x33).trans hE, fun _ _ => by rw [hV.out]; exact (onlyIf_neg hE).symm⟩
      refine .inl ⟨(wanted_sym rfl rfl x33).trans hE, ?_⟩
      have hG0 := eq_of_beq hE
      have HE := Lib.hid hE
      clear hE hG0
      simp only [Oper.wp, execOp]
      go_simp
      refine Nxt.mk _ rfl (fun _ _ => ?_) hS (fun _ _ h => h)
      (rw [hV.out]; exact (onlyIf_pos HE.out).symm)
    · intro a W hd hS hdep hfree
      have x33 : a.tmps.getD 33 undef = .bool ((decide (0 < c)) || (t == 0)) := by have h := hdep 8 33 (by kernel_rfl) rfl; rw [hV.out] at h; exact h
      have x34 : a.tmps.getD 34 undef = onlyIf (((decide (0 < c)) || (t == 0)) == true) (.pointer (some ⟨w.heap.size, 5, none⟩)) := by have h := hdep 9 34 (by kernel_rfl) rfl; rw [hV.out] at h; exact h
      clear hd hdep hfree
      rcases (Bool.eq_false_or_eq_true ((((decide (0 < c)) || (t == 0)) == true))).symm with hE | hE
      · exact .inr ⟨(wanted_sym rfl rfl x33).trans hE, fun _ _ => by rw [hV.out]; exact (onlyIf_neg hE).symm⟩
      refine .inl ⟨(wanted_sym rfl rfl x33).trans hE, ?_⟩
      replace x34 := x34.trans (onlyIf_pos hE)
      have hG0 := eq_of_beq hE
      have HE := Lib.hid hE
      clear hE hG0
      have c0 : W.cell? ⟨w.heap.size, 5, none⟩ = some (.bool r) := (HB1.out.below hS hg1).cell 5 (by simp)
      simp only [Oper.wp, execOp]
      go_simp
      refine Nxt.mk _ rfl (fun _ _ => ?_) hS (fun _ _ h => h)
      (rw [hV.out]; exact (onlyIf_pos HE.out).symm)
    · intro a W hd hS hdep hfree
      have x33 : a.tmps.getD 33 undef = .bool ((decide (0 < c)) || (t == 0)) := by have h := hdep 8 33 (by kernel_rfl) rfl; rw [hV.out] at h; exact h
      have x1 : a.tmps.getD 1 undef = .pointer (some ⟨w.heap.size, 0, none⟩) := hfree 1 (by kernel_rfl)
      clear hd hdep hfree
      rcases (Bool.eq_false_or_eq_true ((((decide (0 < c)) || (t == 0)) == true))).symm with hE | hE
      · exact .inr ⟨(wanted_sym rfl rfl x33).trans hE, fun _ _ => by rw [hV.out]; exact (onlyIf_neg hE).symm⟩
      refine .inl ⟨(wanted_sym rfl rfl x33).trans hE, ?_⟩
      have hG0 := eq_of_beq hE
      have HE := Lib.hid hE
      clear hE hG0
      have c0 : W.cell? ⟨w.heap.size, 0, none⟩ = some (.int .i64 mc) := (HB1.out.below hS hg1).cell 0 (by simp)
      have c1 : W.cell? ⟨w.heap.size, 1, none⟩ = some (.int .i64 mt) := (HB1.out.below hS hg1).cell 1 (by simp)
      have c2 : W.cell? ⟨w.heap.size, 2, none⟩ = some (.int .i64 c) := (HB1.out.below hS hg1).cell 2 (by simp)
      have c3 : W.cell? ⟨w.heap.size, 3, none⟩ = some (.int .i64 t) := (HB1.out.below hS hg1).cell 3 (by simp)
      have c4 : W.cell? ⟨w.heap.size, 4, none⟩ = some (.bool m) := (HB1.out.below hS hg1).cell 4 (by simp)
      have c5 : W.cell? ⟨w.heap.size, 5, none⟩ = some (.bool r) := (HB1.out.below hS hg1).cell 5 (by simp)
      simp only [Oper.wp, execOp]
      go_simp
      refine Nxt.mk _ rfl (fun _ _ => ?_) hS (fun _ _ h => h)
      (rw [hV.out]; exact (onlyIf_pos HE.out).symm)
    · intro a W hd hS hdep hfree
      have x33 : a.tmps.getD 33 undef = .bool ((decide (0 < c)) || (t == 0)) := by have h := hdep 8 33 (by kernel_rfl) rfl; rw [hV.out] at h; exact h
      have x36 : a.tmps.getD 36 undef = onlyIf (((decide (0 < c)) || (t == 0)) == true) (.agg #[.int .i64 mc, .int .i64 mt, .int .i64 c, .int .i64 t, .bool m, .bool r]) := by have h := hdep 11 36 (by kernel_rfl) rfl; rw [hV.out] at h; exact h
      clear hd hdep hfree
      rcases (Bool.eq_false_or_eq_true ((((decide (0 < c)) || (t == 0)) == true))).symm with hE | hE
      · exact .inr ⟨(wanted_sym rfl rfl x33).trans hE, fun _ _ => by rw [hV.out]; exact (onlyIf_neg hE).symm⟩
      refine .inl ⟨(wanted_sym rfl rfl x33).trans hE, ?_⟩
      replace x36 := x36.trans (onlyIf_pos hE)
      have hG0 := eq_of_beq hE
      have HE := Lib.hid hE
      clear hE hG0
      simp only [Oper.wp, execOp]
      go_simp
      refine (HC.out W).mono ?_
      rintro e W' ⟨rfl, hb⟩
      exact Nxt.mk _ rfl (fun _ _ => by (rw [hV.out]; exact (onlyIf_pos HE.out).symm)) (below_comp hS hb) (fun j u h => by rw [hV.out] at h ⊢; exact Vals.below hb j u h)
    · intro a W hd hS hdep hfree
      have x33 : a.tmps.getD 33 undef = .bool ((decide (0 < c)) || (t == 0)) := by have h := hdep 8 33 (by kernel_rfl) rfl; rw [hV.out] at h; exact h
      have x37 : a.tmps.getD 37 undef = onlyIf (((decide (0 < c)) || (t == 0)) == true) (.bool D) := by have h := hdep 12 37 (by kernel_rfl) rfl; rw [hV.out] at h; exact h
      clear hd hdep hfree
      rcases (Bool.eq_false_or_eq_true ((((decide (0 < c)) || (t == 0)) == true))).symm with hE | hE
      · exact .inr ⟨(wanted_sym rfl rfl x33).trans hE, fun _ _ => by rw [hV.out]; exact (onlyIf_neg hE).symm⟩
      refine .inl ⟨(wanted_sym rfl rfl x33).trans hE, ?_⟩
      replace x37 := x37.trans (onlyIf_pos hE)
      have hG0 := eq_of_beq hE
      have HE := Lib.hid hE
      clear hE hG0
      simp only [Oper.wp, execOp]
      go_simp
      refine Nxt.mk _ rfl (fun _ _ => ?_) hS (fun _ _ h => h)
      (rw [hV.out]; exact (onlyIf_pos HE.out).symm)
    · intro a W hd hS hdep hfree
      have x38 : a.tmps.getD 38 undef = onlyIf (((decide (0 < c)) || (t == 0)) == true) (.bool D) := by have h := hdep 13 38 (by kernel_rfl) rfl; rw [hV.out] at h; exact h
      have x1 : a.tmps.getD 1 undef = .pointer (some ⟨w.heap.size, 0, none⟩) := hfree 1 (by kernel_rfl)
      clear hd hdep hfree
      rcases (Bool.eq_false_or_eq_true (((((decide (0 < c)) || (t == 0)) == true) && (D == true)))).symm with hE | hE
      · exact .inr ⟨(wanted_cond rfl rfl x38).trans hE, fun _ _ => by rw [hV.out]; exact (onlyIf_neg hE).symm⟩
      refine .inl ⟨(wanted_cond rfl rfl x38).trans hE, ?_⟩
      have hC1 : (((decide (0 < c)) || (t == 0)) == true) = true := and_l hE
      replace x38 := x38.trans (onlyIf_pos hC1)
      have hG0 := eq_of_beq hC1
      have hG1 := eq_of_beq (and_r hE)
      have HE := Lib.hid hE
      clear hE hC1 hG0 hG1
      simp only [Oper.wp, execOp]
      go_simp
      refine Nxt.mk _ rfl (fun _ _ => ?_) hS (fun _ _ h => h)
      (rw [hV.out]; exact (onlyIf_pos HE.out).symm)
    · intro a W hd hS hdep hfree
      have x38 : a.tmps.getD 38 undef = onlyIf (((decide (0 < c)) || (t == 0)) == true) (.bool D) := by have h := hdep 13 38 (by kernel_rfl) rfl; rw [hV.out] at h; exact h
      have x39 : a.tmps.getD 39 undef = onlyIf ((((decide (0 < c)) || (t == 0)) == true) && (D == true)) (.pointer (some ⟨w.heap.size, 4, none⟩)) := by have h := hdep 14 39 (by kernel_rfl) rfl; rw [hV.out] at h; exact h
      clear hd hdep hfree
      rcases (Bool.eq_false_or_eq_true (((((decide (0 < c)) || (t == 0)) == true) && (D == true)))).symm with hE | hE
      · exact .inr ⟨(wanted_cond rfl rfl x38).trans hE, fun _ _ => by rw [hV.out]; exact (onlyIf_neg hE).symm⟩
      refine .inl ⟨(wanted_cond rfl rfl x38).trans hE, ?_⟩
      have hC1 : (((decide (0 < c)) || (t == 0)) == true) = true := and_l hE
      replace x38 := x38.trans (onlyIf_pos hC1)
      replace x39 := x39.trans (onlyIf_pos hE)
      have hG0 := eq_of_beq hC1
      have hG1 := eq_of_beq (and_r hE)
      have HE := Lib.hid hE
      clear hE hC1 hG0 hG1
      have c0 : W.cell? ⟨w.heap.size, 4, none⟩ = some (.bool m) := (HB1.out.below hS hg1).cell 4 (by simp)
      simp only [Oper.wp, execOp]
      go_simp
      refine Nxt.mk _ rfl (fun _ _ => ?_) hS (fun _ _ h => h)
      (rw [hV.out]; exact (onlyIf_pos HE.out).symm)
    · intro a W hd hS hdep hfree
      have x38 : a.tmps.getD 38 undef = onlyIf (((decide (0 < c)) || (t == 0)) == true) (.bool D) := by have h := hdep 13 38 (by kernel_rfl) rfl; rw [hV.out] at h; exact h
      have x40 : a.tmps.getD 40 undef = onlyIf ((((decide (0 < c)) || (t == 0)) == true) && (D == true)) (.bool m) := by have h := hdep 15 40 (by kernel_rfl) rfl; rw [hV.out] at h; exact h
      clear hd hdep hfree
      rcases (Bool.eq_false_or_eq_true (((((decide (0 < c)) || (t == 0)) == true) && (D == true)))).symm with hE | hE
      · exact .inr ⟨(wanted_cond rfl rfl x38).trans hE, fun _ _ => by rw [hV.out]; exact (onlyIf_neg hE).symm⟩
      refine .inl ⟨(wanted_cond rfl rfl x38).trans hE, ?_⟩
      have hC1 : (((decide (0 < c)) || (t == 0)) == true) = true := and_l hE
      replace x38 := x38.trans (onlyIf_pos hC1)
      replace x40 := x40.trans (onlyIf_pos hE)
      have hG0 := eq_of_beq hC1
      have hG1 := eq_of_beq (and_r hE)
      have HE := Lib.hid hE
      clear hE hC1 hG0 hG1
      simp only [Oper.wp, execOp]
      go_simp
      refine Nxt.mk _ rfl (fun _ _ => ?_) hS (fun _ _ h => h)
      (rw [hV.out]; exact (onlyIf_pos HE.out).symm)
    · intro a W hd hS hdep hfree
      have x33 : a.tmps.getD 33 undef = .bool ((decide (0 < c)) || (t == 0)) := by have h := hdep 8 33 (by kernel_rfl) rfl; rw [hV.out] at h; exact h
      have x38 : a.tmps.getD 38 undef = onlyIf (((decide (0 < c)) || (t == 0)) == true) (.bool D) := by have h := hdep 13 38 (by kernel_rfl) rfl; rw [hV.out] at h; exact h
      have x41 : a.tmps.getD 41 undef = onlyIf ((((decide (0 < c)) || (t == 0)) == true) && (D == true)) (.bool (!m)) := by have h := hdep 16 41 (by kernel_rfl) rfl; rw [hV.out] at h; exact h
      clear hd hdep hfree
      rcases (Bool.eq_false_or_eq_true ((((decide (0 < c)) || (t == 0)) == true))).symm with hE | hE
      · exact .inr ⟨(wanted_sym rfl rfl x33).trans hE, fun _ _ => by rw [hV.out]; exact (onlyIf_neg hE).symm⟩
      refine .inl ⟨(wanted_sym rfl rfl x33).trans hE, ?_⟩
      replace x38 := x38.trans (onlyIf_pos hE)
      have hG0 := eq_of_beq hE
      have HE := Lib.hid hE
      clear hE hG0
      rcases (Bool.eq_false_or_eq_true (D)).symm with hX | hX
      · rw [hX] at x38
        replace hX := Lib.hid hX
        simp only [Oper.wp, execOp]
        go_simp
        refine Nxt.mk _ rfl (fun _ _ => ?_) hS (fun _ _ h => h)
        rw [hV.out]; show (_ : Value) = onlyIf _ _; rw [onlyIf_pos HE.out, hX.out]; rfl
      · have hp : ((((decide (0 < c)) || (t == 0)) == true) && (D == true)) = true := by have hE := HE.out; first | simp [hX, hE] | (rw [hE, hX]; rfl) | simp_all
        replace x41 := x41.trans (onlyIf_pos hp)
        rw [hX] at x38
        replace hX := Lib.hid hX
        simp only [Oper.wp, execOp]
        go_simp
        refine Nxt.mk _ rfl (fun _ _ => ?_) hS (fun _ _ h => h)
        rw [hV.out]; show (_ : Value) = onlyIf _ _; rw [onlyIf_pos HE.out, hX.out]; rfl
    · intro a W hd hS hdep hfree
      have x33 : a.tmps.getD 33 undef = .bool ((decide (0 < c)) || (t == 0)) := by have h := hdep 8 33 (by kernel_rfl) rfl; rw [hV.out] at h; exact h
      have x35 : a.tmps.getD 35 undef = onlyIf (((decide (0 < c)) || (t == 0)) == true) (.bool r) := by have h := hdep 10 35 (by kernel_rfl) rfl; rw [hV.out] at h; exact h
      have x42 : a.tmps.getD 42 undef = onlyIf (((decide (0 < c)) || (t == 0)) == true) (.bool (D && (!m))) := by have h := hdep 17 42 (by kernel_rfl) rfl; rw [hV.out] at h; exact h
      clear hd hdep hfree
      rcases (Bool.eq_false_or_eq_true ((((decide (0 < c)) || (t == 0)) == true))).symm with hE | hE
      · exact .inr ⟨(wanted_sym rfl rfl x33).trans hE, fun _ _ => by rw [hV.out]; exact (onlyIf_neg hE).symm⟩
      refine .inl ⟨(wanted_sym rfl rfl x33).trans hE, ?_⟩
      replace x35 := x35.trans (onlyIf_pos hE)
      replace x42 := x42.trans (onlyIf_pos hE)
      have hG0 := eq_of_beq hE
      have HE := Lib.hid hE
      clear hE hG0
      simp only [Oper.wp, execOp]
      go_simp
      refine Nxt.mk _ rfl (fun _ _ => ?_) hS (fun _ _ h => h)
      rw [hV.out]; first | exact (onlyIf_pos HE.out).symm | (show (_ : Value) = onlyIf _ _; rw [onlyIf_pos HE.out]; simp)
    · intro a W hd hS hdep hfree
      have x33 : a.tmps.getD 33 undef = .bool ((decide (0 < c)) || (t == 0)) := by have h := hdep 8 33 (by kernel_rfl) rfl; rw [hV.out] at h; exact h
      have x43 : a.tmps.getD 43 undef = onlyIf (((decide (0 < c)) || (t == 0)) == true) (.bool (r == (D && (!m)))) := by have h := hdep 18 43 (by kernel_rfl) rfl; rw [hV.out] at h; exact h
      clear hd hdep hfree
      refine .inl ⟨wanted_free rfl, ?_⟩
      rcases (Bool.eq_false_or_eq_true (((decide (0 < c)) || (t == 0)))).symm with hX | hX
      · rw [hX] at x33
        replace hX := Lib.hid hX
        simp only [Oper.wp, execOp]
        go_simp
        refine Nxt.mk _ rfl (fun _ _ => ?_) hS (fun _ _ h => h)
        rw [hV.out]; show (_ : Value) = .bool _; rw [hX.out]; rfl
      · have hp : (((decide (0 < c)) || (t == 0)) == true) = true := by simp [hX]
        replace x43 := x43.trans (onlyIf_pos hp)
        rw [hX] at x33
        replace hX := Lib.hid hX
        simp only [Oper.wp, execOp]
        go_simp
        refine Nxt.mk _ rfl (fun _ _ => ?_) hS (fun _ _ h => h)
        rw [hV.out]; show (_ : Value) = .bool _; rw [hX.out]; rfl
    · intro a W hd hS hdep hfree
      have x44 : a.tmps.getD 44 undef = .bool (((decide (0 < c)) || (t == 0)) && (r == (D && (!m)))) := by have h := hdep 19 44 (by kernel_rfl) rfl; rw [hV.out] at h; exact h
      clear hd hdep hfree
      refine .inl ⟨wanted_free rfl, ?_⟩
      simp only [Oper.wp, execOp]
      go_simp
      refine Nxt.mk _ rfl (fun _ _ => ?_) hS (fun _ _ h => h)
      (rw [hV.out]; rfl)
  intro a W2 hs hd hS2 hdone hrest
  have ea := written_all [.pointer (some ⟨w.heap.size, 2, none⟩), .int .i64 c, .bool (decide (0 < c)), .bool (decide (0 < c)), onlyIf ((decide (0 < c)) == false) (.pointer (some ⟨w.heap.size, 3, none⟩)), onlyIf ((decide (0 < c)) == false) (.int .i64 t), onlyIf ((decide (0 < c)) == false) (.bool (t == 0)), .bool ((decide (0 < c)) || (t == 0)), .bool ((decide (0 < c)) || (t == 0)), onlyIf (((decide (0 < c)) || (t == 0)) == true) (.pointer (some ⟨w.heap.size, 5, none⟩)), onlyIf (((decide (0 < c)) || (t == 0)) == true) (.bool r), onlyIf (((decide (0 < c)) || (t == 0)) == true) (.agg #[.int .i64 mc, .int .i64 mt, .int .i64 c, .int .i64 t, .bool m, .bool r]), onlyIf (((decide (0 < c)) || (t == 0)) == true) (.bool D), onlyIf (((decide (0 < c)) || (t == 0)) == true) (.bool D), onlyIf ((((decide (0 < c)) || (t == 0)) == true) && (D == true)) (.pointer (some ⟨w.heap.size, 4, none⟩)), onlyIf ((((decide (0 < c)) || (t == 0)) == true) && (D == true)) (.bool m), onlyIf ((((decide (0 < c)) || (t == 0)) == true) && (D == true)) (.bool (!m)), onlyIf (((decide (0 < c)) || (t == 0)) == true) (.bool (D && (!m))), onlyIf (((decide (0 < c)) || (t == 0)) == true) (.bool (r == (D && (!m)))), .bool (((decide (0 < c)) || (t == 0)) && (r == (D && (!m)))), .bool (((decide (0 < c)) || (t == 0)) && (r == (D && (!m))))] rfl hs hd hrest (fun j d hj => by have h := hdone j d hj; rw [hV.out] at h; exact h)
  clear hs hd hdone hrest hV V
  subst ea
  simp only [written, List.append_eq, Array.toList_append, List.append_toArray, List.map_append, List.cons_append, List.nil_append, List.map_cons, List.map_nil, List.zip_cons_cons, List.zip_nil_right, putAll]
  simp only [Exit.then, Act.put, List.setIfInBounds_toArray, List.set_cons_zero, List.set_cons_succ]
  go_wp2
  go_ret
  refine ⟨ret_bool ?_, below_comp hb1 hS2⟩
  rw [Bool.eq_iff_iff, HB.out.2]
  clear HB HD
  rcases m with _ | _ <;> rcases r with _ | _ <;> rcases D with _ | _ <;> simp <;> omega

end Go.Proofs.Ytdcjbojigmgcgaa
