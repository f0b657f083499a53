/- clonePool of both sides. -/
import Derived.Test.YtogiocinhjbdkaaCloneInt
import Derived.Test.YtogiocinhjbdkaaRepPool
import Derived.Test.YtogiocinhjbdkaaBoxes
import Derived.Deep.DeepCutAuto
namespace Go.Proofs.Ytogiocinhjbdkaa
open Go.RowKit
set_option linter.unusedSimpArgs false
set_option linter.unusedVariables false

set_option maxHeartbeats 4000000 in
set_option maxRecDepth 100000 in
theorem impl_clonepool (e : PoolM) (S : Nat → Prop) (v : Value) (w : World) (hn : e.xFree.length ≤ 4194304) (R : PoolM.Rep w S e v) :
    Calls Try.prog 103 #[v] w fun r w' => ∃ v', r = .returned v' ∧ e.Rep w' (Rng w.heap.size w'.heap.size) v' ∧ Below w.heap.size w w' := by
  obtain ⟨S3, v3, rfl, R3, hS3⟩ := R
  obtain ⟨a, g, c, rfl, hV, _⟩ := R3.open
  rw [List.length_map]
  have HX := Lib.hid fun W (h : Below w.heap.size w W) => clone_int a g c e.xFree W hn (hV.later h)
  clear R3 hV hS3
  generalize e.xFree.length = n0 at *
  go_enter Try.func103, Try.ntmps103
  go_wp2_with (go_at_call 150; refine (HX.out _ (by repeat (first | ((with_reducible refine Below.setCell ?_ ?_ _); rotate_left; first | omega | (dsimp only; omega) | (simp; done) | (simp; omega)) | ((with_reducible refine below_setRow ?_ ?_ _); rotate_left; first | omega | (dsimp only; omega) | (simp; done) | (simp; omega)) | with_reducible exact Below.refl _ _ | with_reducible exact below_new _ | with_reducible exact below_drew | with_reducible exact HB9.out | with_reducible exact HB8.out | with_reducible exact HB7.out | with_reducible exact HB6.out | with_reducible exact HB5.out | with_reducible exact HB4.out | with_reducible exact HB3.out | with_reducible exact HB2.out | with_reducible exact HB1.out | (with_reducible apply below_comp; rotate_left; first | with_reducible exact HB9.out | with_reducible exact HB8.out | with_reducible exact HB7.out | with_reducible exact HB6.out | with_reducible exact HB5.out | with_reducible exact HB4.out | with_reducible exact HB3.out | with_reducible exact HB2.out | with_reducible exact HB1.out | with_reducible assumption | with_reducible exact below_new _ | with_reducible exact below_drew)))).mono ?_; rintro r w1 ⟨v1, rfl, ho, hb1⟩; obtain ⟨a1, c1, rfl⟩ := ho.form; have HO := Lib.hid ho; clear ho; have hz1 := hb1.size; (try simp at hz1); (have hl0 : w.heap.size < w1.heap.size := by omega); (have hl1 : w.heap.size + 1 < w1.heap.size := by omega); (apply with_box hb1 (g := w.heap.size)); (focus (repeat (first | (with_reducible exact HP0.out) | (with_reducible exact HP1.out) | (with_reducible exact HP2.out) | (with_reducible exact HP3.out) | (with_reducible exact HQ0.out) | (with_reducible exact HQ1.out) | (with_reducible exact HQ2.out) | (with_reducible exact HQ3.out) | (with_reducible apply Box.new) | (with_reducible apply Box.newAt; simp; done) | (with_reducible apply Box.set) | (with_reducible apply Box.skip; omega) | (with_reducible apply Box.alloc) | (with_reducible apply Box.drew) | (with_reducible apply Box.row) | (with_reducible apply Box.skipRow; omega)))); intro hx0; (try simp only [List.setIfInBounds_toArray, List.set_cons_zero, List.set_cons_succ] at hx0); have k0_0 := hx0.cell 0 (by simp); have k0_1 := hx0.cell 1 (by simp); have k0_2 := hx0.cell 2 (by simp); have k0_3 := hx0.cell 3 (by simp); have fr0 := fun o => hx0.frozen o; (try simp only [List.getElem_toArray, List.getElem_cons_zero, List.getElem_cons_succ] at k0_0); (try simp only [List.getElem_toArray, List.getElem_cons_zero, List.getElem_cons_succ] at k0_1); (try simp only [List.getElem_toArray, List.getElem_cons_zero, List.getElem_cons_succ] at k0_2); (try simp only [List.getElem_toArray, List.getElem_cons_zero, List.getElem_cons_succ] at k0_3); (apply with_box hb1 (g := w.heap.size + 1)); (focus (repeat (first | (with_reducible exact HP0.out) | (with_reducible exact HP1.out) | (with_reducible exact HP2.out) | (with_reducible exact HP3.out) | (with_reducible exact HQ0.out) | (with_reducible exact HQ1.out) | (with_reducible exact HQ2.out) | (with_reducible exact HQ3.out) | (with_reducible apply Box.new) | (with_reducible apply Box.newAt; simp; done) | (with_reducible apply Box.set) | (with_reducible apply Box.skip; omega) | (with_reducible apply Box.alloc) | (with_reducible apply Box.drew) | (with_reducible apply Box.row) | (with_reducible apply Box.skipRow; omega)))); intro hx1; (try simp only [List.setIfInBounds_toArray, List.set_cons_zero, List.set_cons_succ] at hx1); have k1_0 := hx1.cell 0 (by simp); have k1_1 := hx1.cell 1 (by simp); have k1_2 := hx1.cell 2 (by simp); have k1_3 := hx1.cell 3 (by simp); have fr1 := fun o => hx1.frozen o; (try simp only [List.getElem_toArray, List.getElem_cons_zero, List.getElem_cons_succ] at k1_0); (try simp only [List.getElem_toArray, List.getElem_cons_zero, List.getElem_cons_succ] at k1_1); (try simp only [List.getElem_toArray, List.getElem_cons_zero, List.getElem_cons_succ] at k1_2); (try simp only [List.getElem_toArray, List.getElem_cons_zero, List.getElem_cons_succ] at k1_3); skip; have HP0 := Lib.hid hx0; clear hx0; have HP1 := Lib.hid hx1; clear hx1; have HB1 := Lib.hid hb1; clear hb1)
  apply bodyPost_row (g := w.heap.size + 1) rfl rfl Try.underlying52 rfl
  focus (repeat (first | (with_reducible exact HP0.out) | (with_reducible exact HP1.out) | (with_reducible exact HP2.out) | (with_reducible exact HP3.out) | (with_reducible exact HQ0.out) | (with_reducible exact HQ1.out) | (with_reducible exact HQ2.out) | (with_reducible exact HQ3.out) | (with_reducible apply Box.new) | (with_reducible apply Box.newAt; simp; done) | (with_reducible apply Box.set) | (with_reducible apply Box.skip; omega) | (with_reducible apply Box.alloc) | (with_reducible apply Box.drew) | (with_reducible apply Box.row) | (with_reducible apply Box.skipRow; omega)))
  focus (kernel_rfl)
  focus (rfl)
  try simp only [List.setIfInBounds_toArray, List.set_cons_zero, List.set_cons_succ]
  have HR := (HO.out.row (el_int.sizes e.xFree)).mono (S' := Rng w.heap.size w1.heap.size) (fun k hk => ⟨by have := hk.1; simp at this; omega, hk.2⟩)
  refine ⟨_, rfl, ⟨Rng (w.heap.size + 2) w1.heap.size, _, rfl, ?_, fun k hk => ⟨by have := hk.1; omega, by have := hk.2; simpa using this⟩⟩, ?_⟩
  · repeat (with_reducible refine Row.setR ?_ (by omega))
    have := HO.out.row (el_int.sizes e.xFree)
    simpa using this
  · repeat (first | ((with_reducible refine Below.setCell ?_ ?_ _); rotate_left; first | omega | (dsimp only; omega) | (simp; done) | (simp; omega)) | ((with_reducible refine below_setRow ?_ ?_ _); rotate_left; first | omega | (dsimp only; omega) | (simp; done) | (simp; omega)) | with_reducible exact Below.refl _ _ | with_reducible exact below_new _ | with_reducible exact below_drew | with_reducible exact HB9.out | with_reducible exact HB8.out | with_reducible exact HB7.out | with_reducible exact HB6.out | with_reducible exact HB5.out | with_reducible exact HB4.out | with_reducible exact HB3.out | with_reducible exact HB2.out | with_reducible exact HB1.out | (with_reducible apply below_comp; rotate_left; first | with_reducible exact HB9.out | with_reducible exact HB8.out | with_reducible exact HB7.out | with_reducible exact HB6.out | with_reducible exact HB5.out | with_reducible exact HB4.out | with_reducible exact HB3.out | with_reducible exact HB2.out | with_reducible exact HB1.out | with_reducible assumption | with_reducible exact below_new _ | with_reducible exact below_drew))

set_option maxHeartbeats 4000000 in
set_option maxRecDepth 100000 in
theorem spec_clonepool (e : PoolM) (S : Nat → Prop) (v : Value) (w : World) (hn : e.xFree.length ≤ 4194304) (R : PoolM.Rep w S e v) :
    Calls Try.prog 100 #[v] w fun r w' => ∃ v', r = .returned v' ∧ e.Rep w' (Rng w.heap.size w'.heap.size) v' ∧ Below w.heap.size w w' := by
  obtain ⟨S3, v3, rfl, R3, hS3⟩ := R
  obtain ⟨a, g, c, rfl, hV, _⟩ := R3.open
  rw [List.length_map]
  have HV := Lib.hid hV
  clear R3 hV hS3
  go_enter Try.func100, Try.ntmps100
  go_upto_region 1 with fail
  obtain ⟨w1, hw_⟩ : ∃ x, x = ((w.alloc (.cells #[.int .i64 e.xBase, .int .i64 e.xSize, .int .i64 e.xCount, .slice a e.xFree.length c] 52)).alloc (.cells #[.int .i64 0, .int .i64 0, .int .i64 0, .slice none 0 0] 52)) := ⟨_, rfl⟩
  have hb1 : Below w.heap.size w w1 := hw_ ▸ below_comp (below_new _) (below_new _)
  have HP0 : Hid (Box w1 (w.heap.size) #[.int .i64 e.xBase, .int .i64 e.xSize, .int .i64 e.xCount, .slice a e.xFree.length c] 52) := Lib.hid (by rw [hw_]; repeat (first | (with_reducible exact HP0.out) | (with_reducible exact HP1.out) | (with_reducible exact HP2.out) | (with_reducible exact HP3.out) | (with_reducible exact HQ0.out) | (with_reducible exact HQ1.out) | (with_reducible exact HQ2.out) | (with_reducible exact HQ3.out) | (with_reducible apply Box.new) | (with_reducible apply Box.newAt; simp; done) | (with_reducible apply Box.set) | (with_reducible apply Box.skip; omega) | (with_reducible apply Box.alloc) | (with_reducible apply Box.drew) | (with_reducible apply Box.row) | (with_reducible apply Box.skipRow; omega)))
  have hl0 : w.heap.size < w1.heap.size := HP0.out.lt
  have HP1 : Hid (Box w1 (w.heap.size + 1) #[.int .i64 0, .int .i64 0, .int .i64 0, .slice none 0 0] 52) := Lib.hid (by rw [hw_]; repeat (first | (with_reducible exact HP0.out) | (with_reducible exact HP1.out) | (with_reducible exact HP2.out) | (with_reducible exact HP3.out) | (with_reducible exact HQ0.out) | (with_reducible exact HQ1.out) | (with_reducible exact HQ2.out) | (with_reducible exact HQ3.out) | (with_reducible apply Box.new) | (with_reducible apply Box.newAt; simp; done) | (with_reducible apply Box.set) | (with_reducible apply Box.skip; omega) | (with_reducible apply Box.alloc) | (with_reducible apply Box.drew) | (with_reducible apply Box.row) | (with_reducible apply Box.skipRow; omega)))
  have hl1 : w.heap.size + 1 < w1.heap.size := HP1.out.lt
  rw [← hw_]
  clear hw_
  obtain ⟨V, hV⟩ : ∃ V, Hid (V = ValsS [.val (.one (.eq (.pointer (some ⟨w.heap.size, 0, none⟩)))), .val (.one (.eq (.int .i64 e.xBase))), .val (.one (.eq (.pointer (some ⟨w.heap.size, 1, none⟩)))), .val (.one (.eq (.int .i64 e.xSize))), .val (.one (.eq (.pointer (some ⟨w.heap.size, 2, none⟩)))), .val (.one (.eq (.int .i64 e.xCount))), .val (.one (.emp)), .val (.one (.eq (.pointer (some ⟨w.heap.size, 3, none⟩)))), .val (.one (.eq (.slice a e.xFree.length c))), .val (.one (.own 3 1 (e.xFree.map intrA))), .val (.agg [.eq (.int .i64 e.xBase), .eq (.int .i64 e.xSize), .eq (.int .i64 e.xCount), .own 3 1 (e.xFree.map intrA)]), .fill (w.heap.size + 1) 52 [.eq (.int .i64 e.xBase), .eq (.int .i64 e.xSize), .eq (.int .i64 e.xCount), .own 3 1 (e.xFree.map intrA)]] w1.heap.size) := ⟨_, Lib.hid rfl⟩
  refine wp_region_values2 (by kernel_rfl) [(11, 2)] (fun W => SO w w1 (w.heap.size + 1) 4 52 W) V
    (by kernel_rfl) (by kernel_rfl) (by kernel_rfl) (SO.start hb1 HP1.out rfl) (eachOp_all ?_) ?_
  · refine ⟨?_, ?_, ?_, ?_, ?_, ?_, ?_, ?_, ?_, ?_, ?_, ?_, trivial⟩
    · intro ac_ W hsz hd hS hdep hfree
      replace hsz := Lib.hid hsz
      have x1 : ac_.tmps.getD 1 undef = .pointer (some ⟨w.heap.size, 0, none⟩) := hfree 1 (by kernel_rfl)
      clear hd hdep hfree
      simp only [Oper.wp, execOp]
      go_simp
      refine Nxt2.mk _ rfl rfl rfl (by rw [hsz.out]; show 3 < 14; decide) ?_ hS (fun _ _ h => h)
      rw [hV.out]; exact rfl
    · intro ac_ W hsz hd hS hdep hfree
      replace hsz := Lib.hid hsz
      have x3 : ac_.tmps.getD 3 undef = .pointer (some ⟨w.heap.size, 0, none⟩) := by have h := hdep 0 3 (by kernel_rfl) rfl; rw [hV.out] at h; exact h
      clear hd hdep hfree
      have c0 : W.cell? ⟨w.heap.size, 0, none⟩ = some (.int .i64 e.xBase) := (hS.keep HP0.out (by omega)).cell 0 (by simp)
      simp only [Oper.wp, execOp]
      go_simp
      refine Nxt2.mk _ rfl rfl rfl (by rw [hsz.out]; show 4 < 14; decide) ?_ hS (fun _ _ h => h)
      rw [hV.out]; exact rfl
    · intro ac_ W hsz hd hS hdep hfree
      replace hsz := Lib.hid hsz
      have x1 : ac_.tmps.getD 1 undef = .pointer (some ⟨w.heap.size, 0, none⟩) := hfree 1 (by kernel_rfl)
      clear hd hdep hfree
      simp only [Oper.wp, execOp]
      go_simp
      refine Nxt2.mk _ rfl rfl rfl (by rw [hsz.out]; show 5 < 14; decide) ?_ hS (fun _ _ h => h)
      rw [hV.out]; exact rfl
    · intro ac_ W hsz hd hS hdep hfree
      replace hsz := Lib.hid hsz
      have x5 : ac_.tmps.getD 5 undef = .pointer (some ⟨w.heap.size, 1, none⟩) := by have h := hdep 2 5 (by kernel_rfl) rfl; rw [hV.out] at h; exact h
      clear hd hdep hfree
      have c0 : W.cell? ⟨w.heap.size, 1, none⟩ = some (.int .i64 e.xSize) := (hS.keep HP0.out (by omega)).cell 1 (by simp)
      simp only [Oper.wp, execOp]
      go_simp
      refine Nxt2.mk _ rfl rfl rfl (by rw [hsz.out]; show 6 < 14; decide) ?_ hS (fun _ _ h => h)
      rw [hV.out]; exact rfl
    · intro ac_ W hsz hd hS hdep hfree
      replace hsz := Lib.hid hsz
      have x1 : ac_.tmps.getD 1 undef = .pointer (some ⟨w.heap.size, 0, none⟩) := hfree 1 (by kernel_rfl)
      clear hd hdep hfree
      simp only [Oper.wp, execOp]
      go_simp
      refine Nxt2.mk _ rfl rfl rfl (by rw [hsz.out]; show 7 < 14; decide) ?_ hS (fun _ _ h => h)
      rw [hV.out]; exact rfl
    · intro ac_ W hsz hd hS hdep hfree
      replace hsz := Lib.hid hsz
      have x7 : ac_.tmps.getD 7 undef = .pointer (some ⟨w.heap.size, 2, none⟩) := by have h := hdep 4 7 (by kernel_rfl) rfl; rw [hV.out] at h; exact h
      clear hd hdep hfree
      have c0 : W.cell? ⟨w.heap.size, 2, none⟩ = some (.int .i64 e.xCount) := (hS.keep HP0.out (by omega)).cell 2 (by simp)
      simp only [Oper.wp, execOp]
      go_simp
      refine Nxt2.mk _ rfl rfl rfl (by rw [hsz.out]; show 8 < 14; decide) ?_ hS (fun _ _ h => h)
      rw [hV.out]; exact rfl
    · intro ac_ W hsz hd hS hdep hfree
      replace hsz := Lib.hid hsz
      clear hd hdep hfree
      simp only [Oper.wp, execOp]
      go_simp
      refine Nxt2.mk _ rfl rfl rfl (by rw [hsz.out]; show 9 < 14; decide) ?_ (hS.later (below_new _)) (fun j u h => by rw [hV.out] at h ⊢; exact ValsS.mono (below_new _) j u h)
      rw [hV.out]
      exact ⟨_, rfl⟩
    · intro ac_ W hsz hd hS hdep hfree
      replace hsz := Lib.hid hsz
      have x1 : ac_.tmps.getD 1 undef = .pointer (some ⟨w.heap.size, 0, none⟩) := hfree 1 (by kernel_rfl)
      clear hd hdep hfree
      simp only [Oper.wp, execOp]
      go_simp
      refine Nxt2.mk _ rfl rfl rfl (by rw [hsz.out]; show 10 < 14; decide) ?_ hS (fun _ _ h => h)
      rw [hV.out]; exact rfl
    · intro ac_ W hsz hd hS hdep hfree
      replace hsz := Lib.hid hsz
      have x10 : ac_.tmps.getD 10 undef = .pointer (some ⟨w.heap.size, 3, none⟩) := by have h := hdep 7 10 (by kernel_rfl) rfl; rw [hV.out] at h; exact h
      clear hd hdep hfree
      have c0 : W.cell? ⟨w.heap.size, 3, none⟩ = some (.slice a e.xFree.length c) := (hS.keep HP0.out (by omega)).cell 3 (by simp)
      simp only [Oper.wp, execOp]
      go_simp
      refine Nxt2.mk _ rfl rfl rfl (by rw [hsz.out]; show 11 < 14; decide) ?_ hS (fun _ _ h => h)
      rw [hV.out]; exact rfl
    · intro ac_ W hsz hd hS hdep hfree
      replace hsz := Lib.hid hsz
      have x9 : PV.is w1.heap.size (.emp) (ac_.tmps.getD 9 undef) W := by have h := hdep 6 9 (by kernel_rfl) rfl; rw [hV.out] at h; exact h
      have x11 : ac_.tmps.getD 11 undef = .slice a e.xFree.length c := by have h := hdep 8 11 (by kernel_rfl) rfl; rw [hV.out] at h; exact h
      clear hd hdep hfree
      obtain ⟨p9, e9⟩ := x9
      have y9 := e9
      rw [Array.getD_eq_getD_getElem?] at y9
      refine wp_append_0 (.tmp 9) (.tmp 11) rfl elem_int el_int (by simpa [Act.eval] using e9) (a := a) (c := c) (ys := e.xFree) (by simpa [Act.eval] using x11) (View.at0 (HV.out.later hS.below)) (by omega) w1.heap.size hS.size ?_
      intro v' w' ho hb
      refine Nxt2.mk _ rfl rfl rfl (by rw [hsz.out]; show 12 < 14; decide) ?_ (hS.later hb) (fun j u h => by rw [hV.out] at h ⊢; exact ValsS.mono hb j u h)
      rw [hV.out]
      exact ho
    · intro ac_ W hsz hd hS hdep hfree
      replace hsz := Lib.hid hsz
      have x4 : ac_.tmps.getD 4 undef = .int .i64 e.xBase := by have h := hdep 1 4 (by kernel_rfl) rfl; rw [hV.out] at h; exact h
      have x6 : ac_.tmps.getD 6 undef = .int .i64 e.xSize := by have h := hdep 3 6 (by kernel_rfl) rfl; rw [hV.out] at h; exact h
      have x8 : ac_.tmps.getD 8 undef = .int .i64 e.xCount := by have h := hdep 5 8 (by kernel_rfl) rfl; rw [hV.out] at h; exact h
      have x12 : PV.is w1.heap.size (.own 3 1 (e.xFree.map intrA)) (ac_.tmps.getD 12 undef) W := by have h := hdep 9 12 (by kernel_rfl) rfl; rw [hV.out] at h; exact h
      clear hd hdep hfree
      obtain ⟨p12, q12, e12⟩ := Ownd.form x12
      rw [List.length_map] at e12
      rw [e12] at x12
      have y12 := e12
      rw [Array.getD_eq_getD_getElem?] at y12
      have y4 := x4
      rw [Array.getD_eq_getD_getElem?] at y4
      have y6 := x6
      rw [Array.getD_eq_getD_getElem?] at y6
      have y8 := x8
      rw [Array.getD_eq_getD_getElem?] at y8
      simp only [Oper.wp, execOp]
      go_simp
      refine Nxt2.mk _ rfl rfl rfl (by rw [hsz.out]; show 13 < 14; decide) ?_ hS (fun _ _ h => h)
      rw [hV.out]
      exact ⟨_, rfl, rfl, rfl, rfl, x12, trivial⟩
    · intro ac_ W hsz hd hS hdep hfree
      replace hsz := Lib.hid hsz
      have x13 : VS.is w1.heap.size (.val (.agg [.eq (.int .i64 e.xBase), .eq (.int .i64 e.xSize), .eq (.int .i64 e.xCount), .own 3 1 (e.xFree.map intrA)])) (ac_.tmps.getD 13 undef) W := by have h := hdep 10 13 (by kernel_rfl) rfl; rw [hV.out] at h; exact h
      have xp : ac_.tmps.getD 2 undef = .pointer (some ⟨w.heap.size + 1, 0, none⟩) := hfree 2 (by kernel_rfl)
      clear hd hdep hfree
      obtain ⟨old, e3, e4⟩ := hS.box
      obtain ⟨cs, f1, f2⟩ := x13
      have f3 := PVs.len _ _ f2
      have f4 := PVs.ones _ _ rfl f2
      refine wp_store_row 52 (.tmp 2) (.tmp 13) rfl (w.heap.size + 1) cs.toArray (by simpa [Act.eval] using xp) (by simpa [Act.eval] using f1) 52 old e3 (by rw [List.size_toArray, f3]; kernel_rfl) (by rw [e4, List.size_toArray, f3]; rfl) (by simpa using f4) ?_
      have f5 := PVs.store (g := w.heap.size + 1) (T := 52) cs.toArray e3 _ _ rfl f2
      have f6 : FillP w1.heap.size (w.heap.size + 1) 52 ([.eq (.int .i64 e.xBase), .eq (.int .i64 e.xSize), .eq (.int .i64 e.xCount), .own 3 1 (e.xFree.map intrA)]) (W.setRow (w.heap.size + 1) cs.toArray) := ⟨cs, setRow_heap W (w.heap.size + 1) old _ _ (0, 0) e3, f5⟩
      refine Nxt2.store _ rfl rfl rfl ?_ (hS.set (by omega) cs.toArray (by rw [List.size_toArray, f3]; rfl)) (fun j u h => ?_)
      · rw [hV.out]; exact f6
      · rw [hV.out] at h ⊢
        by_cases hj : j = 11
        · subst hj; exact f6
        · exact ValsS.store (st := 11) cs.toArray e3 (by rw [e4, List.size_toArray, f3]; rfl) rfl j u h hj
  intro ac_ W1 hs hd hS1 hdone hrest
  obtain ⟨u9, hu9⟩ : ∃ u, ac_.tmps.getD 9 undef = u := ⟨_, rfl⟩
  obtain ⟨u12, hu12⟩ : ∃ u, ac_.tmps.getD 12 undef = u := ⟨_, rfl⟩
  have hs12 : PV.is w1.heap.size (.own 3 1 (e.xFree.map intrA)) u12 W1 := by have h := hdone 9 12 rfl; rw [hV.out, hu12] at h; exact h
  obtain ⟨u13, hu13⟩ : ∃ u, ac_.tmps.getD 13 undef = u := ⟨_, rfl⟩
  have hbx : FillP w1.heap.size (w.heap.size + 1) 52 ([.eq (.int .i64 e.xBase), .eq (.int .i64 e.xSize), .eq (.int .i64 e.xCount), .own 3 1 (e.xFree.map intrA)]) W1 := by have h := hdone 11 2 rfl; rw [hV.out] at h; exact h
  have ea := written_all [.pointer (some ⟨w.heap.size, 0, none⟩), .int .i64 e.xBase, .pointer (some ⟨w.heap.size, 1, none⟩), .int .i64 e.xSize, .pointer (some ⟨w.heap.size, 2, none⟩), .int .i64 e.xCount, u9, .pointer (some ⟨w.heap.size, 3, none⟩), .slice a e.xFree.length c, u12, u13, undef] rfl hs hd hrest (fun j d hj => by
    match j, hj with
    | 0, hj => have h := hdone 0 d (show slotOf _ _ 0 = some d from hj); rw [hV.out] at h; exact h
    | 1, hj => have h := hdone 1 d (show slotOf _ _ 1 = some d from hj); rw [hV.out] at h; exact h
    | 2, hj => have h := hdone 2 d (show slotOf _ _ 2 = some d from hj); rw [hV.out] at h; exact h
    | 3, hj => have h := hdone 3 d (show slotOf _ _ 3 = some d from hj); rw [hV.out] at h; exact h
    | 4, hj => have h := hdone 4 d (show slotOf _ _ 4 = some d from hj); rw [hV.out] at h; exact h
    | 5, hj => have h := hdone 5 d (show slotOf _ _ 5 = some d from hj); rw [hV.out] at h; exact h
    | 6, hj => exact (Option.some.inj hj) ▸ hu9
    | 7, hj => have h := hdone 7 d (show slotOf _ _ 7 = some d from hj); rw [hV.out] at h; exact h
    | 8, hj => have h := hdone 8 d (show slotOf _ _ 8 = some d from hj); rw [hV.out] at h; exact h
    | 9, hj => exact (Option.some.inj hj) ▸ hu12
    | 10, hj => exact (Option.some.inj hj) ▸ hu13
    | 11, hj => cases hj
    | n + 12, hj => exact absurd (dstOf_lt hj) (by simp))
  clear hs hd hdone hrest hV V hu9 hu12 hu13
  subst ea
  simp only [written, List.append_eq, Array.toList_append, List.append_toArray, List.map_append, List.cons_append, List.nil_append, List.map_cons, List.map_nil, List.zip_cons_cons, List.zip_nil_right, putAll]
  simp only [Exit.then, Act.put, List.setIfInBounds_toArray, List.set_cons_zero, List.set_cons_succ]
  obtain ⟨p12, q12, hf12⟩ := Ownd.form hs12
  rw [List.length_map] at hf12
  subst hf12
  have HO12 := Lib.hid hs12
  clear hs12
  obtain ⟨cs2, hb2, hp2_0⟩ := hbx
  obtain ⟨c2_0, cs2, rfl, hc2_0, hp2_1⟩ := PVs.uncons hp2_0
  clear hp2_0
  obtain rfl : c2_0 = .int .i64 e.xBase := hc2_0
  obtain ⟨c2_1, cs2, rfl, hc2_1, hp2_2⟩ := PVs.uncons hp2_1
  clear hp2_1
  obtain rfl : c2_1 = .int .i64 e.xSize := hc2_1
  obtain ⟨c2_2, cs2, rfl, hc2_2, hp2_3⟩ := PVs.uncons hp2_2
  clear hp2_2
  obtain rfl : c2_2 = .int .i64 e.xCount := hc2_2
  obtain ⟨c2_3, cs2, rfl, hc2_3, hp2_4⟩ := PVs.uncons hp2_3
  clear hp2_3
  obtain ⟨p2_3, q2_3, hf2_3⟩ := Ownd.form hc2_3
  rw [List.length_map] at hf2_3
  subst hf2_3
  have HC2_3 := Lib.hid hc2_3
  clear hc2_3
  obtain rfl := PVs.unnil hp2_4
  have HB2 := Lib.hid (show Box W1 (w.heap.size + 1) #[.int .i64 e.xBase, .int .i64 e.xSize, .int .i64 e.xCount, .slice p2_3 e.xFree.length q2_3] 52 from hb2)
  clear hb2 hp2_4
  have HB1 := Lib.hid hS1.below
  go_wp2
  apply bodyPost_row (g := w.heap.size + 1) rfl rfl Try.underlying52 rfl
  focus (exact HB2.out)
  focus (kernel_rfl)
  focus (rfl)
  refine ⟨_, rfl, ⟨Rng w1.heap.size W1.heap.size, _, rfl, HC2_3.out.row (el_int.sizes e.xFree), fun k hk => ⟨by have := hk.1; have := hb1.size; omega, hk.2⟩⟩, ?_⟩
  exact HB1.out

end Go.Proofs.Ytogiocinhjbdkaa
