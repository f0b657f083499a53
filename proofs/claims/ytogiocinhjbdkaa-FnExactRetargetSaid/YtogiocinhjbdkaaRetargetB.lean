/- Retarget of both sides. -/
import Derived.Test.YtogiocinhjbdkaaCloneInt
import Derived.Test.YtogiocinhjbdkaaRepSpread
import Derived.Test.YtogiocinhjbdkaaBoxes
import Derived.Test.YtogiocinhjbdkaaOwnSet
import Derived.Test.YtogiocinhjbdkaaInYN
import Derived.Deep.DeepCutAuto
namespace Go.Proofs.Ytogiocinhjbdkaa
open Go.RowKit
set_option linter.unusedSimpArgs false
set_option linter.unusedVariables false

set_option maxHeartbeats 4000000 in
set_option maxRecDepth 100000 in
theorem impl_clonespread (e : SpreadM) (S : Nat → Prop) (v : Value) (w : World) (hn : e.xTable.length ≤ 4194304) (R : SpreadM.Rep w S e v) :
    Calls Try.prog 106 #[v] w fun r w' => ∃ v', r = .returned v' ∧ e.Rep w' (Rng w.heap.size w'.heap.size) v' ∧ Below w.heap.size w w' := by
  obtain ⟨S3, v3, rfl, R3, hS3⟩ := R
  obtain ⟨a, g, c, rfl, hV, _⟩ := R3.open
  rw [List.length_map]
  have HX := Lib.hid fun W (h : Below w.heap.size w W) => clone_int a g c e.xTable W hn (hV.later h)
  clear R3 hV hS3
  generalize e.xTable.length = n0 at *
  go_enter Try.func106, Try.ntmps106
  go_wp2_with (go_at_call 150; refine (HX.out _ (by repeat (first | ((with_reducible refine Below.setCell ?_ ?_ _); rotate_left; first | omega | (dsimp only; omega) | (simp; done) | (simp; omega)) | ((with_reducible refine below_setRow ?_ ?_ _); rotate_left; first | omega | (dsimp only; omega) | (simp; done) | (simp; omega)) | with_reducible exact Below.refl _ _ | with_reducible exact below_new _ | with_reducible exact below_drew | with_reducible exact HB9.out | with_reducible exact HB8.out | with_reducible exact HB7.out | with_reducible exact HB6.out | with_reducible exact HB5.out | with_reducible exact HB4.out | with_reducible exact HB3.out | with_reducible exact HB2.out | with_reducible exact HB1.out | (with_reducible apply below_comp; rotate_left; first | with_reducible exact HB9.out | with_reducible exact HB8.out | with_reducible exact HB7.out | with_reducible exact HB6.out | with_reducible exact HB5.out | with_reducible exact HB4.out | with_reducible exact HB3.out | with_reducible exact HB2.out | with_reducible exact HB1.out | with_reducible assumption | with_reducible exact below_new _ | with_reducible exact below_drew)))).mono ?_; rintro r w1 ⟨v1, rfl, ho, hb1⟩; obtain ⟨a1, c1, rfl⟩ := ho.form; have HO := Lib.hid ho; clear ho; have hz1 := hb1.size; (try simp at hz1); (have hl0 : w.heap.size < w1.heap.size := by omega); (have hl1 : w.heap.size + 1 < w1.heap.size := by omega); (apply with_box hb1 (g := w.heap.size)); (focus (repeat (first | (with_reducible exact HP0.out) | (with_reducible exact HP1.out) | (with_reducible exact HP2.out) | (with_reducible exact HP3.out) | (with_reducible exact HP4.out) | (with_reducible exact HP5.out) | (with_reducible exact HP6.out) | (with_reducible exact HP7.out) | (with_reducible exact HP8.out) | (with_reducible exact HP9.out) | (with_reducible exact HP10.out) | (with_reducible exact HP11.out) | (with_reducible exact HQ0.out) | (with_reducible exact HQ1.out) | (with_reducible exact HQ2.out) | (with_reducible exact HQ3.out) | (with_reducible apply Box.new) | (with_reducible apply Box.newAt; simp; done) | (with_reducible apply Box.set) | (with_reducible apply Box.skip; omega) | (with_reducible apply Box.alloc) | (with_reducible apply Box.drew) | (with_reducible apply Box.row) | (with_reducible apply Box.skipRow; omega)))); intro hx0; (try simp only [List.setIfInBounds_toArray, List.set_cons_zero, List.set_cons_succ] at hx0); have k0_0 := hx0.cell 0 (by simp); have k0_1 := hx0.cell 1 (by simp); have fr0 := fun o => hx0.frozen o; (try simp only [List.getElem_toArray, List.getElem_cons_zero, List.getElem_cons_succ] at k0_0); (try simp only [List.getElem_toArray, List.getElem_cons_zero, List.getElem_cons_succ] at k0_1); (apply with_box hb1 (g := w.heap.size + 1)); (focus (repeat (first | (with_reducible exact HP0.out) | (with_reducible exact HP1.out) | (with_reducible exact HP2.out) | (with_reducible exact HP3.out) | (with_reducible exact HP4.out) | (with_reducible exact HP5.out) | (with_reducible exact HP6.out) | (with_reducible exact HP7.out) | (with_reducible exact HP8.out) | (with_reducible exact HP9.out) | (with_reducible exact HP10.out) | (with_reducible exact HP11.out) | (with_reducible exact HQ0.out) | (with_reducible exact HQ1.out) | (with_reducible exact HQ2.out) | (with_reducible exact HQ3.out) | (with_reducible apply Box.new) | (with_reducible apply Box.newAt; simp; done) | (with_reducible apply Box.set) | (with_reducible apply Box.skip; omega) | (with_reducible apply Box.alloc) | (with_reducible apply Box.drew) | (with_reducible apply Box.row) | (with_reducible apply Box.skipRow; omega)))); intro hx1; (try simp only [List.setIfInBounds_toArray, List.set_cons_zero, List.set_cons_succ] at hx1); have k1_0 := hx1.cell 0 (by simp); have k1_1 := hx1.cell 1 (by simp); have fr1 := fun o => hx1.frozen o; (try simp only [List.getElem_toArray, List.getElem_cons_zero, List.getElem_cons_succ] at k1_0); (try simp only [List.getElem_toArray, List.getElem_cons_zero, List.getElem_cons_succ] at k1_1); skip; have HP0 := Lib.hid hx0; clear hx0; have HP1 := Lib.hid hx1; clear hx1; have HB1 := Lib.hid hb1; clear hb1)
  apply bodyPost_row (g := w.heap.size + 1) rfl rfl Try.underlying68 rfl
  focus (repeat (first | (with_reducible exact HP0.out) | (with_reducible exact HP1.out) | (with_reducible exact HP2.out) | (with_reducible exact HP3.out) | (with_reducible exact HQ0.out) | (with_reducible exact HQ1.out) | (with_reducible exact HQ2.out) | (with_reducible exact HQ3.out) | (with_reducible apply Box.new) | (with_reducible apply Box.newAt; simp; done) | (with_reducible apply Box.set) | (with_reducible apply Box.skip; omega) | (with_reducible apply Box.alloc) | (with_reducible apply Box.drew) | (with_reducible apply Box.row) | (with_reducible apply Box.skipRow; omega)))
  focus (kernel_rfl)
  focus (rfl)
  try simp only [List.setIfInBounds_toArray, List.set_cons_zero, List.set_cons_succ]
  have HR := (HO.out.row (el_int.sizes e.xTable)).mono (S' := Rng w.heap.size w1.heap.size) (fun k hk => ⟨by have := hk.1; simp at this; omega, hk.2⟩)
  refine ⟨_, rfl, ⟨Rng (w.heap.size + 2) w1.heap.size, _, rfl, ?_, fun k hk => ⟨by have := hk.1; omega, by have := hk.2; simpa using this⟩⟩, ?_⟩
  · repeat (with_reducible refine Row.setR ?_ (by omega))
    have := HO.out.row (el_int.sizes e.xTable)
    simpa using this
  · repeat (first | ((with_reducible refine Below.setCell ?_ ?_ _); rotate_left; first | omega | (dsimp only; omega) | (simp; done) | (simp; omega)) | ((with_reducible refine below_setRow ?_ ?_ _); rotate_left; first | omega | (dsimp only; omega) | (simp; done) | (simp; omega)) | with_reducible exact Below.refl _ _ | with_reducible exact below_new _ | with_reducible exact below_drew | with_reducible exact HB9.out | with_reducible exact HB8.out | with_reducible exact HB7.out | with_reducible exact HB6.out | with_reducible exact HB5.out | with_reducible exact HB4.out | with_reducible exact HB3.out | with_reducible exact HB2.out | with_reducible exact HB1.out | (with_reducible apply below_comp; rotate_left; first | with_reducible exact HB9.out | with_reducible exact HB8.out | with_reducible exact HB7.out | with_reducible exact HB6.out | with_reducible exact HB5.out | with_reducible exact HB4.out | with_reducible exact HB3.out | with_reducible exact HB2.out | with_reducible exact HB1.out | with_reducible assumption | with_reducible exact below_new _ | with_reducible exact below_drew))

def retOk (n : Nat) (k q : Int) : Prop := (0 ≤ k ∧ k < n) ∧ (0 ≤ q ∧ q ≤ 3)
instance (n : Nat) (k q : Int) : Decidable (retOk n k q) := by unfold retOk; infer_instance
def retM (e : SpreadM) (k q : Int) : SpreadM := if retOk e.xTable.length k q then ⟨e.xKey, e.xTable.set k.toNat q⟩ else e
def AnsSpread (w : World) (p : SpreadM) (b : Bool) (e : Ending) (w' : World) : Prop := ∃ v, e = .returned (.tuple #[v, .bool b]) ∧ p.Rep w' (Rng w.heap.size w'.heap.size) v ∧ Below w.heap.size w w'
theorem retM_len (e : SpreadM) (k q : Int) : (retM e k q).xTable.length = e.xTable.length := by
  unfold retM; split <;> simp

set_option maxHeartbeats 4000000 in
set_option maxRecDepth 100000 in
theorem spec_retarget (e : SpreadM) (S : Nat → Prop) (v : Value) (k q : Int) (w : World) (hn : e.xTable.length ≤ 4194304) (R : SpreadM.Rep w S e v) :
    Calls Try.prog 46 #[v, .int .i64 k, .int .i64 q] w (AnsSpread w (retM e k q) (decide (retOk e.xTable.length k q))) := by
  obtain ⟨key, l⟩ := e
  obtain ⟨S3, v3, rfl, R3, hS3⟩ := R
  dsimp only at *
  obtain ⟨a, g, c, rfl, hV, _⟩ := R3.open
  rw [List.length_map]
  (try simp only [List.length_map] at HX)
  have HV := Lib.hid hV
  clear R3 hV hS3
  obtain ⟨B, hB⟩ : ∃ B, decide (retOk l.length k q) = B := ⟨_, rfl⟩
  obtain ⟨M, hM⟩ : ∃ M, retM ⟨key, l⟩ k q = M := ⟨_, rfl⟩
  rw [hB, hM]
  have HBX := Lib.hid hB
  have HMX := Lib.hid hM
  clear hB hM
  go_enter Try.func46, Try.ntmps46
  go_upto_region 1 with fail
  obtain ⟨w1, hw_⟩ : ∃ x, x = ((w.alloc (.cells #[.string key, .slice a l.length c] 68)).alloc (.cells #[.string ⟨#[]⟩, .slice none 0 0] 68)) := ⟨_, rfl⟩
  have hb1 : Below w.heap.size w w1 := hw_ ▸ below_comp (below_new _) (below_new _)
  have HP0 : Hid (Box w1 (w.heap.size) #[.string key, .slice a l.length c] 68) := Lib.hid (by rw [hw_]; repeat (first | (with_reducible exact HP0.out) | (with_reducible exact HP1.out) | (with_reducible exact HP2.out) | (with_reducible exact HP3.out) | (with_reducible exact HQ0.out) | (with_reducible exact HQ1.out) | (with_reducible exact HQ2.out) | (with_reducible exact HQ3.out) | (with_reducible apply Box.new) | (with_reducible apply Box.newAt; simp; done) | (with_reducible apply Box.set) | (with_reducible apply Box.skip; omega) | (with_reducible apply Box.alloc) | (with_reducible apply Box.drew) | (with_reducible apply Box.row) | (with_reducible apply Box.skipRow; omega)))
  have hl0 : w.heap.size < w1.heap.size := HP0.out.lt
  have HP1 : Hid (Box w1 (w.heap.size + 1) #[.string ⟨#[]⟩, .slice none 0 0] 68) := Lib.hid (by rw [hw_]; repeat (first | (with_reducible exact HP0.out) | (with_reducible exact HP1.out) | (with_reducible exact HP2.out) | (with_reducible exact HP3.out) | (with_reducible exact HQ0.out) | (with_reducible exact HQ1.out) | (with_reducible exact HQ2.out) | (with_reducible exact HQ3.out) | (with_reducible apply Box.new) | (with_reducible apply Box.newAt; simp; done) | (with_reducible apply Box.set) | (with_reducible apply Box.skip; omega) | (with_reducible apply Box.alloc) | (with_reducible apply Box.drew) | (with_reducible apply Box.row) | (with_reducible apply Box.skipRow; omega)))
  have hl1 : w.heap.size + 1 < w1.heap.size := HP1.out.lt
  rw [← hw_]
  clear hw_

  obtain ⟨V, hV⟩ : ∃ V, Hid (V = ValsS [.val (.one (.eq (.pointer (some ⟨w.heap.size, 0, none⟩)))), .val (.one (.eq (.string key))), .val (.one (.emp)), .val (.one (.eq (.pointer (some ⟨w.heap.size, 1, none⟩)))), .val (.one (.eq (.slice a l.length c))), .val (.one (.own 3 1 (l.map intrA))), .val (.agg [.eq (.string key), .own 3 1 (l.map intrA)]), .ptr 68 2, .box 68 [.eq (.string key), .own 3 1 (l.map intrA)]] w1.heap.size) := ⟨_, Lib.hid rfl⟩
  refine wp_region_values2 (by kernel_rfl) [(8, 8)] (fun W => Below w1.heap.size w1 W) V
    (by kernel_rfl) (by kernel_rfl) (by kernel_rfl) below_drew (eachOp_all ?_) ?_
  · refine ⟨?_, ?_, ?_, ?_, ?_, ?_, ?_, ?_, ?_, trivial⟩
    · intro ac_ W hsz hd hS hdep hfree
      replace hsz := Lib.hid hsz
      have x3 : ac_.tmps.getD 3 undef = .pointer (some ⟨w.heap.size, 0, none⟩) := hfree 3 (by kernel_rfl)
      clear hd hdep hfree
      simp only [Oper.wp, execOp]
      go_simp
      refine Nxt2.mk _ rfl rfl rfl (by rw [hsz.out]; show 9 < 37; decide) ?_ hS (fun _ _ h => h)
      rw [hV.out]; exact rfl
    · intro ac_ W hsz hd hS hdep hfree
      replace hsz := Lib.hid hsz
      have x9 : ac_.tmps.getD 9 undef = .pointer (some ⟨w.heap.size, 0, none⟩) := by have h := hdep 0 9 (by kernel_rfl) rfl; rw [hV.out] at h; exact h
      clear hd hdep hfree
      have c0 : W.cell? ⟨w.heap.size, 0, none⟩ = some (.string key) := (HP0.out.below hS hl0).cell 0 (by simp)
      simp only [Oper.wp, execOp]
      go_simp
      refine Nxt2.mk _ rfl rfl rfl (by rw [hsz.out]; show 10 < 37; decide) ?_ hS (fun _ _ h => h)
      rw [hV.out]; exact rfl
    · intro ac_ W hsz hd hS hdep hfree
      replace hsz := Lib.hid hsz
      clear hd hdep hfree
      simp only [Oper.wp, execOp]
      go_simp
      refine Nxt2.mk _ rfl rfl rfl (by rw [hsz.out]; show 11 < 37; decide) ?_ (below_comp hS (below_new _)) (fun j u h => by rw [hV.out] at h ⊢; exact ValsS.mono (below_new _) j u h)
      rw [hV.out]
      exact ⟨_, rfl⟩
    · intro ac_ W hsz hd hS hdep hfree
      replace hsz := Lib.hid hsz
      have x3 : ac_.tmps.getD 3 undef = .pointer (some ⟨w.heap.size, 0, none⟩) := hfree 3 (by kernel_rfl)
      clear hd hdep hfree
      simp only [Oper.wp, execOp]
      go_simp
      refine Nxt2.mk _ rfl rfl rfl (by rw [hsz.out]; show 12 < 37; decide) ?_ hS (fun _ _ h => h)
      rw [hV.out]; exact rfl
    · intro ac_ W hsz hd hS hdep hfree
      replace hsz := Lib.hid hsz
      have x12 : ac_.tmps.getD 12 undef = .pointer (some ⟨w.heap.size, 1, none⟩) := by have h := hdep 3 12 (by kernel_rfl) rfl; rw [hV.out] at h; exact h
      clear hd hdep hfree
      have c0 : W.cell? ⟨w.heap.size, 1, none⟩ = some (.slice a l.length c) := (HP0.out.below hS hl0).cell 1 (by simp)
      simp only [Oper.wp, execOp]
      go_simp
      refine Nxt2.mk _ rfl rfl rfl (by rw [hsz.out]; show 13 < 37; decide) ?_ hS (fun _ _ h => h)
      rw [hV.out]; exact rfl
    · intro ac_ W hsz hd hS hdep hfree
      replace hsz := Lib.hid hsz
      have x11 : PV.is w1.heap.size (.emp) (ac_.tmps.getD 11 undef) W := by have h := hdep 2 11 (by kernel_rfl) rfl; rw [hV.out] at h; exact h
      have x13 : ac_.tmps.getD 13 undef = .slice a l.length c := by have h := hdep 4 13 (by kernel_rfl) rfl; rw [hV.out] at h; exact h
      clear hd hdep hfree
      obtain ⟨p11, e11⟩ := x11
      have y11 := e11
      rw [Array.getD_eq_getD_getElem?] at y11
      refine wp_append_0 (.tmp 11) (.tmp 13) rfl elem_int el_int (by simpa [Act.eval] using e11) (a := a) (c := c) (ys := l) (by simpa [Act.eval] using x13) (View.at0 ((HV.out.later hb1).later hS)) (by omega) w1.heap.size hS.size ?_
      intro v' w' ho hb
      refine Nxt2.mk _ rfl rfl rfl (by rw [hsz.out]; show 14 < 37; decide) ?_ (below_comp hS hb) (fun j u h => by rw [hV.out] at h ⊢; exact ValsS.mono hb j u h)
      rw [hV.out]
      exact ho
    · intro ac_ W hsz hd hS hdep hfree
      replace hsz := Lib.hid hsz
      have x10 : ac_.tmps.getD 10 undef = .string key := by have h := hdep 1 10 (by kernel_rfl) rfl; rw [hV.out] at h; exact h
      have x14 : PV.is w1.heap.size (.own 3 1 (l.map intrA)) (ac_.tmps.getD 14 undef) W := by have h := hdep 5 14 (by kernel_rfl) rfl; rw [hV.out] at h; exact h
      clear hd hdep hfree
      obtain ⟨p14, q14, e14⟩ := Own.form x14
      rw [List.length_map] at e14
      rw [e14] at x14
      have y14 := e14
      rw [Array.getD_eq_getD_getElem?] at y14
      have y10 := x10
      rw [Array.getD_eq_getD_getElem?] at y10
      simp only [Oper.wp, execOp]
      go_simp
      refine Nxt2.mk _ rfl rfl rfl (by rw [hsz.out]; show 15 < 37; decide) ?_ hS (fun _ _ h => h)
      rw [hV.out]
      exact ⟨_, rfl, rfl, x14, trivial⟩
    · intro ac_ W hsz hd hS hdep hfree
      replace hsz := Lib.hid hsz
      clear hd hdep hfree
      simp only [Oper.wp, execOp]
      go_simp
      refine Nxt2.mk _ rfl rfl rfl (by rw [hsz.out]; show 8 < 37; decide) ?_ (below_comp hS (below_new _)) (fun j u h => by rw [hV.out] at h ⊢; exact ValsS.mono (below_new _) j u h)
      rw [hV.out]
      exact ⟨W.heap.size, _, rfl, hS.size, heap_alloc_new W _, rfl, by simp⟩
    · intro ac_ W hsz hd hS hdep hfree
      replace hsz := Lib.hid hsz
      have x15 : VS.is w1.heap.size (.val (.agg [.eq (.string key), .own 3 1 (l.map intrA)])) (ac_.tmps.getD 15 undef) W := by have h := hdep 6 15 (by kernel_rfl) rfl; rw [hV.out] at h; exact h
      have xp : OwnV w1.heap.size 2 68 (ac_.tmps.getD 8 undef) W := by have h := hdep 7 8 (by kernel_rfl) rfl; rw [hV.out] at h; exact h
      clear hd hdep hfree
      obtain ⟨g_, old, e1, e2, e3, e4, e5⟩ := xp
      obtain ⟨cs, f1, f2⟩ := x15
      have f3 := PVs.len _ _ f2
      have f4 := PVs.ones _ _ rfl f2
      refine wp_store_row 68 (.tmp 8) (.tmp 15) rfl g_ cs.toArray (by simpa [Act.eval] using e1) (by simpa [Act.eval] using f1) 68 old e3 (by rw [List.size_toArray, f3]; kernel_rfl) (by rw [e4, List.size_toArray, f3]; rfl) (by simpa using f4) ?_
      have f5 := PVs.store (g := g_) (T := 68) cs.toArray e3 _ _ rfl f2
      have f6 : BoxP w1.heap.size 68 ([.eq (.string key), .own 3 1 (l.map intrA)]) (ac_.tmps.getD 8 undef) (W.setRow g_ cs.toArray) := ⟨g_, cs, e1, e2, setRow_heap W g_ old _ _ (0, 0) e3, f5, by simpa [World.setRow] using e5⟩
      refine Nxt2.store _ rfl rfl rfl ?_ (below_setRow hS e2 _) (fun j u h => ?_)
      · rw [hV.out]; exact f6
      · rw [hV.out] at h ⊢
        by_cases hj : j = 8
        · subst hj
          obtain ⟨k, us, b1, b2, b3, b4, b5⟩ : BoxP w1.heap.size 68 ([.eq (.string key), .own 3 1 (l.map intrA)]) u W := h
          by_cases hk : k = g_
          · subst hk; exact (⟨k, cs, b1, b2, setRow_heap W k old _ _ (0, 0) e3, f5, by simpa [World.setRow] using e5⟩ : BoxP w1.heap.size 68 ([.eq (.string key), .own 3 1 (l.map intrA)]) u _)
          · exact (⟨k, us, b1, b2, by rw [setRow_other W g_ k _ hk]; exact b3, PVs.store (g := g_) (T := 68) cs.toArray e3 _ _ rfl b4, by simpa [World.setRow] using b5⟩ : BoxP w1.heap.size 68 ([.eq (.string key), .own 3 1 (l.map intrA)]) u _)
        · exact ValsS.store (st := 8) cs.toArray e3 (by rw [e4, List.size_toArray, f3]; rfl) rfl j u h hj
  intro ac_ W1 hs hd hS1 hdone hrest
  obtain ⟨u11, hu11⟩ : ∃ u, ac_.tmps.getD 11 undef = u := ⟨_, rfl⟩
  obtain ⟨u14, hu14⟩ : ∃ u, ac_.tmps.getD 14 undef = u := ⟨_, rfl⟩
  have hs14 : PV.is w1.heap.size (.own 3 1 (l.map intrA)) u14 W1 := by have h := hdone 5 14 rfl; rw [hV.out, hu14] at h; exact h
  obtain ⟨u15, hu15⟩ : ∃ u, ac_.tmps.getD 15 undef = u := ⟨_, rfl⟩
  obtain ⟨u8, hu8⟩ : ∃ u, ac_.tmps.getD 8 undef = u := ⟨_, rfl⟩
  have hbx : BoxP w1.heap.size 68 ([.eq (.string key), .own 3 1 (l.map intrA)]) u8 W1 := by have h := hdone 8 8 rfl; rw [hV.out, hu8] at h; exact h
  have ea := written_all [.pointer (some ⟨w.heap.size, 0, none⟩), .string key, u11, .pointer (some ⟨w.heap.size, 1, none⟩), .slice a l.length c, u14, u15, u8, undef] rfl hs hd hrest (fun j d hj => by
    match j, hj with
    | 0, hj => have h := hdone 0 d (show slotOf _ _ 0 = some d from hj); rw [hV.out] at h; exact h
    | 1, hj => have h := hdone 1 d (show slotOf _ _ 1 = some d from hj); rw [hV.out] at h; exact h
    | 2, hj => exact (Option.some.inj hj) ▸ hu11
    | 3, hj => have h := hdone 3 d (show slotOf _ _ 3 = some d from hj); rw [hV.out] at h; exact h
    | 4, hj => have h := hdone 4 d (show slotOf _ _ 4 = some d from hj); rw [hV.out] at h; exact h
    | 5, hj => exact (Option.some.inj hj) ▸ hu14
    | 6, hj => exact (Option.some.inj hj) ▸ hu15
    | 7, hj => exact (Option.some.inj hj) ▸ hu8
    | 8, hj => cases hj
    | n + 9, hj => exact absurd (dstOf_lt hj) (by simp))
  clear hs hd hdone hrest hV V hu11 hu14 hu15 hu8
  subst ea
  simp only [written, List.append_eq, Array.toList_append, List.append_toArray, List.map_append, List.cons_append, List.nil_append, List.map_cons, List.map_nil, List.zip_cons_cons, List.zip_nil_right, putAll]
  simp only [Exit.then, Act.put, List.setIfInBounds_toArray, List.set_cons_zero, List.set_cons_succ]
  obtain ⟨p14, q14, hf14⟩ := Own.form hs14
  rw [List.length_map] at hf14
  subst hf14
  have HO14 := Lib.hid hs14
  clear hs14
  obtain ⟨g8, cs8, rfl, hge8, hb8, hp8_0, hlt8⟩ := hbx
  obtain ⟨c8_0, cs8, rfl, hc8_0, hp8_1⟩ := PVs.uncons hp8_0
  clear hp8_0
  obtain rfl : c8_0 = .string key := hc8_0
  obtain ⟨c8_1, cs8, rfl, hc8_1, hp8_2⟩ := PVs.uncons hp8_1
  clear hp8_1
  obtain ⟨p8_1, q8_1, hf8_1⟩ := Own.form hc8_1
  rw [List.length_map] at hf8_1
  subst hf8_1
  have HC8_1 := Lib.hid hc8_1
  clear hc8_1
  obtain rfl := PVs.unnil hp8_2
  have HB8 := Lib.hid (show Box W1 (g8) #[.string key, .slice p8_1 l.length q8_1] 68 from hb8)
  clear hb8 hp8_2
  have HB1 := Lib.hid (below_comp hb1 hS1)
  replace HP0 := Lib.hid (HP0.out.below hS1 hl0)
  replace HP1 := Lib.hid (HP1.out.below hS1 hl1)
  have HP2 := HB8
  have hw8 := hS1.size
  have k0_0 := HP0.out.cell 0 (by simp)
  have k0_1 := HP0.out.cell 1 (by simp)
  have fr0 := fun o => HP0.out.frozen o
  (try simp only [List.getElem_toArray, List.getElem_cons_zero, List.getElem_cons_succ] at k0_0)
  (try simp only [List.getElem_toArray, List.getElem_cons_zero, List.getElem_cons_succ] at k0_1)
  have k1_0 := HP1.out.cell 0 (by simp)
  have k1_1 := HP1.out.cell 1 (by simp)
  have fr1 := fun o => HP1.out.frozen o
  (try simp only [List.getElem_toArray, List.getElem_cons_zero, List.getElem_cons_succ] at k1_0)
  (try simp only [List.getElem_toArray, List.getElem_cons_zero, List.getElem_cons_succ] at k1_1)
  have k2_0 := HP2.out.cell 0 (by simp)
  have k2_1 := HP2.out.cell 1 (by simp)
  have fr2 := fun o => HP2.out.frozen o
  (try simp only [List.getElem_toArray, List.getElem_cons_zero, List.getElem_cons_succ] at k2_0)
  (try simp only [List.getElem_toArray, List.getElem_cons_zero, List.getElem_cons_succ] at k2_1)
  have hl2 : g8 < W1.heap.size := HP2.out.lt
  have HCX := Lib.hid (HC8_1.out.row (el_int.sizes l))
  obtain ⟨SX, hSXd⟩ : ∃ SX, SX = Rng w1.heap.size W1.heap.size := ⟨_, rfl⟩
  rw [← hSXd] at HCX
  have hSX : Hid (∀ k, SX k → w1.heap.size ≤ k ∧ k < W1.heap.size) := Lib.hid fun k hk => by rw [hSXd] at hk; exact hk
  clear hSXd

  by_cases hok : retOk l.length k q
  case neg =>
    obtain rfl : M = ⟨key, l⟩ := HMX.out.symm.trans (if_neg hok)
    obtain rfl : B = false := HBX.out.symm.trans (decide_eq_false hok)
    unfold retOk at hok
    obtain ⟨n, hnl⟩ : ∃ n, n = l.length := ⟨_, rfl⟩
    have HN := Lib.hid hnl
    by_cases hk : 0 ≤ k ∧ k < l.length
    · have hq : ¬ (0 ≤ q ∧ q ≤ 3) := fun h => hok ⟨hk, h⟩
      clear hok
      obtain ⟨hk1, hk2⟩ := hk
      go_wp2_with ((go_at_call 82; (first | (with_reducible refine (spec_in_yes _ _ _ _ (by omega)).mono ?_) | (with_reducible refine (spec_in_no _ _ _ _ (by omega)).mono ?_)); rintro e wq ⟨rfl, rfl⟩))
      apply bodyPost_row_tmp (g := w.heap.size + 1) rfl rfl rfl Try.underlying68 rfl
      focus (repeat (first | (with_reducible exact HP0.out) | (with_reducible exact HP1.out) | (with_reducible exact HP2.out) | (with_reducible exact HP3.out) | (with_reducible exact HQ0.out) | (with_reducible exact HQ1.out) | (with_reducible exact HQ2.out) | (with_reducible exact HQ3.out) | (with_reducible apply Box.new) | (with_reducible apply Box.newAt; simp; done) | (with_reducible apply Box.set) | (with_reducible apply Box.skip; omega) | (with_reducible apply Box.alloc) | (with_reducible apply Box.drew) | (with_reducible apply Box.row) | (with_reducible apply Box.skipRow; omega)))
      focus (kernel_rfl)
      focus (rfl)
      try simp only [List.setIfInBounds_toArray, List.set_cons_zero, List.set_cons_succ]
      refine ⟨_, rfl, ⟨SX, _, rfl, ?_, fun k hk => ⟨by have := (hSX.out k hk).1; omega, by have := (hSX.out k hk).2; simpa using this⟩⟩, ?_⟩
      · repeat (with_reducible refine Row.set ?_ (fun h => by have := (hSX.out _ h).1; omega))
        exact HCX.out
      · repeat (first | ((with_reducible refine Below.setCell ?_ ?_ _); rotate_left; first | omega | (dsimp only; omega) | (simp; done) | (simp; omega)) | ((with_reducible refine below_setRow ?_ ?_ _); rotate_left; first | omega | (dsimp only; omega) | (simp; done) | (simp; omega)) | with_reducible exact Below.refl _ _ | with_reducible exact below_new _ | with_reducible exact below_drew | with_reducible exact HB9.out | with_reducible exact HB8.out | with_reducible exact HB7.out | with_reducible exact HB6.out | with_reducible exact HB5.out | with_reducible exact HB4.out | with_reducible exact HB3.out | with_reducible exact HB2.out | with_reducible exact HB1.out | (with_reducible apply below_comp; rotate_left; first | with_reducible exact HB9.out | with_reducible exact HB8.out | with_reducible exact HB7.out | with_reducible exact HB6.out | with_reducible exact HB5.out | with_reducible exact HB4.out | with_reducible exact HB3.out | with_reducible exact HB2.out | with_reducible exact HB1.out | with_reducible assumption | with_reducible exact below_new _ | with_reducible exact below_drew))
    · clear hok
      by_cases hk1 : 0 ≤ k
      · have hk2 : ¬ k < l.length := fun h => hk ⟨hk1, h⟩
        clear hk
        go_wp2_with ((go_at_call 82; (first | (with_reducible refine (spec_in_yes _ _ _ _ (by omega)).mono ?_) | (with_reducible refine (spec_in_no _ _ _ _ (by omega)).mono ?_)); rintro e wq ⟨rfl, rfl⟩))
        apply bodyPost_row_tmp (g := w.heap.size + 1) rfl rfl rfl Try.underlying68 rfl
        focus (repeat (first | (with_reducible exact HP0.out) | (with_reducible exact HP1.out) | (with_reducible exact HP2.out) | (with_reducible exact HP3.out) | (with_reducible exact HQ0.out) | (with_reducible exact HQ1.out) | (with_reducible exact HQ2.out) | (with_reducible exact HQ3.out) | (with_reducible apply Box.new) | (with_reducible apply Box.newAt; simp; done) | (with_reducible apply Box.set) | (with_reducible apply Box.skip; omega) | (with_reducible apply Box.alloc) | (with_reducible apply Box.drew) | (with_reducible apply Box.row) | (with_reducible apply Box.skipRow; omega)))
        focus (kernel_rfl)
        focus (rfl)
        try simp only [List.setIfInBounds_toArray, List.set_cons_zero, List.set_cons_succ]
        refine ⟨_, rfl, ⟨SX, _, rfl, ?_, fun k hk => ⟨by have := (hSX.out k hk).1; omega, by have := (hSX.out k hk).2; simpa using this⟩⟩, ?_⟩
        · repeat (with_reducible refine Row.set ?_ (fun h => by have := (hSX.out _ h).1; omega))
          exact HCX.out
        · repeat (first | ((with_reducible refine Below.setCell ?_ ?_ _); rotate_left; first | omega | (dsimp only; omega) | (simp; done) | (simp; omega)) | ((with_reducible refine below_setRow ?_ ?_ _); rotate_left; first | omega | (dsimp only; omega) | (simp; done) | (simp; omega)) | with_reducible exact Below.refl _ _ | with_reducible exact below_new _ | with_reducible exact below_drew | with_reducible exact HB9.out | with_reducible exact HB8.out | with_reducible exact HB7.out | with_reducible exact HB6.out | with_reducible exact HB5.out | with_reducible exact HB4.out | with_reducible exact HB3.out | with_reducible exact HB2.out | with_reducible exact HB1.out | (with_reducible apply below_comp; rotate_left; first | with_reducible exact HB9.out | with_reducible exact HB8.out | with_reducible exact HB7.out | with_reducible exact HB6.out | with_reducible exact HB5.out | with_reducible exact HB4.out | with_reducible exact HB3.out | with_reducible exact HB2.out | with_reducible exact HB1.out | with_reducible assumption | with_reducible exact below_new _ | with_reducible exact below_drew))
      · clear hk
        go_wp2_with ((go_at_call 82; (first | (with_reducible refine (spec_in_yes _ _ _ _ (by omega)).mono ?_) | (with_reducible refine (spec_in_no _ _ _ _ (by omega)).mono ?_)); rintro e wq ⟨rfl, rfl⟩))
        apply bodyPost_row_tmp (g := w.heap.size + 1) rfl rfl rfl Try.underlying68 rfl
        focus (repeat (first | (with_reducible exact HP0.out) | (with_reducible exact HP1.out) | (with_reducible exact HP2.out) | (with_reducible exact HP3.out) | (with_reducible exact HQ0.out) | (with_reducible exact HQ1.out) | (with_reducible exact HQ2.out) | (with_reducible exact HQ3.out) | (with_reducible apply Box.new) | (with_reducible apply Box.newAt; simp; done) | (with_reducible apply Box.set) | (with_reducible apply Box.skip; omega) | (with_reducible apply Box.alloc) | (with_reducible apply Box.drew) | (with_reducible apply Box.row) | (with_reducible apply Box.skipRow; omega)))
        focus (kernel_rfl)
        focus (rfl)
        try simp only [List.setIfInBounds_toArray, List.set_cons_zero, List.set_cons_succ]
        refine ⟨_, rfl, ⟨SX, _, rfl, ?_, fun k hk => ⟨by have := (hSX.out k hk).1; omega, by have := (hSX.out k hk).2; simpa using this⟩⟩, ?_⟩
        · repeat (with_reducible refine Row.set ?_ (fun h => by have := (hSX.out _ h).1; omega))
          exact HCX.out
        · repeat (first | ((with_reducible refine Below.setCell ?_ ?_ _); rotate_left; first | omega | (dsimp only; omega) | (simp; done) | (simp; omega)) | ((with_reducible refine below_setRow ?_ ?_ _); rotate_left; first | omega | (dsimp only; omega) | (simp; done) | (simp; omega)) | with_reducible exact Below.refl _ _ | with_reducible exact below_new _ | with_reducible exact below_drew | with_reducible exact HB9.out | with_reducible exact HB8.out | with_reducible exact HB7.out | with_reducible exact HB6.out | with_reducible exact HB5.out | with_reducible exact HB4.out | with_reducible exact HB3.out | with_reducible exact HB2.out | with_reducible exact HB1.out | (with_reducible apply below_comp; rotate_left; first | with_reducible exact HB9.out | with_reducible exact HB8.out | with_reducible exact HB7.out | with_reducible exact HB6.out | with_reducible exact HB5.out | with_reducible exact HB4.out | with_reducible exact HB3.out | with_reducible exact HB2.out | with_reducible exact HB1.out | with_reducible assumption | with_reducible exact below_new _ | with_reducible exact below_drew))
  case pos =>
    obtain rfl : B = true := HBX.out.symm.trans (decide_eq_true hok)
    obtain rfl : M = ⟨key, l.set k.toNat q⟩ := HMX.out.symm.trans (if_pos hok)
    unfold retOk at hok
    obtain ⟨⟨hk1, hk2⟩, hq⟩ := hok
    obtain ⟨j, rfl⟩ : ∃ j : Nat, k = j := ⟨k.toNat, by omega⟩
    have HT : Hid ((j : Int).toNat = j) := Lib.hid (Int.toNat_natCast j)
    have hjl : j < l.length := by omega
    obtain ⟨gr, cr, cur, e, hgS, hgl, ⟨old, hold⟩, hfr, hset⟩ := HCX.out.setAt (el_int.sizes l) (i := j) (j := 0) (x := intrA l[j]) (by simp [hjl]) (by omega)
    rw [List.length_map] at e
    cases e
    have hgr := (hSX.out gr hgS).1
    have hn8 := HP2.out.apart hgl rfl
    have hn8' : ¬ gr = g8 := fun e => hn8 e.symm
    have hn0 : ¬ gr = w.heap.size := by omega
    have hn1 : ¬ gr = w.heap.size + 1 := by omega
    have hn0' : ¬ w.heap.size = gr := by omega
    have hn1' : ¬ w.heap.size + 1 = gr := by omega
    clear hgl hgS
    have HO := Lib.hid (hset (.int .i64 q))
    clear hset
    rw [Nat.mul_one, Nat.add_zero] at hold hfr HO
    go_wp2_with ((go_at_call 82; (first | (with_reducible refine (spec_in_yes _ _ _ _ (by omega)).mono ?_) | (with_reducible refine (spec_in_no _ _ _ _ (by omega)).mono ?_)); rintro e wq ⟨rfl, rfl⟩))
    apply bodyPost_row_tmp (g := w.heap.size + 1) rfl rfl rfl Try.underlying68 rfl
    focus (repeat (first | (with_reducible exact HP0.out) | (with_reducible exact HP1.out) | (with_reducible exact HP2.out) | (with_reducible exact HP3.out) | (with_reducible exact HQ0.out) | (with_reducible exact HQ1.out) | (with_reducible exact HQ2.out) | (with_reducible exact HQ3.out) | (with_reducible apply Box.new) | (with_reducible apply Box.newAt; simp; done) | (with_reducible apply Box.set) | (with_reducible apply Box.skip; omega) | (with_reducible apply Box.alloc) | (with_reducible apply Box.drew) | (with_reducible apply Box.row) | (with_reducible apply Box.skipRow; omega)))
    focus (kernel_rfl)
    focus (rfl)
    try simp only [List.setIfInBounds_toArray, List.set_cons_zero, List.set_cons_succ]
    refine ⟨_, rfl, ⟨SX, _, rfl, ?_, fun k hk => ⟨by have := (hSX.out k hk).1; omega, by have := (hSX.out k hk).2; simpa using this⟩⟩, ?_⟩
    · repeat (with_reducible refine Row.set ?_ (fun h => by have := (hSX.out _ h).1; omega))
      have h2 : (l.map intrA).set j ((intrA l[j]).setIfInBounds 0 (.int .i64 q)) = (l.set (j : Int).toNat q).map intrA := by rw [HT.out, List.map_set]; rfl
      have HQ := HO.out
      rw [h2] at HQ
      simpa using HQ
    · repeat (first | ((with_reducible refine Below.setCell ?_ ?_ _); rotate_left; first | omega | (dsimp only; omega) | (simp; done) | (simp; omega)) | ((with_reducible refine below_setRow ?_ ?_ _); rotate_left; first | omega | (dsimp only; omega) | (simp; done) | (simp; omega)) | with_reducible exact Below.refl _ _ | with_reducible exact below_new _ | with_reducible exact below_drew | with_reducible exact HB9.out | with_reducible exact HB8.out | with_reducible exact HB7.out | with_reducible exact HB6.out | with_reducible exact HB5.out | with_reducible exact HB4.out | with_reducible exact HB3.out | with_reducible exact HB2.out | with_reducible exact HB1.out | (with_reducible apply below_comp; rotate_left; first | with_reducible exact HB9.out | with_reducible exact HB8.out | with_reducible exact HB7.out | with_reducible exact HB6.out | with_reducible exact HB5.out | with_reducible exact HB4.out | with_reducible exact HB3.out | with_reducible exact HB2.out | with_reducible exact HB1.out | with_reducible assumption | with_reducible exact below_new _ | with_reducible exact below_drew))

set_option maxHeartbeats 4000000 in
set_option maxRecDepth 100000 in
theorem impl_retarget (e : SpreadM) (S : Nat → Prop) (v : Value) (k q : Int) (w : World) (hn : e.xTable.length ≤ 4194304) (R : SpreadM.Rep w S e v) :
    Calls Try.prog 48 #[v, .int .i64 k, .int .i64 q] w (AnsSpread w (retM e k q) (decide (retOk e.xTable.length k q))) := by
  have HX := Lib.hid fun W (h : Below w.heap.size w W) => impl_clonespread e S v W hn (R.later h)
  obtain ⟨key, l⟩ := e
  obtain ⟨S3, v3, rfl, R3, hS3⟩ := R
  dsimp only at *
  obtain ⟨a, g, c, rfl, hV, _⟩ := R3.open
  rw [List.length_map]
  (try simp only [List.length_map] at HX)
  have HV := Lib.hid hV
  clear R3 hV hS3
  obtain ⟨B, hB⟩ : ∃ B, decide (retOk l.length k q) = B := ⟨_, rfl⟩
  obtain ⟨M, hM⟩ : ∃ M, retM ⟨key, l⟩ k q = M := ⟨_, rfl⟩
  rw [hB, hM]
  have HBX := Lib.hid hB
  have HMX := Lib.hid hM
  clear hB hM
  go_enter Try.func48, Try.ntmps48
  go_upto_region 1 with fail
  obtain ⟨w1, hw_⟩ : ∃ x, x = ((w.alloc (.cells #[.string key, .slice a l.length c] 68)).alloc (.cells #[.string ⟨#[]⟩, .slice none 0 0] 68)) := ⟨_, rfl⟩
  have hb1 : Below w.heap.size w w1 := hw_ ▸ below_comp (below_new _) (below_new _)
  have HP0 : Hid (Box w1 (w.heap.size) #[.string key, .slice a l.length c] 68) := Lib.hid (by rw [hw_]; repeat (first | (with_reducible exact HP0.out) | (with_reducible exact HP1.out) | (with_reducible exact HP2.out) | (with_reducible exact HP3.out) | (with_reducible exact HQ0.out) | (with_reducible exact HQ1.out) | (with_reducible exact HQ2.out) | (with_reducible exact HQ3.out) | (with_reducible apply Box.new) | (with_reducible apply Box.newAt; simp; done) | (with_reducible apply Box.set) | (with_reducible apply Box.skip; omega) | (with_reducible apply Box.alloc) | (with_reducible apply Box.drew) | (with_reducible apply Box.row) | (with_reducible apply Box.skipRow; omega)))
  have hl0 : w.heap.size < w1.heap.size := HP0.out.lt
  have HP1 : Hid (Box w1 (w.heap.size + 1) #[.string ⟨#[]⟩, .slice none 0 0] 68) := Lib.hid (by rw [hw_]; repeat (first | (with_reducible exact HP0.out) | (with_reducible exact HP1.out) | (with_reducible exact HP2.out) | (with_reducible exact HP3.out) | (with_reducible exact HQ0.out) | (with_reducible exact HQ1.out) | (with_reducible exact HQ2.out) | (with_reducible exact HQ3.out) | (with_reducible apply Box.new) | (with_reducible apply Box.newAt; simp; done) | (with_reducible apply Box.set) | (with_reducible apply Box.skip; omega) | (with_reducible apply Box.alloc) | (with_reducible apply Box.drew) | (with_reducible apply Box.row) | (with_reducible apply Box.skipRow; omega)))
  have hl1 : w.heap.size + 1 < w1.heap.size := HP1.out.lt
  rw [← hw_]
  clear hw_
  have k0_0 := HP0.out.cell 0 (by simp)
  have k0_1 := HP0.out.cell 1 (by simp)
  have fr0 := fun o => HP0.out.frozen o
  (try simp only [List.getElem_toArray, List.getElem_cons_zero, List.getElem_cons_succ] at k0_0)
  (try simp only [List.getElem_toArray, List.getElem_cons_zero, List.getElem_cons_succ] at k0_1)
  go_wp2_with fail
  refine (HX.out _ hb1).mono ?_
  rintro e w2 ⟨v2, rfl, ⟨SX, v4, rfl, RX, hSXs⟩, hb2⟩
  dsimp only at *
  obtain ⟨p8, n8, q8, rfl⟩ := RX.form
  obtain rfl : n8 = l.length := by obtain ⟨a', g', c', e', _⟩ := RX.open; cases e'; rw [List.length_map]
  clear k0_0 k0_1 fr0
  have hw2 := hb2.size
  replace HP0 := Lib.hid (HP0.out.later hb2)
  replace HP1 := Lib.hid (HP1.out.later hb2)
  go_upto_region 2 with fail
  obtain ⟨w3, hw_⟩ : ∃ x, x = w2.alloc (.cells #[.string key, .slice p8 l.length q8] 68) := ⟨_, rfl⟩
  have hb3 : Below w2.heap.size w2 w3 := hw_ ▸ below_new _
  have HP2 : Hid (Box w3 w2.heap.size #[.string key, .slice p8 l.length q8] 68) := Lib.hid (by rw [hw_]; exact Box.new _ _ _)
  rw [← hw_]
  clear hw_
  obtain ⟨g8, hg8⟩ : ∃ g8, g8 = w2.heap.size := ⟨_, rfl⟩
  rw [← hg8] at HP2 ⊢
  have hge8 : w1.heap.size ≤ g8 := by rw [hg8]; exact hb2.size
  clear hg8
  have HB1 := Lib.hid (below_comp (below_comp hb1 hb2) hb3)
  replace HP0 := Lib.hid (HP0.out.later hb3)
  replace HP1 := Lib.hid (HP1.out.later hb3)
  have hw3 := hb3.size
  have k0_0 := HP0.out.cell 0 (by simp)
  have k0_1 := HP0.out.cell 1 (by simp)
  have fr0 := fun o => HP0.out.frozen o
  (try simp only [List.getElem_toArray, List.getElem_cons_zero, List.getElem_cons_succ] at k0_0)
  (try simp only [List.getElem_toArray, List.getElem_cons_zero, List.getElem_cons_succ] at k0_1)
  have k1_0 := HP1.out.cell 0 (by simp)
  have k1_1 := HP1.out.cell 1 (by simp)
  have fr1 := fun o => HP1.out.frozen o
  (try simp only [List.getElem_toArray, List.getElem_cons_zero, List.getElem_cons_succ] at k1_0)
  (try simp only [List.getElem_toArray, List.getElem_cons_zero, List.getElem_cons_succ] at k1_1)
  have k2_0 := HP2.out.cell 0 (by simp)
  have k2_1 := HP2.out.cell 1 (by simp)
  have fr2 := fun o => HP2.out.frozen o
  (try simp only [List.getElem_toArray, List.getElem_cons_zero, List.getElem_cons_succ] at k2_0)
  (try simp only [List.getElem_toArray, List.getElem_cons_zero, List.getElem_cons_succ] at k2_1)
  have hl2 : g8 < w3.heap.size := HP2.out.lt
  have HCX := Lib.hid (RX.later hb3)
  clear RX HX
  have hSX : Hid (∀ k, SX k → w1.heap.size ≤ k ∧ k < w3.heap.size) := Lib.hid fun k hk => by have := hSXs k hk; have h1 := this.1; have h2 := this.2; omega
  clear hSXs

  by_cases hok : retOk l.length k q
  case neg =>
    obtain rfl : M = ⟨key, l⟩ := HMX.out.symm.trans (if_neg hok)
    obtain rfl : B = false := HBX.out.symm.trans (decide_eq_false hok)
    unfold retOk at hok
    obtain ⟨n, hnl⟩ : ∃ n, n = l.length := ⟨_, rfl⟩
    have HN := Lib.hid hnl
    by_cases hk : 0 ≤ k ∧ k < l.length
    · have hq : ¬ (0 ≤ q ∧ q ≤ 3) := fun h => hok ⟨hk, h⟩
      clear hok
      obtain ⟨hk1, hk2⟩ := hk
      go_wp2_with ((go_at_call 86; (first | (with_reducible refine (impl_in_yes _ _ _ _ (by omega)).mono ?_) | (with_reducible refine (impl_in_no _ _ _ _ (by omega)).mono ?_)); rintro e wq ⟨rfl, rfl⟩))
      apply bodyPost_row_tmp (g := w.heap.size + 1) rfl rfl rfl Try.underlying68 rfl
      focus (repeat (first | (with_reducible exact HP0.out) | (with_reducible exact HP1.out) | (with_reducible exact HP2.out) | (with_reducible exact HP3.out) | (with_reducible exact HQ0.out) | (with_reducible exact HQ1.out) | (with_reducible exact HQ2.out) | (with_reducible exact HQ3.out) | (with_reducible apply Box.new) | (with_reducible apply Box.newAt; simp; done) | (with_reducible apply Box.set) | (with_reducible apply Box.skip; omega) | (with_reducible apply Box.alloc) | (with_reducible apply Box.drew) | (with_reducible apply Box.row) | (with_reducible apply Box.skipRow; omega)))
      focus (kernel_rfl)
      focus (rfl)
      try simp only [List.setIfInBounds_toArray, List.set_cons_zero, List.set_cons_succ]
      refine ⟨_, rfl, ⟨SX, _, rfl, ?_, fun k hk => ⟨by have := (hSX.out k hk).1; omega, by have := (hSX.out k hk).2; simpa using this⟩⟩, ?_⟩
      · repeat (with_reducible refine Row.set ?_ (fun h => by have := (hSX.out _ h).1; omega))
        exact HCX.out
      · repeat (first | ((with_reducible refine Below.setCell ?_ ?_ _); rotate_left; first | omega | (dsimp only; omega) | (simp; done) | (simp; omega)) | ((with_reducible refine below_setRow ?_ ?_ _); rotate_left; first | omega | (dsimp only; omega) | (simp; done) | (simp; omega)) | with_reducible exact Below.refl _ _ | with_reducible exact below_new _ | with_reducible exact below_drew | with_reducible exact HB9.out | with_reducible exact HB8.out | with_reducible exact HB7.out | with_reducible exact HB6.out | with_reducible exact HB5.out | with_reducible exact HB4.out | with_reducible exact HB3.out | with_reducible exact HB2.out | with_reducible exact HB1.out | (with_reducible apply below_comp; rotate_left; first | with_reducible exact HB9.out | with_reducible exact HB8.out | with_reducible exact HB7.out | with_reducible exact HB6.out | with_reducible exact HB5.out | with_reducible exact HB4.out | with_reducible exact HB3.out | with_reducible exact HB2.out | with_reducible exact HB1.out | with_reducible assumption | with_reducible exact below_new _ | with_reducible exact below_drew))
    · clear hok
      by_cases hk1 : 0 ≤ k
      · have hk2 : ¬ k < l.length := fun h => hk ⟨hk1, h⟩
        clear hk
        go_wp2_with ((go_at_call 86; (first | (with_reducible refine (impl_in_yes _ _ _ _ (by omega)).mono ?_) | (with_reducible refine (impl_in_no _ _ _ _ (by omega)).mono ?_)); rintro e wq ⟨rfl, rfl⟩))
        apply bodyPost_row_tmp (g := w.heap.size + 1) rfl rfl rfl Try.underlying68 rfl
        focus (repeat (first | (with_reducible exact HP0.out) | (with_reducible exact HP1.out) | (with_reducible exact HP2.out) | (with_reducible exact HP3.out) | (with_reducible exact HQ0.out) | (with_reducible exact HQ1.out) | (with_reducible exact HQ2.out) | (with_reducible exact HQ3.out) | (with_reducible apply Box.new) | (with_reducible apply Box.newAt; simp; done) | (with_reducible apply Box.set) | (with_reducible apply Box.skip; omega) | (with_reducible apply Box.alloc) | (with_reducible apply Box.drew) | (with_reducible apply Box.row) | (with_reducible apply Box.skipRow; omega)))
        focus (kernel_rfl)
        focus (rfl)
        try simp only [List.setIfInBounds_toArray, List.set_cons_zero, List.set_cons_succ]
        refine ⟨_, rfl, ⟨SX, _, rfl, ?_, fun k hk => ⟨by have := (hSX.out k hk).1; omega, by have := (hSX.out k hk).2; simpa using this⟩⟩, ?_⟩
        · repeat (with_reducible refine Row.set ?_ (fun h => by have := (hSX.out _ h).1; omega))
          exact HCX.out
        · repeat (first | ((with_reducible refine Below.setCell ?_ ?_ _); rotate_left; first | omega | (dsimp only; omega) | (simp; done) | (simp; omega)) | ((with_reducible refine below_setRow ?_ ?_ _); rotate_left; first | omega | (dsimp only; omega) | (simp; done) | (simp; omega)) | with_reducible exact Below.refl _ _ | with_reducible exact below_new _ | with_reducible exact below_drew | with_reducible exact HB9.out | with_reducible exact HB8.out | with_reducible exact HB7.out | with_reducible exact HB6.out | with_reducible exact HB5.out | with_reducible exact HB4.out | with_reducible exact HB3.out | with_reducible exact HB2.out | with_reducible exact HB1.out | (with_reducible apply below_comp; rotate_left; first | with_reducible exact HB9.out | with_reducible exact HB8.out | with_reducible exact HB7.out | with_reducible exact HB6.out | with_reducible exact HB5.out | with_reducible exact HB4.out | with_reducible exact HB3.out | with_reducible exact HB2.out | with_reducible exact HB1.out | with_reducible assumption | with_reducible exact below_new _ | with_reducible exact below_drew))
      · clear hk
        go_wp2_with ((go_at_call 86; (first | (with_reducible refine (impl_in_yes _ _ _ _ (by omega)).mono ?_) | (with_reducible refine (impl_in_no _ _ _ _ (by omega)).mono ?_)); rintro e wq ⟨rfl, rfl⟩))
        apply bodyPost_row_tmp (g := w.heap.size + 1) rfl rfl rfl Try.underlying68 rfl
        focus (repeat (first | (with_reducible exact HP0.out) | (with_reducible exact HP1.out) | (with_reducible exact HP2.out) | (with_reducible exact HP3.out) | (with_reducible exact HQ0.out) | (with_reducible exact HQ1.out) | (with_reducible exact HQ2.out) | (with_reducible exact HQ3.out) | (with_reducible apply Box.new) | (with_reducible apply Box.newAt; simp; done) | (with_reducible apply Box.set) | (with_reducible apply Box.skip; omega) | (with_reducible apply Box.alloc) | (with_reducible apply Box.drew) | (with_reducible apply Box.row) | (with_reducible apply Box.skipRow; omega)))
        focus (kernel_rfl)
        focus (rfl)
        try simp only [List.setIfInBounds_toArray, List.set_cons_zero, List.set_cons_succ]
        refine ⟨_, rfl, ⟨SX, _, rfl, ?_, fun k hk => ⟨by have := (hSX.out k hk).1; omega, by have := (hSX.out k hk).2; simpa using this⟩⟩, ?_⟩
        · repeat (with_reducible refine Row.set ?_ (fun h => by have := (hSX.out _ h).1; omega))
          exact HCX.out
        · repeat (first | ((with_reducible refine Below.setCell ?_ ?_ _); rotate_left; first | omega | (dsimp only; omega) | (simp; done) | (simp; omega)) | ((with_reducible refine below_setRow ?_ ?_ _); rotate_left; first | omega | (dsimp only; omega) | (simp; done) | (simp; omega)) | with_reducible exact Below.refl _ _ | with_reducible exact below_new _ | with_reducible exact below_drew | with_reducible exact HB9.out | with_reducible exact HB8.out | with_reducible exact HB7.out | with_reducible exact HB6.out | with_reducible exact HB5.out | with_reducible exact HB4.out | with_reducible exact HB3.out | with_reducible exact HB2.out | with_reducible exact HB1.out | (with_reducible apply below_comp; rotate_left; first | with_reducible exact HB9.out | with_reducible exact HB8.out | with_reducible exact HB7.out | with_reducible exact HB6.out | with_reducible exact HB5.out | with_reducible exact HB4.out | with_reducible exact HB3.out | with_reducible exact HB2.out | with_reducible exact HB1.out | with_reducible assumption | with_reducible exact below_new _ | with_reducible exact below_drew))
  case pos =>
    obtain rfl : B = true := HBX.out.symm.trans (decide_eq_true hok)
    obtain rfl : M = ⟨key, l.set k.toNat q⟩ := HMX.out.symm.trans (if_pos hok)
    unfold retOk at hok
    obtain ⟨⟨hk1, hk2⟩, hq⟩ := hok
    obtain ⟨j, rfl⟩ : ∃ j : Nat, k = j := ⟨k.toNat, by omega⟩
    have HT : Hid ((j : Int).toNat = j) := Lib.hid (Int.toNat_natCast j)
    have hjl : j < l.length := by omega
    obtain ⟨gr, cr, cur, e, hgS, hgl, ⟨old, hold⟩, hfr, hset⟩ := HCX.out.setAt (el_int.sizes l) (i := j) (j := 0) (x := intrA l[j]) (by simp [hjl]) (by omega)
    rw [List.length_map] at e
    cases e
    have hgr := (hSX.out gr hgS).1
    have hn8 := HP2.out.apart hgl rfl
    have hn8' : ¬ gr = g8 := fun e => hn8 e.symm
    have hn0 : ¬ gr = w.heap.size := by omega
    have hn1 : ¬ gr = w.heap.size + 1 := by omega
    have hn0' : ¬ w.heap.size = gr := by omega
    have hn1' : ¬ w.heap.size + 1 = gr := by omega
    clear hgl hgS
    have HO := Lib.hid (hset (.int .i64 q))
    clear hset
    rw [Nat.mul_one, Nat.add_zero] at hold hfr HO
    go_wp2_with ((go_at_call 86; (first | (with_reducible refine (impl_in_yes _ _ _ _ (by omega)).mono ?_) | (with_reducible refine (impl_in_no _ _ _ _ (by omega)).mono ?_)); rintro e wq ⟨rfl, rfl⟩))
    apply bodyPost_row_tmp (g := w.heap.size + 1) rfl rfl rfl Try.underlying68 rfl
    focus (repeat (first | (with_reducible exact HP0.out) | (with_reducible exact HP1.out) | (with_reducible exact HP2.out) | (with_reducible exact HP3.out) | (with_reducible exact HQ0.out) | (with_reducible exact HQ1.out) | (with_reducible exact HQ2.out) | (with_reducible exact HQ3.out) | (with_reducible apply Box.new) | (with_reducible apply Box.newAt; simp; done) | (with_reducible apply Box.set) | (with_reducible apply Box.skip; omega) | (with_reducible apply Box.alloc) | (with_reducible apply Box.drew) | (with_reducible apply Box.row) | (with_reducible apply Box.skipRow; omega)))
    focus (kernel_rfl)
    focus (rfl)
    try simp only [List.setIfInBounds_toArray, List.set_cons_zero, List.set_cons_succ]
    refine ⟨_, rfl, ⟨SX, _, rfl, ?_, fun k hk => ⟨by have := (hSX.out k hk).1; omega, by have := (hSX.out k hk).2; simpa using this⟩⟩, ?_⟩
    · repeat (with_reducible refine Row.set ?_ (fun h => by have := (hSX.out _ h).1; omega))
      have h2 : (l.map intrA).set j ((intrA l[j]).setIfInBounds 0 (.int .i64 q)) = (l.set (j : Int).toNat q).map intrA := by rw [HT.out, List.map_set]; rfl
      have HQ := HO.out
      rw [h2] at HQ
      simpa using HQ
    · repeat (first | ((with_reducible refine Below.setCell ?_ ?_ _); rotate_left; first | omega | (dsimp only; omega) | (simp; done) | (simp; omega)) | ((with_reducible refine below_setRow ?_ ?_ _); rotate_left; first | omega | (dsimp only; omega) | (simp; done) | (simp; omega)) | with_reducible exact Below.refl _ _ | with_reducible exact below_new _ | with_reducible exact below_drew | with_reducible exact HB9.out | with_reducible exact HB8.out | with_reducible exact HB7.out | with_reducible exact HB6.out | with_reducible exact HB5.out | with_reducible exact HB4.out | with_reducible exact HB3.out | with_reducible exact HB2.out | with_reducible exact HB1.out | (with_reducible apply below_comp; rotate_left; first | with_reducible exact HB9.out | with_reducible exact HB8.out | with_reducible exact HB7.out | with_reducible exact HB6.out | with_reducible exact HB5.out | with_reducible exact HB4.out | with_reducible exact HB3.out | with_reducible exact HB2.out | with_reducible exact HB1.out | with_reducible assumption | with_reducible exact below_new _ | with_reducible exact below_drew))

end Go.Proofs.Ytogiocinhjbdkaa
