/- TakeBuffers, the model. -/
import Derived.Test.YtogiocinhjbdkaaTakeI
namespace Go.Proofs.Ytogiocinhjbdkaa
open Go.RowKit
set_option linter.unusedSimpArgs false
set_option linter.unusedVariables false

theorem Ownd.nilq (W : World) (B : Nat) (T : TypeId) (m : Nat) (a : Option Addr) (q : Nat) (h : q = 0) : Ownd W B T m (.slice a 0 q) [] := by subst h; exact Ownd.nil _ _ _ _ _
theorem wpList_build0 {ops : Array Oper} {rest : List Oper} {op : Oper} {b : Act} {w : World} {Q : Exit → Act → World → Prop} (hgd : op.guard = none) (d : Nat) (hd : op.dst = some d) (ho : op.op = .buildSlice 48 0 #[])
    (h : ∀ a0 q0 w', q0 = 0 → Below w.heap.size w w' → wpList Try.prog ops Q rest (b.put (some d) (.slice a0 0 q0)) w') : wpList Try.prog ops Q (op :: rest) b w := by
  refine wpList_plain hgd fun K hK => ?_
  simp only [Oper.wp, execOp, ho]
  go_simp
  exact hK _ _ (h (some ⟨w.heap.size, 0, none⟩) 0 _ rfl (below_new _))
theorem slice_to_int (W : World) (a : Option Addr) (n c k : Nat) (hk : k ≤ c) : (Instr.slice 48 (.slice a n c) none (some (.int .i64 (k : Int))) none).run Try.prog W = .ok (.slice a k c) W := by
  have hE : Try.prog.elem 48 = 3 := by kernel_rfl
  have hu : Try.prog.underlying 48 = some (.slice (Try.prog.elem 48)) := by rw [hE]; exact Try.underlying48
  have hz : ∀ W, (sizeOf 3).run Try.prog W = .ok 1 W := fun W => by simp [go_sem]
  rw [run_slice_h W _ _ _ _ hu .i64 (k : Int) (by omega) (by omega), hE, hz]
  simp [Result.andThen, sliced_to]
theorem slice_from_int (W : World) (a : Option Addr) (n c k : Nat) (hk : k ≤ n) : (Instr.slice 48 (.slice a n c) (some (.int .i64 (k : Int))) none none).run Try.prog W = .ok (sliced a k n c 1) W := by
  have hE : Try.prog.elem 48 = 3 := by kernel_rfl
  have hu : Try.prog.underlying 48 = some (.slice (Try.prog.elem 48)) := by rw [hE]; exact Try.underlying48
  have hz : ∀ W, (sizeOf 3).run Try.prog W = .ok 1 W := fun W => by simp [go_sem]
  rw [run_slice_l W _ _ _ _ hu .i64 (k : Int) (by omega) (by omega), hE, hz]
  simp [Result.andThen]

set_option maxHeartbeats 4000000 in
set_option maxRecDepth 100000 in
theorem spec_takebuffers (e : PoolM) (S : Nat → Prop) (v : Value) (n : Int) (w : World) (hn : e.xFree.length ≤ 2097152) (R : PoolM.Rep w S e v) :
    Calls Try.prog 33 #[v, .int .i64 n] w (AnsTake w (takeM e n) (takeL e n) (decide (takeOk e n))) := by
  have HC := Lib.hid fun W (h : Below w.heap.size w W) => spec_clonepool e S v W (by omega) (R.later h)
  obtain ⟨B, hB⟩ : ∃ B, decide (takeOk e n) = B := ⟨_, rfl⟩
  obtain ⟨M, hM⟩ : ∃ M, takeM e n = M := ⟨_, rfl⟩
  obtain ⟨L, hL⟩ : ∃ L, takeL e n = L := ⟨_, rfl⟩
  rw [hB, hM, hL]
  have HBX := Lib.hid hB
  have HMX := Lib.hid hM
  have HLX := Lib.hid hL
  clear hB hM hL
  obtain ⟨S3, v3, rfl, R3, hS3⟩ := R
  have HP := Lib.hid fun W (h : Below w.heap.size w W) => spec_poolok e.xBase e.xSize e.xCount v3 e.xFree.length 0 (fun j => e.xFree.getD j 0) W (by omega) (IntRow.of_row (R3.later h))
  have HG : Hid (poolOkB e = poolB e.xBase e.xSize e.xCount e.xFree.length (fun j => e.xFree.getD j 0)) := Lib.hid rfl
  obtain ⟨a, g, c, rfl, hV, _⟩ := R3.open
  have hcap := R3.cap_le c rfl
  rw [List.length_map] at hcap
  simp only [List.length_map] at HP HC ⊢
  have HV := Lib.hid hV
  clear R3 hV hS3
  generalize poolB e.xBase e.xSize e.xCount e.xFree.length (fun j => e.xFree.getD j 0) = G at HP HG
  by_cases hok : takeOk e n
  case neg =>
    obtain rfl : e = M := ((HMX.out.symm.trans (if_neg hok)).symm)
    obtain rfl : L = [] := HLX.out.symm.trans (if_neg hok)
    obtain rfl : B = false := HBX.out.symm.trans (decide_eq_false hok)
    unfold takeOk at hok
    rw [HG.out] at hok
    rcases G with _ | _
    · clear hok HBX HMX HLX
      go_enter Try.func33, Try.ntmps33
      go_upto_region 1 with fail
      obtain ⟨w1, hw_⟩ : ∃ x, x = ((w.alloc (.cells #[.int .i64 e.xBase, .int .i64 e.xSize, .int .i64 e.xCount, .slice a e.xFree.length c] 52)).alloc (.cells #[.int .i64 0, .int .i64 0, .int .i64 0, .slice none 0 0] 52)) := ⟨_, rfl⟩
      have hb1 : Below w.heap.size w w1 := hw_ ▸ below_comp (below_new _) (below_new _)
      have HP0 : Hid (Box w1 (w.heap.size) #[.int .i64 e.xBase, .int .i64 e.xSize, .int .i64 e.xCount, .slice a e.xFree.length c] 52) := Lib.hid (by rw [hw_]; repeat (first | (with_reducible exact HP0.out) | (with_reducible exact HP1.out) | (with_reducible exact HP2.out) | (with_reducible exact HP3.out) | (with_reducible exact HQ0.out) | (with_reducible exact HQ1.out) | (with_reducible exact HQ2.out) | (with_reducible exact HQ3.out) | (with_reducible apply Box.new) | (with_reducible apply Box.newAt; simp; done) | (with_reducible apply Box.set) | (with_reducible apply Box.skip; omega) | (with_reducible apply Box.alloc) | (with_reducible apply Box.drew) | (with_reducible apply Box.row) | (with_reducible apply Box.skipRow; omega)))
      have hl0 : w.heap.size < w1.heap.size := HP0.out.lt
      have HP1 : Hid (Box w1 (w.heap.size + 1) #[.int .i64 0, .int .i64 0, .int .i64 0, .slice none 0 0] 52) := Lib.hid (by rw [hw_]; repeat (first | (with_reducible exact HP0.out) | (with_reducible exact HP1.out) | (with_reducible exact HP2.out) | (with_reducible exact HP3.out) | (with_reducible exact HQ0.out) | (with_reducible exact HQ1.out) | (with_reducible exact HQ2.out) | (with_reducible exact HQ3.out) | (with_reducible apply Box.new) | (with_reducible apply Box.newAt; simp; done) | (with_reducible apply Box.set) | (with_reducible apply Box.skip; omega) | (with_reducible apply Box.alloc) | (with_reducible apply Box.drew) | (with_reducible apply Box.row) | (with_reducible apply Box.skipRow; omega)))
      have hl1 : w.heap.size + 1 < w1.heap.size := HP1.out.lt
      rw [← hw_]
      clear hw_
      have k0_0 := HP0.out.cell 0 (by simp)
      have k0_1 := HP0.out.cell 1 (by simp)
      have k0_2 := HP0.out.cell 2 (by simp)
      have k0_3 := HP0.out.cell 3 (by simp)
      have fr0 := fun o => HP0.out.frozen o
      (try simp only [List.getElem_toArray, List.getElem_cons_zero, List.getElem_cons_succ] at k0_0)
      (try simp only [List.getElem_toArray, List.getElem_cons_zero, List.getElem_cons_succ] at k0_1)
      (try simp only [List.getElem_toArray, List.getElem_cons_zero, List.getElem_cons_succ] at k0_2)
      (try simp only [List.getElem_toArray, List.getElem_cons_zero, List.getElem_cons_succ] at k0_3)
      have k1_0 := HP1.out.cell 0 (by simp)
      have k1_1 := HP1.out.cell 1 (by simp)
      have k1_2 := HP1.out.cell 2 (by simp)
      have k1_3 := HP1.out.cell 3 (by simp)
      have fr1 := fun o => HP1.out.frozen o
      (try simp only [List.getElem_toArray, List.getElem_cons_zero, List.getElem_cons_succ] at k1_0)
      (try simp only [List.getElem_toArray, List.getElem_cons_zero, List.getElem_cons_succ] at k1_1)
      (try simp only [List.getElem_toArray, List.getElem_cons_zero, List.getElem_cons_succ] at k1_2)
      (try simp only [List.getElem_toArray, List.getElem_cons_zero, List.getElem_cons_succ] at k1_3)
      have HB1 := Lib.hid hb1
      go_wp2_with fail
      refine (HC.out _ HB1.out).mono ?_
      rintro e_ w2 ⟨v2, rfl, ⟨SX, v4, rfl, RX, hSXs⟩, hb2⟩
      (try dsimp only at RX)
      obtain ⟨p8, n8, q8, rfl⟩ := RX.form
      obtain rfl : n8 = e.xFree.length := by obtain ⟨a', g', c', e', _⟩ := RX.open; cases e'; rw [List.length_map]
      clear k0_0 k0_1 k0_2 k0_3 fr0 k1_0 k1_1 k1_2 k1_3 fr1
      have hw2 := hb2.size
      replace HP0 := Lib.hid (HP0.out.later hb2)
      replace HP1 := Lib.hid (HP1.out.later hb2)
      go_upto_region 2 with fail
      obtain ⟨w3, hw_⟩ : ∃ x, x = w2.alloc (.cells #[.int .i64 e.xBase, .int .i64 e.xSize, .int .i64 e.xCount, .slice p8 e.xFree.length q8] 52) := ⟨_, rfl⟩
      have hb3 : Below w2.heap.size w2 w3 := hw_ ▸ below_new _
      have HP2 : Hid (Box w3 w2.heap.size #[.int .i64 e.xBase, .int .i64 e.xSize, .int .i64 e.xCount, .slice p8 e.xFree.length q8] 52) := Lib.hid (by rw [hw_]; exact Box.new _ _ _)
      rw [← hw_]
      clear hw_
      obtain ⟨g8, hg8⟩ : ∃ g8, g8 = w2.heap.size := ⟨_, rfl⟩
      rw [← hg8] at HP2 ⊢
      have hge8 : w1.heap.size ≤ g8 := by rw [hg8]; exact hb2.size
      have hg83 : g8 < w3.heap.size := HP2.out.lt
      clear hg8
      have HB2 := Lib.hid hb2
      have HB3 := Lib.hid hb3
      have HB9 := Lib.hid (below_comp (below_comp HB1.out hb2) hb3)
      replace HP0 := Lib.hid (HP0.out.later hb3)
      replace HP1 := Lib.hid (HP1.out.later hb3)
      have hw3 := hb3.size
      have k0_0 := HP0.out.cell 0 (by simp)
      have k0_1 := HP0.out.cell 1 (by simp)
      have k0_2 := HP0.out.cell 2 (by simp)
      have k0_3 := HP0.out.cell 3 (by simp)
      have fr0 := fun o => HP0.out.frozen o
      (try simp only [List.getElem_toArray, List.getElem_cons_zero, List.getElem_cons_succ] at k0_0)
      (try simp only [List.getElem_toArray, List.getElem_cons_zero, List.getElem_cons_succ] at k0_1)
      (try simp only [List.getElem_toArray, List.getElem_cons_zero, List.getElem_cons_succ] at k0_2)
      (try simp only [List.getElem_toArray, List.getElem_cons_zero, List.getElem_cons_succ] at k0_3)
      have k1_0 := HP1.out.cell 0 (by simp)
      have k1_1 := HP1.out.cell 1 (by simp)
      have k1_2 := HP1.out.cell 2 (by simp)
      have k1_3 := HP1.out.cell 3 (by simp)
      have fr1 := fun o => HP1.out.frozen o
      (try simp only [List.getElem_toArray, List.getElem_cons_zero, List.getElem_cons_succ] at k1_0)
      (try simp only [List.getElem_toArray, List.getElem_cons_zero, List.getElem_cons_succ] at k1_1)
      (try simp only [List.getElem_toArray, List.getElem_cons_zero, List.getElem_cons_succ] at k1_2)
      (try simp only [List.getElem_toArray, List.getElem_cons_zero, List.getElem_cons_succ] at k1_3)
      have k2_0 := HP2.out.cell 0 (by simp)
      have k2_1 := HP2.out.cell 1 (by simp)
      have k2_2 := HP2.out.cell 2 (by simp)
      have k2_3 := HP2.out.cell 3 (by simp)
      have fr2 := fun o => HP2.out.frozen o
      (try simp only [List.getElem_toArray, List.getElem_cons_zero, List.getElem_cons_succ] at k2_0)
      (try simp only [List.getElem_toArray, List.getElem_cons_zero, List.getElem_cons_succ] at k2_1)
      (try simp only [List.getElem_toArray, List.getElem_cons_zero, List.getElem_cons_succ] at k2_2)
      (try simp only [List.getElem_toArray, List.getElem_cons_zero, List.getElem_cons_succ] at k2_3)
      have hl2 : g8 < w3.heap.size := HP2.out.lt
      have HRX := Lib.hid (RX.later hb3)
      clear RX HC
      have HSX : Hid (∀ k, SX k → w1.heap.size ≤ k ∧ k < w3.heap.size) := Lib.hid fun k hk => by have h1 := (show Rng w1.heap.size w2.heap.size k from hSXs k hk).1; have h2 := (show Rng w1.heap.size w2.heap.size k from hSXs k hk).2; omega
      clear hSXs hb3
      go_wp2_with (first | (go_at_call 101; refine (HP.out _ (by repeat (first | with_reducible exact Below.refl _ _ | with_reducible exact below_new _ | with_reducible exact below_drew | with_reducible exact HB9.out | with_reducible exact HB8.out | with_reducible exact HB7.out | with_reducible exact HB6.out | with_reducible exact HB5.out | with_reducible exact HB4.out | with_reducible exact HB3.out | with_reducible exact HB2.out | with_reducible exact HB1.out | ((with_reducible refine Below.setCell ?_ ?_ _); rotate_left; first | omega | (dsimp only; omega) | (simp; done) | (simp; omega)) | ((with_reducible refine below_setRow ?_ ?_ _); rotate_left; first | omega | (dsimp only; omega) | (simp; done) | (simp; omega)) | (with_reducible apply below_comp; rotate_left; first | with_reducible exact HB9.out | with_reducible exact HB8.out | with_reducible exact HB7.out | with_reducible exact HB6.out | with_reducible exact HB5.out | with_reducible exact HB4.out | with_reducible exact HB3.out | with_reducible exact HB2.out | with_reducible exact HB1.out | with_reducible assumption | with_reducible exact below_new _ | with_reducible exact below_drew)))).mono ?_; rintro r w4 ⟨rfl, hb4⟩; have hz4 := hb4.size; (try simp at hz4); (have hl0 : w.heap.size < w4.heap.size := by omega); (have hl1 : w.heap.size + 1 < w4.heap.size := by omega); (have hl2 : g8 < w4.heap.size := by omega); (apply with_box hb4 (g := w.heap.size)); (focus (repeat (first | (with_reducible exact HP0.out) | (with_reducible exact HP1.out) | (with_reducible exact HP2.out) | (with_reducible exact HP3.out) | (with_reducible exact HP4.out) | (with_reducible exact HP5.out) | (with_reducible exact HP6.out) | (with_reducible exact HP7.out) | (with_reducible exact HP8.out) | (with_reducible exact HP9.out) | (with_reducible exact HP10.out) | (with_reducible exact HP11.out) | (with_reducible exact HQ0.out) | (with_reducible exact HQ1.out) | (with_reducible exact HQ2.out) | (with_reducible exact HQ3.out) | (with_reducible apply Box.new) | (with_reducible apply Box.newAt; simp; done) | (with_reducible apply Box.set) | (with_reducible apply Box.skip; omega) | (with_reducible apply Box.alloc) | (with_reducible apply Box.drew) | (with_reducible apply Box.row) | (with_reducible apply Box.skipRow; omega)))); intro hx0; (try simp only [List.setIfInBounds_toArray, List.set_cons_zero, List.set_cons_succ] at hx0); have k0_0 := hx0.cell 0 (by simp); have k0_1 := hx0.cell 1 (by simp); have k0_2 := hx0.cell 2 (by simp); have k0_3 := hx0.cell 3 (by simp); have fr0 := fun o => hx0.frozen o; (try simp only [List.getElem_toArray, List.getElem_cons_zero, List.getElem_cons_succ] at k0_0); (try simp only [List.getElem_toArray, List.getElem_cons_zero, List.getElem_cons_succ] at k0_1); (try simp only [List.getElem_toArray, List.getElem_cons_zero, List.getElem_cons_succ] at k0_2); (try simp only [List.getElem_toArray, List.getElem_cons_zero, List.getElem_cons_succ] at k0_3); (apply with_box hb4 (g := w.heap.size + 1)); (focus (repeat (first | (with_reducible exact HP0.out) | (with_reducible exact HP1.out) | (with_reducible exact HP2.out) | (with_reducible exact HP3.out) | (with_reducible exact HP4.out) | (with_reducible exact HP5.out) | (with_reducible exact HP6.out) | (with_reducible exact HP7.out) | (with_reducible exact HP8.out) | (with_reducible exact HP9.out) | (with_reducible exact HP10.out) | (with_reducible exact HP11.out) | (with_reducible exact HQ0.out) | (with_reducible exact HQ1.out) | (with_reducible exact HQ2.out) | (with_reducible exact HQ3.out) | (with_reducible apply Box.new) | (with_reducible apply Box.newAt; simp; done) | (with_reducible apply Box.set) | (with_reducible apply Box.skip; omega) | (with_reducible apply Box.alloc) | (with_reducible apply Box.drew) | (with_reducible apply Box.row) | (with_reducible apply Box.skipRow; omega)))); intro hx1; (try simp only [List.setIfInBounds_toArray, List.set_cons_zero, List.set_cons_succ] at hx1); have k1_0 := hx1.cell 0 (by simp); have k1_1 := hx1.cell 1 (by simp); have k1_2 := hx1.cell 2 (by simp); have k1_3 := hx1.cell 3 (by simp); have fr1 := fun o => hx1.frozen o; (try simp only [List.getElem_toArray, List.getElem_cons_zero, List.getElem_cons_succ] at k1_0); (try simp only [List.getElem_toArray, List.getElem_cons_zero, List.getElem_cons_succ] at k1_1); (try simp only [List.getElem_toArray, List.getElem_cons_zero, List.getElem_cons_succ] at k1_2); (try simp only [List.getElem_toArray, List.getElem_cons_zero, List.getElem_cons_succ] at k1_3); (apply with_box hb4 (g := g8)); (focus (repeat (first | (with_reducible exact HP0.out) | (with_reducible exact HP1.out) | (with_reducible exact HP2.out) | (with_reducible exact HP3.out) | (with_reducible exact HP4.out) | (with_reducible exact HP5.out) | (with_reducible exact HP6.out) | (with_reducible exact HP7.out) | (with_reducible exact HP8.out) | (with_reducible exact HP9.out) | (with_reducible exact HP10.out) | (with_reducible exact HP11.out) | (with_reducible exact HQ0.out) | (with_reducible exact HQ1.out) | (with_reducible exact HQ2.out) | (with_reducible exact HQ3.out) | (with_reducible apply Box.new) | (with_reducible apply Box.newAt; simp; done) | (with_reducible apply Box.set) | (with_reducible apply Box.skip; omega) | (with_reducible apply Box.alloc) | (with_reducible apply Box.drew) | (with_reducible apply Box.row) | (with_reducible apply Box.skipRow; omega)))); intro hx2; (try simp only [List.setIfInBounds_toArray, List.set_cons_zero, List.set_cons_succ] at hx2); have k2_0 := hx2.cell 0 (by simp); have k2_1 := hx2.cell 1 (by simp); have k2_2 := hx2.cell 2 (by simp); have k2_3 := hx2.cell 3 (by simp); have fr2 := fun o => hx2.frozen o; (try simp only [List.getElem_toArray, List.getElem_cons_zero, List.getElem_cons_succ] at k2_0); (try simp only [List.getElem_toArray, List.getElem_cons_zero, List.getElem_cons_succ] at k2_1); (try simp only [List.getElem_toArray, List.getElem_cons_zero, List.getElem_cons_succ] at k2_2); (try simp only [List.getElem_toArray, List.getElem_cons_zero, List.getElem_cons_succ] at k2_3); skip; have HP0 := Lib.hid hx0; clear hx0; have HP1 := Lib.hid hx1; clear hx1; have HP2 := Lib.hid hx2; clear hx2; have HB4 := Lib.hid hb4; clear hb4) | (go_at_call 82; (first | (with_reducible refine (spec_in_yes _ _ _ _ (by omega)).mono ?_) | (with_reducible refine (spec_in_no _ _ _ _ (by omega)).mono ?_)); rintro e wq ⟨rfl, rfl⟩))
      apply bodyPost_row_tmp2 (g := w.heap.size + 1) rfl rfl rfl rfl Try.underlying52 rfl
      focus (repeat (first | (with_reducible exact HP0.out) | (with_reducible exact HP1.out) | (with_reducible exact HP2.out) | (with_reducible exact HP3.out) | (with_reducible exact HQ0.out) | (with_reducible exact HQ1.out) | (with_reducible exact HQ2.out) | (with_reducible exact HQ3.out) | (with_reducible apply Box.new) | (with_reducible apply Box.newAt; simp; done) | (with_reducible apply Box.set) | (with_reducible apply Box.skip; omega) | (with_reducible apply Box.alloc) | (with_reducible apply Box.drew) | (with_reducible apply Box.row) | (with_reducible apply Box.skipRow; omega)))
      focus (kernel_rfl)
      focus (rfl)
      try simp only [List.setIfInBounds_toArray, List.set_cons_zero, List.set_cons_succ]
      refine ⟨_, _, SX, fun _ => False, rfl, ⟨SX, _, rfl, ?_, fun k hk => hk⟩, Row.nil _ _ _ _ _ _, fun k hk => ?_, fun k hk => hk.elim, fun k h1 h2 => h2, ?_⟩
      · repeat (first | (with_reducible refine Row.set ?_ (fun h => by have := (HSX.out _ h).1; omega)) | (with_reducible refine Row.later ?_ (below_new _)))
        exact HRX.out.later HB4.out
      · have h1 := (HSX.out k hk).1; have h2 := (HSX.out k hk).2; have h3 := HB4.out.size; have h4 := HB1.out.size; simp at h1 h2 h3 ⊢; omega
      · repeat (first | with_reducible exact Below.refl _ _ | with_reducible exact below_new _ | with_reducible exact below_drew | with_reducible exact HB9.out | with_reducible exact HB8.out | with_reducible exact HB7.out | with_reducible exact HB6.out | with_reducible exact HB5.out | with_reducible exact HB4.out | with_reducible exact HB3.out | with_reducible exact HB2.out | with_reducible exact HB1.out | ((with_reducible refine Below.setCell ?_ ?_ _); rotate_left; first | omega | (dsimp only; omega) | (simp; done) | (simp; omega)) | ((with_reducible refine below_setRow ?_ ?_ _); rotate_left; first | omega | (dsimp only; omega) | (simp; done) | (simp; omega)) | (with_reducible apply below_comp; rotate_left; first | with_reducible exact HB9.out | with_reducible exact HB8.out | with_reducible exact HB7.out | with_reducible exact HB6.out | with_reducible exact HB5.out | with_reducible exact HB4.out | with_reducible exact HB3.out | with_reducible exact HB2.out | with_reducible exact HB1.out | with_reducible assumption | with_reducible exact below_new _ | with_reducible exact below_drew))
    · have hok2 : ¬ (0 ≤ n ∧ n ≤ (e.xFree.length : Int)) := fun h => hok ⟨rfl, h⟩
      clear hok HBX HMX HLX
      go_enter Try.func33, Try.ntmps33
      go_upto_region 1 with fail
      obtain ⟨w1, hw_⟩ : ∃ x, x = ((w.alloc (.cells #[.int .i64 e.xBase, .int .i64 e.xSize, .int .i64 e.xCount, .slice a e.xFree.length c] 52)).alloc (.cells #[.int .i64 0, .int .i64 0, .int .i64 0, .slice none 0 0] 52)) := ⟨_, rfl⟩
      have hb1 : Below w.heap.size w w1 := hw_ ▸ below_comp (below_new _) (below_new _)
      have HP0 : Hid (Box w1 (w.heap.size) #[.int .i64 e.xBase, .int .i64 e.xSize, .int .i64 e.xCount, .slice a e.xFree.length c] 52) := Lib.hid (by rw [hw_]; repeat (first | (with_reducible exact HP0.out) | (with_reducible exact HP1.out) | (with_reducible exact HP2.out) | (with_reducible exact HP3.out) | (with_reducible exact HQ0.out) | (with_reducible exact HQ1.out) | (with_reducible exact HQ2.out) | (with_reducible exact HQ3.out) | (with_reducible apply Box.new) | (with_reducible apply Box.newAt; simp; done) | (with_reducible apply Box.set) | (with_reducible apply Box.skip; omega) | (with_reducible apply Box.alloc) | (with_reducible apply Box.drew) | (with_reducible apply Box.row) | (with_reducible apply Box.skipRow; omega)))
      have hl0 : w.heap.size < w1.heap.size := HP0.out.lt
      have HP1 : Hid (Box w1 (w.heap.size + 1) #[.int .i64 0, .int .i64 0, .int .i64 0, .slice none 0 0] 52) := Lib.hid (by rw [hw_]; repeat (first | (with_reducible exact HP0.out) | (with_reducible exact HP1.out) | (with_reducible exact HP2.out) | (with_reducible exact HP3.out) | (with_reducible exact HQ0.out) | (with_reducible exact HQ1.out) | (with_reducible exact HQ2.out) | (with_reducible exact HQ3.out) | (with_reducible apply Box.new) | (with_reducible apply Box.newAt; simp; done) | (with_reducible apply Box.set) | (with_reducible apply Box.skip; omega) | (with_reducible apply Box.alloc) | (with_reducible apply Box.drew) | (with_reducible apply Box.row) | (with_reducible apply Box.skipRow; omega)))
      have hl1 : w.heap.size + 1 < w1.heap.size := HP1.out.lt
      rw [← hw_]
      clear hw_
      have k0_0 := HP0.out.cell 0 (by simp)
      have k0_1 := HP0.out.cell 1 (by simp)
      have k0_2 := HP0.out.cell 2 (by simp)
      have k0_3 := HP0.out.cell 3 (by simp)
      have fr0 := fun o => HP0.out.frozen o
      (try simp only [List.getElem_toArray, List.getElem_cons_zero, List.getElem_cons_succ] at k0_0)
      (try simp only [List.getElem_toArray, List.getElem_cons_zero, List.getElem_cons_succ] at k0_1)
      (try simp only [List.getElem_toArray, List.getElem_cons_zero, List.getElem_cons_succ] at k0_2)
      (try simp only [List.getElem_toArray, List.getElem_cons_zero, List.getElem_cons_succ] at k0_3)
      have k1_0 := HP1.out.cell 0 (by simp)
      have k1_1 := HP1.out.cell 1 (by simp)
      have k1_2 := HP1.out.cell 2 (by simp)
      have k1_3 := HP1.out.cell 3 (by simp)
      have fr1 := fun o => HP1.out.frozen o
      (try simp only [List.getElem_toArray, List.getElem_cons_zero, List.getElem_cons_succ] at k1_0)
      (try simp only [List.getElem_toArray, List.getElem_cons_zero, List.getElem_cons_succ] at k1_1)
      (try simp only [List.getElem_toArray, List.getElem_cons_zero, List.getElem_cons_succ] at k1_2)
      (try simp only [List.getElem_toArray, List.getElem_cons_zero, List.getElem_cons_succ] at k1_3)
      have HB1 := Lib.hid hb1
      go_wp2_with fail
      refine (HC.out _ HB1.out).mono ?_
      rintro e_ w2 ⟨v2, rfl, ⟨SX, v4, rfl, RX, hSXs⟩, hb2⟩
      (try dsimp only at RX)
      obtain ⟨p8, n8, q8, rfl⟩ := RX.form
      obtain rfl : n8 = e.xFree.length := by obtain ⟨a', g', c', e', _⟩ := RX.open; cases e'; rw [List.length_map]
      clear k0_0 k0_1 k0_2 k0_3 fr0 k1_0 k1_1 k1_2 k1_3 fr1
      have hw2 := hb2.size
      replace HP0 := Lib.hid (HP0.out.later hb2)
      replace HP1 := Lib.hid (HP1.out.later hb2)
      go_upto_region 2 with fail
      obtain ⟨w3, hw_⟩ : ∃ x, x = w2.alloc (.cells #[.int .i64 e.xBase, .int .i64 e.xSize, .int .i64 e.xCount, .slice p8 e.xFree.length q8] 52) := ⟨_, rfl⟩
      have hb3 : Below w2.heap.size w2 w3 := hw_ ▸ below_new _
      have HP2 : Hid (Box w3 w2.heap.size #[.int .i64 e.xBase, .int .i64 e.xSize, .int .i64 e.xCount, .slice p8 e.xFree.length q8] 52) := Lib.hid (by rw [hw_]; exact Box.new _ _ _)
      rw [← hw_]
      clear hw_
      obtain ⟨g8, hg8⟩ : ∃ g8, g8 = w2.heap.size := ⟨_, rfl⟩
      rw [← hg8] at HP2 ⊢
      have hge8 : w1.heap.size ≤ g8 := by rw [hg8]; exact hb2.size
      have hg83 : g8 < w3.heap.size := HP2.out.lt
      clear hg8
      have HB2 := Lib.hid hb2
      have HB3 := Lib.hid hb3
      have HB9 := Lib.hid (below_comp (below_comp HB1.out hb2) hb3)
      replace HP0 := Lib.hid (HP0.out.later hb3)
      replace HP1 := Lib.hid (HP1.out.later hb3)
      have hw3 := hb3.size
      have k0_0 := HP0.out.cell 0 (by simp)
      have k0_1 := HP0.out.cell 1 (by simp)
      have k0_2 := HP0.out.cell 2 (by simp)
      have k0_3 := HP0.out.cell 3 (by simp)
      have fr0 := fun o => HP0.out.frozen o
      (try simp only [List.getElem_toArray, List.getElem_cons_zero, List.getElem_cons_succ] at k0_0)
      (try simp only [List.getElem_toArray, List.getElem_cons_zero, List.getElem_cons_succ] at k0_1)
      (try simp only [List.getElem_toArray, List.getElem_cons_zero, List.getElem_cons_succ] at k0_2)
      (try simp only [List.getElem_toArray, List.getElem_cons_zero, List.getElem_cons_succ] at k0_3)
      have k1_0 := HP1.out.cell 0 (by simp)
      have k1_1 := HP1.out.cell 1 (by simp)
      have k1_2 := HP1.out.cell 2 (by simp)
      have k1_3 := HP1.out.cell 3 (by simp)
      have fr1 := fun o => HP1.out.frozen o
      (try simp only [List.getElem_toArray, List.getElem_cons_zero, List.getElem_cons_succ] at k1_0)
      (try simp only [List.getElem_toArray, List.getElem_cons_zero, List.getElem_cons_succ] at k1_1)
      (try simp only [List.getElem_toArray, List.getElem_cons_zero, List.getElem_cons_succ] at k1_2)
      (try simp only [List.getElem_toArray, List.getElem_cons_zero, List.getElem_cons_succ] at k1_3)
      have k2_0 := HP2.out.cell 0 (by simp)
      have k2_1 := HP2.out.cell 1 (by simp)
      have k2_2 := HP2.out.cell 2 (by simp)
      have k2_3 := HP2.out.cell 3 (by simp)
      have fr2 := fun o => HP2.out.frozen o
      (try simp only [List.getElem_toArray, List.getElem_cons_zero, List.getElem_cons_succ] at k2_0)
      (try simp only [List.getElem_toArray, List.getElem_cons_zero, List.getElem_cons_succ] at k2_1)
      (try simp only [List.getElem_toArray, List.getElem_cons_zero, List.getElem_cons_succ] at k2_2)
      (try simp only [List.getElem_toArray, List.getElem_cons_zero, List.getElem_cons_succ] at k2_3)
      have hl2 : g8 < w3.heap.size := HP2.out.lt
      have HRX := Lib.hid (RX.later hb3)
      clear RX HC
      have HSX : Hid (∀ k, SX k → w1.heap.size ≤ k ∧ k < w3.heap.size) := Lib.hid fun k hk => by have h1 := (show Rng w1.heap.size w2.heap.size k from hSXs k hk).1; have h2 := (show Rng w1.heap.size w2.heap.size k from hSXs k hk).2; omega
      clear hSXs hb3
      go_wp2_with (first | (go_at_call 101; refine (HP.out _ (by repeat (first | with_reducible exact Below.refl _ _ | with_reducible exact below_new _ | with_reducible exact below_drew | with_reducible exact HB9.out | with_reducible exact HB8.out | with_reducible exact HB7.out | with_reducible exact HB6.out | with_reducible exact HB5.out | with_reducible exact HB4.out | with_reducible exact HB3.out | with_reducible exact HB2.out | with_reducible exact HB1.out | ((with_reducible refine Below.setCell ?_ ?_ _); rotate_left; first | omega | (dsimp only; omega) | (simp; done) | (simp; omega)) | ((with_reducible refine below_setRow ?_ ?_ _); rotate_left; first | omega | (dsimp only; omega) | (simp; done) | (simp; omega)) | (with_reducible apply below_comp; rotate_left; first | with_reducible exact HB9.out | with_reducible exact HB8.out | with_reducible exact HB7.out | with_reducible exact HB6.out | with_reducible exact HB5.out | with_reducible exact HB4.out | with_reducible exact HB3.out | with_reducible exact HB2.out | with_reducible exact HB1.out | with_reducible assumption | with_reducible exact below_new _ | with_reducible exact below_drew)))).mono ?_; rintro r w4 ⟨rfl, hb4⟩; have hz4 := hb4.size; (try simp at hz4); (have hl0 : w.heap.size < w4.heap.size := by omega); (have hl1 : w.heap.size + 1 < w4.heap.size := by omega); (have hl2 : g8 < w4.heap.size := by omega); (apply with_box hb4 (g := w.heap.size)); (focus (repeat (first | (with_reducible exact HP0.out) | (with_reducible exact HP1.out) | (with_reducible exact HP2.out) | (with_reducible exact HP3.out) | (with_reducible exact HP4.out) | (with_reducible exact HP5.out) | (with_reducible exact HP6.out) | (with_reducible exact HP7.out) | (with_reducible exact HP8.out) | (with_reducible exact HP9.out) | (with_reducible exact HP10.out) | (with_reducible exact HP11.out) | (with_reducible exact HQ0.out) | (with_reducible exact HQ1.out) | (with_reducible exact HQ2.out) | (with_reducible exact HQ3.out) | (with_reducible apply Box.new) | (with_reducible apply Box.newAt; simp; done) | (with_reducible apply Box.set) | (with_reducible apply Box.skip; omega) | (with_reducible apply Box.alloc) | (with_reducible apply Box.drew) | (with_reducible apply Box.row) | (with_reducible apply Box.skipRow; omega)))); intro hx0; (try simp only [List.setIfInBounds_toArray, List.set_cons_zero, List.set_cons_succ] at hx0); have k0_0 := hx0.cell 0 (by simp); have k0_1 := hx0.cell 1 (by simp); have k0_2 := hx0.cell 2 (by simp); have k0_3 := hx0.cell 3 (by simp); have fr0 := fun o => hx0.frozen o; (try simp only [List.getElem_toArray, List.getElem_cons_zero, List.getElem_cons_succ] at k0_0); (try simp only [List.getElem_toArray, List.getElem_cons_zero, List.getElem_cons_succ] at k0_1); (try simp only [List.getElem_toArray, List.getElem_cons_zero, List.getElem_cons_succ] at k0_2); (try simp only [List.getElem_toArray, List.getElem_cons_zero, List.getElem_cons_succ] at k0_3); (apply with_box hb4 (g := w.heap.size + 1)); (focus (repeat (first | (with_reducible exact HP0.out) | (with_reducible exact HP1.out) | (with_reducible exact HP2.out) | (with_reducible exact HP3.out) | (with_reducible exact HP4.out) | (with_reducible exact HP5.out) | (with_reducible exact HP6.out) | (with_reducible exact HP7.out) | (with_reducible exact HP8.out) | (with_reducible exact HP9.out) | (with_reducible exact HP10.out) | (with_reducible exact HP11.out) | (with_reducible exact HQ0.out) | (with_reducible exact HQ1.out) | (with_reducible exact HQ2.out) | (with_reducible exact HQ3.out) | (with_reducible apply Box.new) | (with_reducible apply Box.newAt; simp; done) | (with_reducible apply Box.set) | (with_reducible apply Box.skip; omega) | (with_reducible apply Box.alloc) | (with_reducible apply Box.drew) | (with_reducible apply Box.row) | (with_reducible apply Box.skipRow; omega)))); intro hx1; (try simp only [List.setIfInBounds_toArray, List.set_cons_zero, List.set_cons_succ] at hx1); have k1_0 := hx1.cell 0 (by simp); have k1_1 := hx1.cell 1 (by simp); have k1_2 := hx1.cell 2 (by simp); have k1_3 := hx1.cell 3 (by simp); have fr1 := fun o => hx1.frozen o; (try simp only [List.getElem_toArray, List.getElem_cons_zero, List.getElem_cons_succ] at k1_0); (try simp only [List.getElem_toArray, List.getElem_cons_zero, List.getElem_cons_succ] at k1_1); (try simp only [List.getElem_toArray, List.getElem_cons_zero, List.getElem_cons_succ] at k1_2); (try simp only [List.getElem_toArray, List.getElem_cons_zero, List.getElem_cons_succ] at k1_3); (apply with_box hb4 (g := g8)); (focus (repeat (first | (with_reducible exact HP0.out) | (with_reducible exact HP1.out) | (with_reducible exact HP2.out) | (with_reducible exact HP3.out) | (with_reducible exact HP4.out) | (with_reducible exact HP5.out) | (with_reducible exact HP6.out) | (with_reducible exact HP7.out) | (with_reducible exact HP8.out) | (with_reducible exact HP9.out) | (with_reducible exact HP10.out) | (with_reducible exact HP11.out) | (with_reducible exact HQ0.out) | (with_reducible exact HQ1.out) | (with_reducible exact HQ2.out) | (with_reducible exact HQ3.out) | (with_reducible apply Box.new) | (with_reducible apply Box.newAt; simp; done) | (with_reducible apply Box.set) | (with_reducible apply Box.skip; omega) | (with_reducible apply Box.alloc) | (with_reducible apply Box.drew) | (with_reducible apply Box.row) | (with_reducible apply Box.skipRow; omega)))); intro hx2; (try simp only [List.setIfInBounds_toArray, List.set_cons_zero, List.set_cons_succ] at hx2); have k2_0 := hx2.cell 0 (by simp); have k2_1 := hx2.cell 1 (by simp); have k2_2 := hx2.cell 2 (by simp); have k2_3 := hx2.cell 3 (by simp); have fr2 := fun o => hx2.frozen o; (try simp only [List.getElem_toArray, List.getElem_cons_zero, List.getElem_cons_succ] at k2_0); (try simp only [List.getElem_toArray, List.getElem_cons_zero, List.getElem_cons_succ] at k2_1); (try simp only [List.getElem_toArray, List.getElem_cons_zero, List.getElem_cons_succ] at k2_2); (try simp only [List.getElem_toArray, List.getElem_cons_zero, List.getElem_cons_succ] at k2_3); skip; have HP0 := Lib.hid hx0; clear hx0; have HP1 := Lib.hid hx1; clear hx1; have HP2 := Lib.hid hx2; clear hx2; have HB4 := Lib.hid hb4; clear hb4) | (go_at_call 82; (first | (with_reducible refine (spec_in_yes _ _ _ _ (by omega)).mono ?_) | (with_reducible refine (spec_in_no _ _ _ _ (by omega)).mono ?_)); rintro e wq ⟨rfl, rfl⟩))
      apply bodyPost_row_tmp2 (g := w.heap.size + 1) rfl rfl rfl rfl Try.underlying52 rfl
      focus (repeat (first | (with_reducible exact HP0.out) | (with_reducible exact HP1.out) | (with_reducible exact HP2.out) | (with_reducible exact HP3.out) | (with_reducible exact HQ0.out) | (with_reducible exact HQ1.out) | (with_reducible exact HQ2.out) | (with_reducible exact HQ3.out) | (with_reducible apply Box.new) | (with_reducible apply Box.newAt; simp; done) | (with_reducible apply Box.set) | (with_reducible apply Box.skip; omega) | (with_reducible apply Box.alloc) | (with_reducible apply Box.drew) | (with_reducible apply Box.row) | (with_reducible apply Box.skipRow; omega)))
      focus (kernel_rfl)
      focus (rfl)
      try simp only [List.setIfInBounds_toArray, List.set_cons_zero, List.set_cons_succ]
      refine ⟨_, _, SX, fun _ => False, rfl, ⟨SX, _, rfl, ?_, fun k hk => hk⟩, Row.nil _ _ _ _ _ _, fun k hk => ?_, fun k hk => hk.elim, fun k h1 h2 => h2, ?_⟩
      · repeat (first | (with_reducible refine Row.set ?_ (fun h => by have := (HSX.out _ h).1; omega)) | (with_reducible refine Row.later ?_ (below_new _)))
        exact HRX.out.later HB4.out
      · have h1 := (HSX.out k hk).1; have h2 := (HSX.out k hk).2; have h3 := HB4.out.size; have h4 := HB1.out.size; simp at h1 h2 h3 ⊢; omega
      · repeat (first | with_reducible exact Below.refl _ _ | with_reducible exact below_new _ | with_reducible exact below_drew | with_reducible exact HB9.out | with_reducible exact HB8.out | with_reducible exact HB7.out | with_reducible exact HB6.out | with_reducible exact HB5.out | with_reducible exact HB4.out | with_reducible exact HB3.out | with_reducible exact HB2.out | with_reducible exact HB1.out | ((with_reducible refine Below.setCell ?_ ?_ _); rotate_left; first | omega | (dsimp only; omega) | (simp; done) | (simp; omega)) | ((with_reducible refine below_setRow ?_ ?_ _); rotate_left; first | omega | (dsimp only; omega) | (simp; done) | (simp; omega)) | (with_reducible apply below_comp; rotate_left; first | with_reducible exact HB9.out | with_reducible exact HB8.out | with_reducible exact HB7.out | with_reducible exact HB6.out | with_reducible exact HB5.out | with_reducible exact HB4.out | with_reducible exact HB3.out | with_reducible exact HB2.out | with_reducible exact HB1.out | with_reducible assumption | with_reducible exact below_new _ | with_reducible exact below_drew))
  case pos =>
    obtain rfl : M = ⟨e.xBase, e.xSize, e.xCount, e.xFree.drop n.toNat⟩ := HMX.out.symm.trans (if_pos hok)
    obtain rfl : L = e.xFree.take n.toNat := HLX.out.symm.trans (if_pos hok)
    obtain rfl : B = true := HBX.out.symm.trans (decide_eq_true hok)
    unfold takeOk at hok
    rw [HG.out] at hok
    obtain ⟨rfl, hn0, hn1⟩ := hok
    clear HBX HMX HLX
    obtain ⟨j, rfl⟩ : ∃ j : Nat, n = j := ⟨n.toNat, by omega⟩
    rw [Int.toNat_natCast]
    have hj : j ≤ e.xFree.length := by omega
    have HL1 : Hid ((e.xFree.take j).length = j) := Lib.hid (by simp; omega)
    have HL2 : Hid ((e.xFree.drop j).length = e.xFree.length - j) := Lib.hid (by simp)
    obtain ⟨a', hsl, hV2⟩ := sliced_from (c := c) (k := j) (n := e.xFree.length) HV.out (by simp) hcap hj
    have hs1 := fun W => slice_to_int W a e.xFree.length c j (by omega)
    have hs2 := fun W => (slice_from_int W a e.xFree.length c j hj).trans (by rw [hsl])
    have HV2 := Lib.hid hV2
    clear hsl hV2
    go_enter Try.func33, Try.ntmps33
    go_upto_region 1 with fail
    obtain ⟨w1, hw_⟩ : ∃ x, x = ((w.alloc (.cells #[.int .i64 e.xBase, .int .i64 e.xSize, .int .i64 e.xCount, .slice a e.xFree.length c] 52)).alloc (.cells #[.int .i64 0, .int .i64 0, .int .i64 0, .slice none 0 0] 52)) := ⟨_, rfl⟩
    have hb1 : Below w.heap.size w w1 := hw_ ▸ below_comp (below_new _) (below_new _)
    have HP0 : Hid (Box w1 (w.heap.size) #[.int .i64 e.xBase, .int .i64 e.xSize, .int .i64 e.xCount, .slice a e.xFree.length c] 52) := Lib.hid (by rw [hw_]; repeat (first | (with_reducible exact HP0.out) | (with_reducible exact HP1.out) | (with_reducible exact HP2.out) | (with_reducible exact HP3.out) | (with_reducible exact HQ0.out) | (with_reducible exact HQ1.out) | (with_reducible exact HQ2.out) | (with_reducible exact HQ3.out) | (with_reducible apply Box.new) | (with_reducible apply Box.newAt; simp; done) | (with_reducible apply Box.set) | (with_reducible apply Box.skip; omega) | (with_reducible apply Box.alloc) | (with_reducible apply Box.drew) | (with_reducible apply Box.row) | (with_reducible apply Box.skipRow; omega)))
    have hl0 : w.heap.size < w1.heap.size := HP0.out.lt
    have HP1 : Hid (Box w1 (w.heap.size + 1) #[.int .i64 0, .int .i64 0, .int .i64 0, .slice none 0 0] 52) := Lib.hid (by rw [hw_]; repeat (first | (with_reducible exact HP0.out) | (with_reducible exact HP1.out) | (with_reducible exact HP2.out) | (with_reducible exact HP3.out) | (with_reducible exact HQ0.out) | (with_reducible exact HQ1.out) | (with_reducible exact HQ2.out) | (with_reducible exact HQ3.out) | (with_reducible apply Box.new) | (with_reducible apply Box.newAt; simp; done) | (with_reducible apply Box.set) | (with_reducible apply Box.skip; omega) | (with_reducible apply Box.alloc) | (with_reducible apply Box.drew) | (with_reducible apply Box.row) | (with_reducible apply Box.skipRow; omega)))
    have hl1 : w.heap.size + 1 < w1.heap.size := HP1.out.lt
    rw [← hw_]
    clear hw_
    have k0_0 := HP0.out.cell 0 (by simp)
    have k0_1 := HP0.out.cell 1 (by simp)
    have k0_2 := HP0.out.cell 2 (by simp)
    have k0_3 := HP0.out.cell 3 (by simp)
    have fr0 := fun o => HP0.out.frozen o
    (try simp only [List.getElem_toArray, List.getElem_cons_zero, List.getElem_cons_succ] at k0_0)
    (try simp only [List.getElem_toArray, List.getElem_cons_zero, List.getElem_cons_succ] at k0_1)
    (try simp only [List.getElem_toArray, List.getElem_cons_zero, List.getElem_cons_succ] at k0_2)
    (try simp only [List.getElem_toArray, List.getElem_cons_zero, List.getElem_cons_succ] at k0_3)
    have k1_0 := HP1.out.cell 0 (by simp)
    have k1_1 := HP1.out.cell 1 (by simp)
    have k1_2 := HP1.out.cell 2 (by simp)
    have k1_3 := HP1.out.cell 3 (by simp)
    have fr1 := fun o => HP1.out.frozen o
    (try simp only [List.getElem_toArray, List.getElem_cons_zero, List.getElem_cons_succ] at k1_0)
    (try simp only [List.getElem_toArray, List.getElem_cons_zero, List.getElem_cons_succ] at k1_1)
    (try simp only [List.getElem_toArray, List.getElem_cons_zero, List.getElem_cons_succ] at k1_2)
    (try simp only [List.getElem_toArray, List.getElem_cons_zero, List.getElem_cons_succ] at k1_3)
    have HB1 := Lib.hid hb1
    go_wp2_with fail
    refine (HC.out _ HB1.out).mono ?_
    rintro e_ w2 ⟨v2, rfl, ⟨SX, v4, rfl, RX, hSXs⟩, hb2⟩
    (try dsimp only at RX)
    obtain ⟨p8, n8, q8, rfl⟩ := RX.form
    obtain rfl : n8 = e.xFree.length := by obtain ⟨a', g', c', e', _⟩ := RX.open; cases e'; rw [List.length_map]
    clear k0_0 k0_1 k0_2 k0_3 fr0 k1_0 k1_1 k1_2 k1_3 fr1
    have hw2 := hb2.size
    replace HP0 := Lib.hid (HP0.out.later hb2)
    replace HP1 := Lib.hid (HP1.out.later hb2)
    go_upto_region 2 with fail
    obtain ⟨w3, hw_⟩ : ∃ x, x = w2.alloc (.cells #[.int .i64 e.xBase, .int .i64 e.xSize, .int .i64 e.xCount, .slice p8 e.xFree.length q8] 52) := ⟨_, rfl⟩
    have hb3 : Below w2.heap.size w2 w3 := hw_ ▸ below_new _
    have HP2 : Hid (Box w3 w2.heap.size #[.int .i64 e.xBase, .int .i64 e.xSize, .int .i64 e.xCount, .slice p8 e.xFree.length q8] 52) := Lib.hid (by rw [hw_]; exact Box.new _ _ _)
    rw [← hw_]
    clear hw_
    obtain ⟨g8, hg8⟩ : ∃ g8, g8 = w2.heap.size := ⟨_, rfl⟩
    rw [← hg8] at HP2 ⊢
    have hge8 : w1.heap.size ≤ g8 := by rw [hg8]; exact hb2.size
    have hg83 : g8 < w3.heap.size := HP2.out.lt
    clear hg8
    have HB2 := Lib.hid hb2
    have HB3 := Lib.hid hb3
    have HB9 := Lib.hid (below_comp (below_comp HB1.out hb2) hb3)
    replace HP0 := Lib.hid (HP0.out.later hb3)
    replace HP1 := Lib.hid (HP1.out.later hb3)
    have hw3 := hb3.size
    have k0_0 := HP0.out.cell 0 (by simp)
    have k0_1 := HP0.out.cell 1 (by simp)
    have k0_2 := HP0.out.cell 2 (by simp)
    have k0_3 := HP0.out.cell 3 (by simp)
    have fr0 := fun o => HP0.out.frozen o
    (try simp only [List.getElem_toArray, List.getElem_cons_zero, List.getElem_cons_succ] at k0_0)
    (try simp only [List.getElem_toArray, List.getElem_cons_zero, List.getElem_cons_succ] at k0_1)
    (try simp only [List.getElem_toArray, List.getElem_cons_zero, List.getElem_cons_succ] at k0_2)
    (try simp only [List.getElem_toArray, List.getElem_cons_zero, List.getElem_cons_succ] at k0_3)
    have k1_0 := HP1.out.cell 0 (by simp)
    have k1_1 := HP1.out.cell 1 (by simp)
    have k1_2 := HP1.out.cell 2 (by simp)
    have k1_3 := HP1.out.cell 3 (by simp)
    have fr1 := fun o => HP1.out.frozen o
    (try simp only [List.getElem_toArray, List.getElem_cons_zero, List.getElem_cons_succ] at k1_0)
    (try simp only [List.getElem_toArray, List.getElem_cons_zero, List.getElem_cons_succ] at k1_1)
    (try simp only [List.getElem_toArray, List.getElem_cons_zero, List.getElem_cons_succ] at k1_2)
    (try simp only [List.getElem_toArray, List.getElem_cons_zero, List.getElem_cons_succ] at k1_3)
    have k2_0 := HP2.out.cell 0 (by simp)
    have k2_1 := HP2.out.cell 1 (by simp)
    have k2_2 := HP2.out.cell 2 (by simp)
    have k2_3 := HP2.out.cell 3 (by simp)
    have fr2 := fun o => HP2.out.frozen o
    (try simp only [List.getElem_toArray, List.getElem_cons_zero, List.getElem_cons_succ] at k2_0)
    (try simp only [List.getElem_toArray, List.getElem_cons_zero, List.getElem_cons_succ] at k2_1)
    (try simp only [List.getElem_toArray, List.getElem_cons_zero, List.getElem_cons_succ] at k2_2)
    (try simp only [List.getElem_toArray, List.getElem_cons_zero, List.getElem_cons_succ] at k2_3)
    have hl2 : g8 < w3.heap.size := HP2.out.lt
    have HRX := Lib.hid (RX.later hb3)
    clear RX HC
    have HSX : Hid (∀ k, SX k → w1.heap.size ≤ k ∧ k < w3.heap.size) := Lib.hid fun k hk => by have h1 := (show Rng w1.heap.size w2.heap.size k from hSXs k hk).1; have h2 := (show Rng w1.heap.size w2.heap.size k from hSXs k hk).2; omega
    clear hSXs hb3
    go_wp2_with (first | (go_at_call 101; refine (HP.out _ (by repeat (first | with_reducible exact Below.refl _ _ | with_reducible exact below_new _ | with_reducible exact below_drew | with_reducible exact HB9.out | with_reducible exact HB8.out | with_reducible exact HB7.out | with_reducible exact HB6.out | with_reducible exact HB5.out | with_reducible exact HB4.out | with_reducible exact HB3.out | with_reducible exact HB2.out | with_reducible exact HB1.out | ((with_reducible refine Below.setCell ?_ ?_ _); rotate_left; first | omega | (dsimp only; omega) | (simp; done) | (simp; omega)) | ((with_reducible refine below_setRow ?_ ?_ _); rotate_left; first | omega | (dsimp only; omega) | (simp; done) | (simp; omega)) | (with_reducible apply below_comp; rotate_left; first | with_reducible exact HB9.out | with_reducible exact HB8.out | with_reducible exact HB7.out | with_reducible exact HB6.out | with_reducible exact HB5.out | with_reducible exact HB4.out | with_reducible exact HB3.out | with_reducible exact HB2.out | with_reducible exact HB1.out | with_reducible assumption | with_reducible exact below_new _ | with_reducible exact below_drew)))).mono ?_; rintro r w4 ⟨rfl, hb4⟩; have hz4 := hb4.size; (try simp at hz4); (have hl0 : w.heap.size < w4.heap.size := by omega); (have hl1 : w.heap.size + 1 < w4.heap.size := by omega); (have hl2 : g8 < w4.heap.size := by omega); (apply with_box hb4 (g := w.heap.size)); (focus (repeat (first | (with_reducible exact HP0.out) | (with_reducible exact HP1.out) | (with_reducible exact HP2.out) | (with_reducible exact HP3.out) | (with_reducible exact HP4.out) | (with_reducible exact HP5.out) | (with_reducible exact HP6.out) | (with_reducible exact HP7.out) | (with_reducible exact HP8.out) | (with_reducible exact HP9.out) | (with_reducible exact HP10.out) | (with_reducible exact HP11.out) | (with_reducible exact HQ0.out) | (with_reducible exact HQ1.out) | (with_reducible exact HQ2.out) | (with_reducible exact HQ3.out) | (with_reducible apply Box.new) | (with_reducible apply Box.newAt; simp; done) | (with_reducible apply Box.set) | (with_reducible apply Box.skip; omega) | (with_reducible apply Box.alloc) | (with_reducible apply Box.drew) | (with_reducible apply Box.row) | (with_reducible apply Box.skipRow; omega)))); intro hx0; (try simp only [List.setIfInBounds_toArray, List.set_cons_zero, List.set_cons_succ] at hx0); have k0_0 := hx0.cell 0 (by simp); have k0_1 := hx0.cell 1 (by simp); have k0_2 := hx0.cell 2 (by simp); have k0_3 := hx0.cell 3 (by simp); have fr0 := fun o => hx0.frozen o; (try simp only [List.getElem_toArray, List.getElem_cons_zero, List.getElem_cons_succ] at k0_0); (try simp only [List.getElem_toArray, List.getElem_cons_zero, List.getElem_cons_succ] at k0_1); (try simp only [List.getElem_toArray, List.getElem_cons_zero, List.getElem_cons_succ] at k0_2); (try simp only [List.getElem_toArray, List.getElem_cons_zero, List.getElem_cons_succ] at k0_3); (apply with_box hb4 (g := w.heap.size + 1)); (focus (repeat (first | (with_reducible exact HP0.out) | (with_reducible exact HP1.out) | (with_reducible exact HP2.out) | (with_reducible exact HP3.out) | (with_reducible exact HP4.out) | (with_reducible exact HP5.out) | (with_reducible exact HP6.out) | (with_reducible exact HP7.out) | (with_reducible exact HP8.out) | (with_reducible exact HP9.out) | (with_reducible exact HP10.out) | (with_reducible exact HP11.out) | (with_reducible exact HQ0.out) | (with_reducible exact HQ1.out) | (with_reducible exact HQ2.out) | (with_reducible exact HQ3.out) | (with_reducible apply Box.new) | (with_reducible apply Box.newAt; simp; done) | (with_reducible apply Box.set) | (with_reducible apply Box.skip; omega) | (with_reducible apply Box.alloc) | (with_reducible apply Box.drew) | (with_reducible apply Box.row) | (with_reducible apply Box.skipRow; omega)))); intro hx1; (try simp only [List.setIfInBounds_toArray, List.set_cons_zero, List.set_cons_succ] at hx1); have k1_0 := hx1.cell 0 (by simp); have k1_1 := hx1.cell 1 (by simp); have k1_2 := hx1.cell 2 (by simp); have k1_3 := hx1.cell 3 (by simp); have fr1 := fun o => hx1.frozen o; (try simp only [List.getElem_toArray, List.getElem_cons_zero, List.getElem_cons_succ] at k1_0); (try simp only [List.getElem_toArray, List.getElem_cons_zero, List.getElem_cons_succ] at k1_1); (try simp only [List.getElem_toArray, List.getElem_cons_zero, List.getElem_cons_succ] at k1_2); (try simp only [List.getElem_toArray, List.getElem_cons_zero, List.getElem_cons_succ] at k1_3); (apply with_box hb4 (g := g8)); (focus (repeat (first | (with_reducible exact HP0.out) | (with_reducible exact HP1.out) | (with_reducible exact HP2.out) | (with_reducible exact HP3.out) | (with_reducible exact HP4.out) | (with_reducible exact HP5.out) | (with_reducible exact HP6.out) | (with_reducible exact HP7.out) | (with_reducible exact HP8.out) | (with_reducible exact HP9.out) | (with_reducible exact HP10.out) | (with_reducible exact HP11.out) | (with_reducible exact HQ0.out) | (with_reducible exact HQ1.out) | (with_reducible exact HQ2.out) | (with_reducible exact HQ3.out) | (with_reducible apply Box.new) | (with_reducible apply Box.newAt; simp; done) | (with_reducible apply Box.set) | (with_reducible apply Box.skip; omega) | (with_reducible apply Box.alloc) | (with_reducible apply Box.drew) | (with_reducible apply Box.row) | (with_reducible apply Box.skipRow; omega)))); intro hx2; (try simp only [List.setIfInBounds_toArray, List.set_cons_zero, List.set_cons_succ] at hx2); have k2_0 := hx2.cell 0 (by simp); have k2_1 := hx2.cell 1 (by simp); have k2_2 := hx2.cell 2 (by simp); have k2_3 := hx2.cell 3 (by simp); have fr2 := fun o => hx2.frozen o; (try simp only [List.getElem_toArray, List.getElem_cons_zero, List.getElem_cons_succ] at k2_0); (try simp only [List.getElem_toArray, List.getElem_cons_zero, List.getElem_cons_succ] at k2_1); (try simp only [List.getElem_toArray, List.getElem_cons_zero, List.getElem_cons_succ] at k2_2); (try simp only [List.getElem_toArray, List.getElem_cons_zero, List.getElem_cons_succ] at k2_3); skip; have HP0 := Lib.hid hx0; clear hx0; have HP1 := Lib.hid hx1; clear hx1; have HP2 := Lib.hid hx2; clear hx2; have HB4 := Lib.hid hb4; clear hb4) | (go_at_call 82; (first | (with_reducible refine (spec_in_yes _ _ _ _ (by omega)).mono ?_) | (with_reducible refine (spec_in_no _ _ _ _ (by omega)).mono ?_)); rintro e wq ⟨rfl, rfl⟩) | ((with_reducible show wpList _ _ _ _ _ _); refine wpList_build0 rfl 24 rfl rfl ?_; intro a0_24 q0_24 w5 hq hb5; have HQ24 := Lib.hid hq; clear hq; have hz5 := hb5.size; (try simp at hz5); (have hl0 : w.heap.size < w5.heap.size := by omega); (have hl1 : w.heap.size + 1 < w5.heap.size := by omega); (have hl2 : g8 < w5.heap.size := by omega); (apply with_box hb5 (g := w.heap.size)); (focus (repeat (first | (with_reducible exact HP0.out) | (with_reducible exact HP1.out) | (with_reducible exact HP2.out) | (with_reducible exact HP3.out) | (with_reducible exact HP4.out) | (with_reducible exact HP5.out) | (with_reducible exact HP6.out) | (with_reducible exact HP7.out) | (with_reducible exact HP8.out) | (with_reducible exact HP9.out) | (with_reducible exact HP10.out) | (with_reducible exact HP11.out) | (with_reducible exact HQ0.out) | (with_reducible exact HQ1.out) | (with_reducible exact HQ2.out) | (with_reducible exact HQ3.out) | (with_reducible apply Box.new) | (with_reducible apply Box.newAt; simp; done) | (with_reducible apply Box.set) | (with_reducible apply Box.skip; omega) | (with_reducible apply Box.alloc) | (with_reducible apply Box.drew) | (with_reducible apply Box.row) | (with_reducible apply Box.skipRow; omega)))); intro hx0; (try simp only [List.setIfInBounds_toArray, List.set_cons_zero, List.set_cons_succ] at hx0); have k0_0 := hx0.cell 0 (by simp); have k0_1 := hx0.cell 1 (by simp); have k0_2 := hx0.cell 2 (by simp); have k0_3 := hx0.cell 3 (by simp); have fr0 := fun o => hx0.frozen o; (try simp only [List.getElem_toArray, List.getElem_cons_zero, List.getElem_cons_succ] at k0_0); (try simp only [List.getElem_toArray, List.getElem_cons_zero, List.getElem_cons_succ] at k0_1); (try simp only [List.getElem_toArray, List.getElem_cons_zero, List.getElem_cons_succ] at k0_2); (try simp only [List.getElem_toArray, List.getElem_cons_zero, List.getElem_cons_succ] at k0_3); (apply with_box hb5 (g := w.heap.size + 1)); (focus (repeat (first | (with_reducible exact HP0.out) | (with_reducible exact HP1.out) | (with_reducible exact HP2.out) | (with_reducible exact HP3.out) | (with_reducible exact HP4.out) | (with_reducible exact HP5.out) | (with_reducible exact HP6.out) | (with_reducible exact HP7.out) | (with_reducible exact HP8.out) | (with_reducible exact HP9.out) | (with_reducible exact HP10.out) | (with_reducible exact HP11.out) | (with_reducible exact HQ0.out) | (with_reducible exact HQ1.out) | (with_reducible exact HQ2.out) | (with_reducible exact HQ3.out) | (with_reducible apply Box.new) | (with_reducible apply Box.newAt; simp; done) | (with_reducible apply Box.set) | (with_reducible apply Box.skip; omega) | (with_reducible apply Box.alloc) | (with_reducible apply Box.drew) | (with_reducible apply Box.row) | (with_reducible apply Box.skipRow; omega)))); intro hx1; (try simp only [List.setIfInBounds_toArray, List.set_cons_zero, List.set_cons_succ] at hx1); have k1_0 := hx1.cell 0 (by simp); have k1_1 := hx1.cell 1 (by simp); have k1_2 := hx1.cell 2 (by simp); have k1_3 := hx1.cell 3 (by simp); have fr1 := fun o => hx1.frozen o; (try simp only [List.getElem_toArray, List.getElem_cons_zero, List.getElem_cons_succ] at k1_0); (try simp only [List.getElem_toArray, List.getElem_cons_zero, List.getElem_cons_succ] at k1_1); (try simp only [List.getElem_toArray, List.getElem_cons_zero, List.getElem_cons_succ] at k1_2); (try simp only [List.getElem_toArray, List.getElem_cons_zero, List.getElem_cons_succ] at k1_3); (apply with_box hb5 (g := g8)); (focus (repeat (first | (with_reducible exact HP0.out) | (with_reducible exact HP1.out) | (with_reducible exact HP2.out) | (with_reducible exact HP3.out) | (with_reducible exact HP4.out) | (with_reducible exact HP5.out) | (with_reducible exact HP6.out) | (with_reducible exact HP7.out) | (with_reducible exact HP8.out) | (with_reducible exact HP9.out) | (with_reducible exact HP10.out) | (with_reducible exact HP11.out) | (with_reducible exact HQ0.out) | (with_reducible exact HQ1.out) | (with_reducible exact HQ2.out) | (with_reducible exact HQ3.out) | (with_reducible apply Box.new) | (with_reducible apply Box.newAt; simp; done) | (with_reducible apply Box.set) | (with_reducible apply Box.skip; omega) | (with_reducible apply Box.alloc) | (with_reducible apply Box.drew) | (with_reducible apply Box.row) | (with_reducible apply Box.skipRow; omega)))); intro hx2; (try simp only [List.setIfInBounds_toArray, List.set_cons_zero, List.set_cons_succ] at hx2); have k2_0 := hx2.cell 0 (by simp); have k2_1 := hx2.cell 1 (by simp); have k2_2 := hx2.cell 2 (by simp); have k2_3 := hx2.cell 3 (by simp); have fr2 := fun o => hx2.frozen o; (try simp only [List.getElem_toArray, List.getElem_cons_zero, List.getElem_cons_succ] at k2_0); (try simp only [List.getElem_toArray, List.getElem_cons_zero, List.getElem_cons_succ] at k2_1); (try simp only [List.getElem_toArray, List.getElem_cons_zero, List.getElem_cons_succ] at k2_2); (try simp only [List.getElem_toArray, List.getElem_cons_zero, List.getElem_cons_succ] at k2_3); skip; have HP0 := Lib.hid hx0; clear hx0; have HP1 := Lib.hid hx1; clear hx1; have HP2 := Lib.hid hx2; clear hx2; have HB5 := Lib.hid hb5; clear hb5) | ((with_reducible show wpList _ _ _ _ _ _); refine wpList_append_e rfl (.tmp 24) (.tmp 28) rfl (B := w5.heap.size) elem_int el_int (xs := ([] : List Int)) rfl (Ownd.nilq _ _ _ _ _ _ HQ24.out) (a := a) (g := g) (o := 0) (c) (ys := e.xFree.take j) (by rw [HL1.out]; simp [go_sem, Act.eval]) (View.at0 (by have h := (HV.out.later (W' := w5) (by repeat (first | with_reducible exact Below.refl _ _ | with_reducible exact below_new _ | with_reducible exact below_drew | with_reducible exact HB9.out | with_reducible exact HB8.out | with_reducible exact HB7.out | with_reducible exact HB6.out | with_reducible exact HB5.out | with_reducible exact HB4.out | with_reducible exact HB3.out | with_reducible exact HB2.out | with_reducible exact HB1.out | ((with_reducible refine Below.setCell ?_ ?_ _); rotate_left; first | omega | (dsimp only; omega) | (simp; done) | (simp; omega)) | ((with_reducible refine below_setRow ?_ ?_ _); rotate_left; first | omega | (dsimp only; omega) | (simp; done) | (simp; omega)) | (with_reducible apply below_comp; rotate_left; first | with_reducible exact HB9.out | with_reducible exact HB8.out | with_reducible exact HB7.out | with_reducible exact HB6.out | with_reducible exact HB5.out | with_reducible exact HB4.out | with_reducible exact HB3.out | with_reducible exact HB2.out | with_reducible exact HB1.out | with_reducible assumption | with_reducible exact below_new _ | with_reducible exact below_drew)))).take j; rwa [← List.map_take] at h)) (by simp only [List.length_nil, HL1.out]; omega) (Nat.le_refl _) ?_; intro v6 w6 ho ht; have hb6 : Below w5.heap.size w5 w6 := below_touch (Below.refl _ _) ht (fun k hk => hk.1); rw [List.nil_append] at ho; obtain ⟨a6, c6, hf6⟩ := ho.form; rw [List.length_map, HL1.out] at hf6; subst hf6; have HO6 := Lib.hid ho; clear ho ht; have hz6 := hb6.size; (try simp at hz6); (have hl0 : w.heap.size < w6.heap.size := by omega); (have hl1 : w.heap.size + 1 < w6.heap.size := by omega); (have hl2 : g8 < w6.heap.size := by omega); (apply with_box hb6 (g := w.heap.size)); (focus (repeat (first | (with_reducible exact HP0.out) | (with_reducible exact HP1.out) | (with_reducible exact HP2.out) | (with_reducible exact HP3.out) | (with_reducible exact HP4.out) | (with_reducible exact HP5.out) | (with_reducible exact HP6.out) | (with_reducible exact HP7.out) | (with_reducible exact HP8.out) | (with_reducible exact HP9.out) | (with_reducible exact HP10.out) | (with_reducible exact HP11.out) | (with_reducible exact HQ0.out) | (with_reducible exact HQ1.out) | (with_reducible exact HQ2.out) | (with_reducible exact HQ3.out) | (with_reducible apply Box.new) | (with_reducible apply Box.newAt; simp; done) | (with_reducible apply Box.set) | (with_reducible apply Box.skip; omega) | (with_reducible apply Box.alloc) | (with_reducible apply Box.drew) | (with_reducible apply Box.row) | (with_reducible apply Box.skipRow; omega)))); intro hx0; (try simp only [List.setIfInBounds_toArray, List.set_cons_zero, List.set_cons_succ] at hx0); have k0_0 := hx0.cell 0 (by simp); have k0_1 := hx0.cell 1 (by simp); have k0_2 := hx0.cell 2 (by simp); have k0_3 := hx0.cell 3 (by simp); have fr0 := fun o => hx0.frozen o; (try simp only [List.getElem_toArray, List.getElem_cons_zero, List.getElem_cons_succ] at k0_0); (try simp only [List.getElem_toArray, List.getElem_cons_zero, List.getElem_cons_succ] at k0_1); (try simp only [List.getElem_toArray, List.getElem_cons_zero, List.getElem_cons_succ] at k0_2); (try simp only [List.getElem_toArray, List.getElem_cons_zero, List.getElem_cons_succ] at k0_3); (apply with_box hb6 (g := w.heap.size + 1)); (focus (repeat (first | (with_reducible exact HP0.out) | (with_reducible exact HP1.out) | (with_reducible exact HP2.out) | (with_reducible exact HP3.out) | (with_reducible exact HP4.out) | (with_reducible exact HP5.out) | (with_reducible exact HP6.out) | (with_reducible exact HP7.out) | (with_reducible exact HP8.out) | (with_reducible exact HP9.out) | (with_reducible exact HP10.out) | (with_reducible exact HP11.out) | (with_reducible exact HQ0.out) | (with_reducible exact HQ1.out) | (with_reducible exact HQ2.out) | (with_reducible exact HQ3.out) | (with_reducible apply Box.new) | (with_reducible apply Box.newAt; simp; done) | (with_reducible apply Box.set) | (with_reducible apply Box.skip; omega) | (with_reducible apply Box.alloc) | (with_reducible apply Box.drew) | (with_reducible apply Box.row) | (with_reducible apply Box.skipRow; omega)))); intro hx1; (try simp only [List.setIfInBounds_toArray, List.set_cons_zero, List.set_cons_succ] at hx1); have k1_0 := hx1.cell 0 (by simp); have k1_1 := hx1.cell 1 (by simp); have k1_2 := hx1.cell 2 (by simp); have k1_3 := hx1.cell 3 (by simp); have fr1 := fun o => hx1.frozen o; (try simp only [List.getElem_toArray, List.getElem_cons_zero, List.getElem_cons_succ] at k1_0); (try simp only [List.getElem_toArray, List.getElem_cons_zero, List.getElem_cons_succ] at k1_1); (try simp only [List.getElem_toArray, List.getElem_cons_zero, List.getElem_cons_succ] at k1_2); (try simp only [List.getElem_toArray, List.getElem_cons_zero, List.getElem_cons_succ] at k1_3); (apply with_box hb6 (g := g8)); (focus (repeat (first | (with_reducible exact HP0.out) | (with_reducible exact HP1.out) | (with_reducible exact HP2.out) | (with_reducible exact HP3.out) | (with_reducible exact HP4.out) | (with_reducible exact HP5.out) | (with_reducible exact HP6.out) | (with_reducible exact HP7.out) | (with_reducible exact HP8.out) | (with_reducible exact HP9.out) | (with_reducible exact HP10.out) | (with_reducible exact HP11.out) | (with_reducible exact HQ0.out) | (with_reducible exact HQ1.out) | (with_reducible exact HQ2.out) | (with_reducible exact HQ3.out) | (with_reducible apply Box.new) | (with_reducible apply Box.newAt; simp; done) | (with_reducible apply Box.set) | (with_reducible apply Box.skip; omega) | (with_reducible apply Box.alloc) | (with_reducible apply Box.drew) | (with_reducible apply Box.row) | (with_reducible apply Box.skipRow; omega)))); intro hx2; (try simp only [List.setIfInBounds_toArray, List.set_cons_zero, List.set_cons_succ] at hx2); have k2_0 := hx2.cell 0 (by simp); have k2_1 := hx2.cell 1 (by simp); have k2_2 := hx2.cell 2 (by simp); have k2_3 := hx2.cell 3 (by simp); have fr2 := fun o => hx2.frozen o; (try simp only [List.getElem_toArray, List.getElem_cons_zero, List.getElem_cons_succ] at k2_0); (try simp only [List.getElem_toArray, List.getElem_cons_zero, List.getElem_cons_succ] at k2_1); (try simp only [List.getElem_toArray, List.getElem_cons_zero, List.getElem_cons_succ] at k2_2); (try simp only [List.getElem_toArray, List.getElem_cons_zero, List.getElem_cons_succ] at k2_3); skip; have HP0 := Lib.hid hx0; clear hx0; have HP1 := Lib.hid hx1; clear hx1; have HP2 := Lib.hid hx2; clear hx2; have HB6 := Lib.hid hb6; clear hb6) | ((with_reducible show wpList _ _ _ _ _ _); refine wpList_build0 rfl 30 rfl rfl ?_; intro a0_30 q0_30 w7 hq hb7; have HQ30 := Lib.hid hq; clear hq; have hz7 := hb7.size; (try simp at hz7); (have hl0 : w.heap.size < w7.heap.size := by omega); (have hl1 : w.heap.size + 1 < w7.heap.size := by omega); (have hl2 : g8 < w7.heap.size := by omega); (apply with_box hb7 (g := w.heap.size)); (focus (repeat (first | (with_reducible exact HP0.out) | (with_reducible exact HP1.out) | (with_reducible exact HP2.out) | (with_reducible exact HP3.out) | (with_reducible exact HP4.out) | (with_reducible exact HP5.out) | (with_reducible exact HP6.out) | (with_reducible exact HP7.out) | (with_reducible exact HP8.out) | (with_reducible exact HP9.out) | (with_reducible exact HP10.out) | (with_reducible exact HP11.out) | (with_reducible exact HQ0.out) | (with_reducible exact HQ1.out) | (with_reducible exact HQ2.out) | (with_reducible exact HQ3.out) | (with_reducible apply Box.new) | (with_reducible apply Box.newAt; simp; done) | (with_reducible apply Box.set) | (with_reducible apply Box.skip; omega) | (with_reducible apply Box.alloc) | (with_reducible apply Box.drew) | (with_reducible apply Box.row) | (with_reducible apply Box.skipRow; omega)))); intro hx0; (try simp only [List.setIfInBounds_toArray, List.set_cons_zero, List.set_cons_succ] at hx0); have k0_0 := hx0.cell 0 (by simp); have k0_1 := hx0.cell 1 (by simp); have k0_2 := hx0.cell 2 (by simp); have k0_3 := hx0.cell 3 (by simp); have fr0 := fun o => hx0.frozen o; (try simp only [List.getElem_toArray, List.getElem_cons_zero, List.getElem_cons_succ] at k0_0); (try simp only [List.getElem_toArray, List.getElem_cons_zero, List.getElem_cons_succ] at k0_1); (try simp only [List.getElem_toArray, List.getElem_cons_zero, List.getElem_cons_succ] at k0_2); (try simp only [List.getElem_toArray, List.getElem_cons_zero, List.getElem_cons_succ] at k0_3); (apply with_box hb7 (g := w.heap.size + 1)); (focus (repeat (first | (with_reducible exact HP0.out) | (with_reducible exact HP1.out) | (with_reducible exact HP2.out) | (with_reducible exact HP3.out) | (with_reducible exact HP4.out) | (with_reducible exact HP5.out) | (with_reducible exact HP6.out) | (with_reducible exact HP7.out) | (with_reducible exact HP8.out) | (with_reducible exact HP9.out) | (with_reducible exact HP10.out) | (with_reducible exact HP11.out) | (with_reducible exact HQ0.out) | (with_reducible exact HQ1.out) | (with_reducible exact HQ2.out) | (with_reducible exact HQ3.out) | (with_reducible apply Box.new) | (with_reducible apply Box.newAt; simp; done) | (with_reducible apply Box.set) | (with_reducible apply Box.skip; omega) | (with_reducible apply Box.alloc) | (with_reducible apply Box.drew) | (with_reducible apply Box.row) | (with_reducible apply Box.skipRow; omega)))); intro hx1; (try simp only [List.setIfInBounds_toArray, List.set_cons_zero, List.set_cons_succ] at hx1); have k1_0 := hx1.cell 0 (by simp); have k1_1 := hx1.cell 1 (by simp); have k1_2 := hx1.cell 2 (by simp); have k1_3 := hx1.cell 3 (by simp); have fr1 := fun o => hx1.frozen o; (try simp only [List.getElem_toArray, List.getElem_cons_zero, List.getElem_cons_succ] at k1_0); (try simp only [List.getElem_toArray, List.getElem_cons_zero, List.getElem_cons_succ] at k1_1); (try simp only [List.getElem_toArray, List.getElem_cons_zero, List.getElem_cons_succ] at k1_2); (try simp only [List.getElem_toArray, List.getElem_cons_zero, List.getElem_cons_succ] at k1_3); (apply with_box hb7 (g := g8)); (focus (repeat (first | (with_reducible exact HP0.out) | (with_reducible exact HP1.out) | (with_reducible exact HP2.out) | (with_reducible exact HP3.out) | (with_reducible exact HP4.out) | (with_reducible exact HP5.out) | (with_reducible exact HP6.out) | (with_reducible exact HP7.out) | (with_reducible exact HP8.out) | (with_reducible exact HP9.out) | (with_reducible exact HP10.out) | (with_reducible exact HP11.out) | (with_reducible exact HQ0.out) | (with_reducible exact HQ1.out) | (with_reducible exact HQ2.out) | (with_reducible exact HQ3.out) | (with_reducible apply Box.new) | (with_reducible apply Box.newAt; simp; done) | (with_reducible apply Box.set) | (with_reducible apply Box.skip; omega) | (with_reducible apply Box.alloc) | (with_reducible apply Box.drew) | (with_reducible apply Box.row) | (with_reducible apply Box.skipRow; omega)))); intro hx2; (try simp only [List.setIfInBounds_toArray, List.set_cons_zero, List.set_cons_succ] at hx2); have k2_0 := hx2.cell 0 (by simp); have k2_1 := hx2.cell 1 (by simp); have k2_2 := hx2.cell 2 (by simp); have k2_3 := hx2.cell 3 (by simp); have fr2 := fun o => hx2.frozen o; (try simp only [List.getElem_toArray, List.getElem_cons_zero, List.getElem_cons_succ] at k2_0); (try simp only [List.getElem_toArray, List.getElem_cons_zero, List.getElem_cons_succ] at k2_1); (try simp only [List.getElem_toArray, List.getElem_cons_zero, List.getElem_cons_succ] at k2_2); (try simp only [List.getElem_toArray, List.getElem_cons_zero, List.getElem_cons_succ] at k2_3); skip; have HP0 := Lib.hid hx0; clear hx0; have HP1 := Lib.hid hx1; clear hx1; have HP2 := Lib.hid hx2; clear hx2; have HB7 := Lib.hid hb7; clear hb7) | ((with_reducible show wpList _ _ _ _ _ _); refine wpList_append_e rfl (.tmp 30) (.tmp 34) rfl (B := w7.heap.size) elem_int el_int (xs := ([] : List Int)) rfl (Ownd.nilq _ _ _ _ _ _ HQ30.out) (a := a') (g := g) (o := j) (c - j) (ys := e.xFree.drop j) (by rw [HL2.out]; simp [go_sem, Act.eval]) (by have h := HV2.out.later (W' := w7) (by repeat (first | with_reducible exact Below.refl _ _ | with_reducible exact below_new _ | with_reducible exact below_drew | with_reducible exact HB9.out | with_reducible exact HB8.out | with_reducible exact HB7.out | with_reducible exact HB6.out | with_reducible exact HB5.out | with_reducible exact HB4.out | with_reducible exact HB3.out | with_reducible exact HB2.out | with_reducible exact HB1.out | ((with_reducible refine Below.setCell ?_ ?_ _); rotate_left; first | omega | (dsimp only; omega) | (simp; done) | (simp; omega)) | ((with_reducible refine below_setRow ?_ ?_ _); rotate_left; first | omega | (dsimp only; omega) | (simp; done) | (simp; omega)) | (with_reducible apply below_comp; rotate_left; first | with_reducible exact HB9.out | with_reducible exact HB8.out | with_reducible exact HB7.out | with_reducible exact HB6.out | with_reducible exact HB5.out | with_reducible exact HB4.out | with_reducible exact HB3.out | with_reducible exact HB2.out | with_reducible exact HB1.out | with_reducible assumption | with_reducible exact below_new _ | with_reducible exact below_drew))); rwa [← List.map_drop] at h) (by simp only [List.length_nil, HL2.out]; omega) (Nat.le_refl _) ?_; intro v8 w8 ho ht; have hb8 : Below w7.heap.size w7 w8 := below_touch (Below.refl _ _) ht (fun k hk => hk.1); rw [List.nil_append] at ho; obtain ⟨a8, c8, hf8⟩ := ho.form; rw [List.length_map, HL2.out] at hf8; subst hf8; have HO8 := Lib.hid ho; clear ho ht; have hz8 := hb8.size; (try simp at hz8); (have hl0 : w.heap.size < w8.heap.size := by omega); (have hl1 : w.heap.size + 1 < w8.heap.size := by omega); (have hl2 : g8 < w8.heap.size := by omega); (apply with_box hb8 (g := w.heap.size)); (focus (repeat (first | (with_reducible exact HP0.out) | (with_reducible exact HP1.out) | (with_reducible exact HP2.out) | (with_reducible exact HP3.out) | (with_reducible exact HP4.out) | (with_reducible exact HP5.out) | (with_reducible exact HP6.out) | (with_reducible exact HP7.out) | (with_reducible exact HP8.out) | (with_reducible exact HP9.out) | (with_reducible exact HP10.out) | (with_reducible exact HP11.out) | (with_reducible exact HQ0.out) | (with_reducible exact HQ1.out) | (with_reducible exact HQ2.out) | (with_reducible exact HQ3.out) | (with_reducible apply Box.new) | (with_reducible apply Box.newAt; simp; done) | (with_reducible apply Box.set) | (with_reducible apply Box.skip; omega) | (with_reducible apply Box.alloc) | (with_reducible apply Box.drew) | (with_reducible apply Box.row) | (with_reducible apply Box.skipRow; omega)))); intro hx0; (try simp only [List.setIfInBounds_toArray, List.set_cons_zero, List.set_cons_succ] at hx0); have k0_0 := hx0.cell 0 (by simp); have k0_1 := hx0.cell 1 (by simp); have k0_2 := hx0.cell 2 (by simp); have k0_3 := hx0.cell 3 (by simp); have fr0 := fun o => hx0.frozen o; (try simp only [List.getElem_toArray, List.getElem_cons_zero, List.getElem_cons_succ] at k0_0); (try simp only [List.getElem_toArray, List.getElem_cons_zero, List.getElem_cons_succ] at k0_1); (try simp only [List.getElem_toArray, List.getElem_cons_zero, List.getElem_cons_succ] at k0_2); (try simp only [List.getElem_toArray, List.getElem_cons_zero, List.getElem_cons_succ] at k0_3); (apply with_box hb8 (g := w.heap.size + 1)); (focus (repeat (first | (with_reducible exact HP0.out) | (with_reducible exact HP1.out) | (with_reducible exact HP2.out) | (with_reducible exact HP3.out) | (with_reducible exact HP4.out) | (with_reducible exact HP5.out) | (with_reducible exact HP6.out) | (with_reducible exact HP7.out) | (with_reducible exact HP8.out) | (with_reducible exact HP9.out) | (with_reducible exact HP10.out) | (with_reducible exact HP11.out) | (with_reducible exact HQ0.out) | (with_reducible exact HQ1.out) | (with_reducible exact HQ2.out) | (with_reducible exact HQ3.out) | (with_reducible apply Box.new) | (with_reducible apply Box.newAt; simp; done) | (with_reducible apply Box.set) | (with_reducible apply Box.skip; omega) | (with_reducible apply Box.alloc) | (with_reducible apply Box.drew) | (with_reducible apply Box.row) | (with_reducible apply Box.skipRow; omega)))); intro hx1; (try simp only [List.setIfInBounds_toArray, List.set_cons_zero, List.set_cons_succ] at hx1); have k1_0 := hx1.cell 0 (by simp); have k1_1 := hx1.cell 1 (by simp); have k1_2 := hx1.cell 2 (by simp); have k1_3 := hx1.cell 3 (by simp); have fr1 := fun o => hx1.frozen o; (try simp only [List.getElem_toArray, List.getElem_cons_zero, List.getElem_cons_succ] at k1_0); (try simp only [List.getElem_toArray, List.getElem_cons_zero, List.getElem_cons_succ] at k1_1); (try simp only [List.getElem_toArray, List.getElem_cons_zero, List.getElem_cons_succ] at k1_2); (try simp only [List.getElem_toArray, List.getElem_cons_zero, List.getElem_cons_succ] at k1_3); (apply with_box hb8 (g := g8)); (focus (repeat (first | (with_reducible exact HP0.out) | (with_reducible exact HP1.out) | (with_reducible exact HP2.out) | (with_reducible exact HP3.out) | (with_reducible exact HP4.out) | (with_reducible exact HP5.out) | (with_reducible exact HP6.out) | (with_reducible exact HP7.out) | (with_reducible exact HP8.out) | (with_reducible exact HP9.out) | (with_reducible exact HP10.out) | (with_reducible exact HP11.out) | (with_reducible exact HQ0.out) | (with_reducible exact HQ1.out) | (with_reducible exact HQ2.out) | (with_reducible exact HQ3.out) | (with_reducible apply Box.new) | (with_reducible apply Box.newAt; simp; done) | (with_reducible apply Box.set) | (with_reducible apply Box.skip; omega) | (with_reducible apply Box.alloc) | (with_reducible apply Box.drew) | (with_reducible apply Box.row) | (with_reducible apply Box.skipRow; omega)))); intro hx2; (try simp only [List.setIfInBounds_toArray, List.set_cons_zero, List.set_cons_succ] at hx2); have k2_0 := hx2.cell 0 (by simp); have k2_1 := hx2.cell 1 (by simp); have k2_2 := hx2.cell 2 (by simp); have k2_3 := hx2.cell 3 (by simp); have fr2 := fun o => hx2.frozen o; (try simp only [List.getElem_toArray, List.getElem_cons_zero, List.getElem_cons_succ] at k2_0); (try simp only [List.getElem_toArray, List.getElem_cons_zero, List.getElem_cons_succ] at k2_1); (try simp only [List.getElem_toArray, List.getElem_cons_zero, List.getElem_cons_succ] at k2_2); (try simp only [List.getElem_toArray, List.getElem_cons_zero, List.getElem_cons_succ] at k2_3); skip; have HP0 := Lib.hid hx0; clear hx0; have HP1 := Lib.hid hx1; clear hx1; have HP2 := Lib.hid hx2; clear hx2; have HB8 := Lib.hid hb8; clear hb8))
    obtain ⟨T1, hT1⟩ : ∃ T, T = Rng w5.heap.size w6.heap.size := ⟨_, rfl⟩
    obtain ⟨T0, hT0⟩ : ∃ T, T = Rng w7.heap.size w8.heap.size := ⟨_, rfl⟩
    have HT1 : Hid (∀ k, T1 k → w5.heap.size ≤ k ∧ k < w6.heap.size) := Lib.hid fun k hk => by rw [hT1] at hk; exact hk
    have HT0 : Hid (∀ k, T0 k → w7.heap.size ≤ k ∧ k < w8.heap.size) := Lib.hid fun k hk => by rw [hT0] at hk; exact hk
    have HR1 := Lib.hid (((HO6.out.row (el_int.sizes _)).later HB7.out).later HB8.out)
    have HR0 := Lib.hid (HO8.out.row (el_int.sizes _))
    rw [← hT1] at HR1
    rw [← hT0] at HR0
    clear hT1 hT0
    apply bodyPost_row_tmp2 (g := w.heap.size + 1) rfl rfl rfl rfl Try.underlying52 rfl
    focus (repeat (first | (with_reducible exact HP0.out) | (with_reducible exact HP1.out) | (with_reducible exact HP2.out) | (with_reducible exact HP3.out) | (with_reducible exact HQ0.out) | (with_reducible exact HQ1.out) | (with_reducible exact HQ2.out) | (with_reducible exact HQ3.out) | (with_reducible apply Box.new) | (with_reducible apply Box.newAt; simp; done) | (with_reducible apply Box.set) | (with_reducible apply Box.skip; omega) | (with_reducible apply Box.alloc) | (with_reducible apply Box.drew) | (with_reducible apply Box.row) | (with_reducible apply Box.skipRow; omega)))
    focus (kernel_rfl)
    focus (rfl)
    try simp only [List.setIfInBounds_toArray, List.set_cons_zero, List.set_cons_succ]
    refine ⟨_, _, T0, T1, rfl, ⟨T0, _, rfl, ?_, fun k hk => hk⟩, ?_, fun k hk => ?_, fun k hk => ?_, fun k h1 h2 => ?_, ?_⟩
    · repeat (with_reducible refine Row.set ?_ (fun h => by have := HT0.out _ h; have q1 := HB1.out.size; have q9 := HB9.out.size; have q4 := HB4.out.size; have q5 := HB5.out.size; have q6 := HB6.out.size; have q7 := HB7.out.size; have q8 := HB8.out.size; omega))
      exact HR0.out
    · repeat (with_reducible refine Row.set ?_ (fun h => by have := HT1.out _ h; have q1 := HB1.out.size; have q9 := HB9.out.size; have q4 := HB4.out.size; have q5 := HB5.out.size; have q6 := HB6.out.size; have q7 := HB7.out.size; have q8 := HB8.out.size; omega))
      exact HR1.out
    · have := HT0.out k hk; have q1 := HB1.out.size; have q9 := HB9.out.size; have q4 := HB4.out.size; have q5 := HB5.out.size; have q6 := HB6.out.size; have q7 := HB7.out.size; have q8 := HB8.out.size; simp; omega
    · have := HT1.out k hk; have q1 := HB1.out.size; have q9 := HB9.out.size; have q4 := HB4.out.size; have q5 := HB5.out.size; have q6 := HB6.out.size; have q7 := HB7.out.size; have q8 := HB8.out.size; simp; omega
    · have := HT0.out k h1; have := HT1.out k h2; omega
    · repeat (first | with_reducible exact Below.refl _ _ | with_reducible exact below_new _ | with_reducible exact below_drew | with_reducible exact HB9.out | with_reducible exact HB8.out | with_reducible exact HB7.out | with_reducible exact HB6.out | with_reducible exact HB5.out | with_reducible exact HB4.out | with_reducible exact HB3.out | with_reducible exact HB2.out | with_reducible exact HB1.out | ((with_reducible refine Below.setCell ?_ ?_ _); rotate_left; first | omega | (dsimp only; omega) | (simp; done) | (simp; omega)) | ((with_reducible refine below_setRow ?_ ?_ _); rotate_left; first | omega | (dsimp only; omega) | (simp; done) | (simp; omega)) | (with_reducible apply below_comp; rotate_left; first | with_reducible exact HB9.out | with_reducible exact HB8.out | with_reducible exact HB7.out | with_reducible exact HB6.out | with_reducible exact HB5.out | with_reducible exact HB4.out | with_reducible exact HB3.out | with_reducible exact HB2.out | with_reducible exact HB1.out | with_reducible assumption | with_reducible exact below_new _ | with_reducible exact below_drew))

end Go.Proofs.Ytogiocinhjbdkaa
