/- RuleMatches of both sides. -/
import Derived.Test.YtogiocinhjbdkaaMatchL
import Derived.Test.YtogiocinhjbdkaaBoxes
namespace Go.Proofs.Ytogiocinhjbdkaa
open Go.RowKit
set_option linter.unusedSimpArgs false
set_option linter.unusedVariables false

set_option maxHeartbeats 4000000 in
set_option maxRecDepth 100000 in
theorem spec_matches (r : RuleM) (p : PktM) (w : World) :
    Calls Try.prog 96 #[r.val, p.val] w fun e w' => e = .returned (.bool (r.Matches p)) ∧ Below w.heap.size w w' := by
  have HR := Lib.hid fun W => spec_ruleok r W
  have HP := Lib.hid fun W => spec_superok p W
  have HM := Lib.hid fun W (h : 0 ≤ r.xSrcBits ∧ r.xSrcBits ≤ 32) => spec_l14 r p W h
  have HX := Lib.hid fun (h : decide r.Ok = true) => (of_decide_eq_true h : r.Ok).2.2.2.1
  unfold RuleM.Matches
  generalize (same r.xSrcIp p.sip r.xSrcBits && inB r.xFirstPort p.seg.dport r.xLastPort && decide (r.Fits p.seg.kind p.vlan)) = B2 at HM ⊢
  generalize decide r.Ok = B0 at HR HX ⊢
  generalize decide p.SuperOk = B1 at HP ⊢
  obtain ⟨xPriorityA, xKindA, xSrcIpA, xSrcBitsA, xFirstPortA, xLastPortA, xVlanA, xActionA, xQueueA⟩ := r
  obtain ⟨y0, y1, y2, y3, y4, y5, y6, y7, ⟨y8, y9, y10, y11, y12, y13, y14, y15⟩⟩ := p
  unfold RuleM.val PktM.val at *
  dsimp only at *
  cases B0
  · go_enter Try.func96, Try.ntmps96
    go_wp2_with (go_at_call 89; refine (HR.out _).mono ?_; rintro e w1 ⟨rfl, hb1⟩; have hz1 := hb1.size; (try simp at hz1); (have hl0 : w.heap.size < w1.heap.size := by omega); (have hl1 : w.heap.size + 1 < w1.heap.size := by omega); (apply with_box hb1 (g := w.heap.size)); (focus (repeat (first | (with_reducible exact HP0.out) | (with_reducible exact HP1.out) | (with_reducible exact HP2.out) | (with_reducible exact HP3.out) | (with_reducible exact HP4.out) | (with_reducible exact HP5.out) | (with_reducible exact HP6.out) | (with_reducible exact HP7.out) | (with_reducible exact HP8.out) | (with_reducible exact HP9.out) | (with_reducible exact HP10.out) | (with_reducible exact HP11.out) | (with_reducible exact HQ0.out) | (with_reducible exact HQ1.out) | (with_reducible exact HQ2.out) | (with_reducible exact HQ3.out) | (with_reducible apply Box.new) | (with_reducible apply Box.newAt; simp; done) | (with_reducible apply Box.set) | (with_reducible apply Box.skip; omega) | (with_reducible apply Box.alloc) | (with_reducible apply Box.drew) | (with_reducible apply Box.row) | (with_reducible apply Box.skipRow; omega)))); intro hx0; (try simp only [List.setIfInBounds_toArray, List.set_cons_zero, List.set_cons_succ] at hx0); have k0_0 := hx0.cell 0 (by simp); have k0_1 := hx0.cell 1 (by simp); have k0_2 := hx0.cell 2 (by simp); have k0_3 := hx0.cell 3 (by simp); have k0_4 := hx0.cell 4 (by simp); have k0_5 := hx0.cell 5 (by simp); have k0_6 := hx0.cell 6 (by simp); have k0_7 := hx0.cell 7 (by simp); have k0_8 := hx0.cell 8 (by simp); have fr0 := fun o => hx0.frozen o; (try simp only [List.getElem_toArray, List.getElem_cons_zero, List.getElem_cons_succ] at k0_0); (try simp only [List.getElem_toArray, List.getElem_cons_zero, List.getElem_cons_succ] at k0_1); (try simp only [List.getElem_toArray, List.getElem_cons_zero, List.getElem_cons_succ] at k0_2); (try simp only [List.getElem_toArray, List.getElem_cons_zero, List.getElem_cons_succ] at k0_3); (try simp only [List.getElem_toArray, List.getElem_cons_zero, List.getElem_cons_succ] at k0_4); (try simp only [List.getElem_toArray, List.getElem_cons_zero, List.getElem_cons_succ] at k0_5); (try simp only [List.getElem_toArray, List.getElem_cons_zero, List.getElem_cons_succ] at k0_6); (try simp only [List.getElem_toArray, List.getElem_cons_zero, List.getElem_cons_succ] at k0_7); (try simp only [List.getElem_toArray, List.getElem_cons_zero, List.getElem_cons_succ] at k0_8); (apply with_box hb1 (g := w.heap.size + 1)); (focus (repeat (first | (with_reducible exact HP0.out) | (with_reducible exact HP1.out) | (with_reducible exact HP2.out) | (with_reducible exact HP3.out) | (with_reducible exact HP4.out) | (with_reducible exact HP5.out) | (with_reducible exact HP6.out) | (with_reducible exact HP7.out) | (with_reducible exact HP8.out) | (with_reducible exact HP9.out) | (with_reducible exact HP10.out) | (with_reducible exact HP11.out) | (with_reducible exact HQ0.out) | (with_reducible exact HQ1.out) | (with_reducible exact HQ2.out) | (with_reducible exact HQ3.out) | (with_reducible apply Box.new) | (with_reducible apply Box.newAt; simp; done) | (with_reducible apply Box.set) | (with_reducible apply Box.skip; omega) | (with_reducible apply Box.alloc) | (with_reducible apply Box.drew) | (with_reducible apply Box.row) | (with_reducible apply Box.skipRow; omega)))); intro hx1; (try simp only [List.setIfInBounds_toArray, List.set_cons_zero, List.set_cons_succ] at hx1); have k1_0 := hx1.cell 0 (by simp); have k1_1 := hx1.cell 1 (by simp); have k1_2 := hx1.cell 2 (by simp); have k1_3 := hx1.cell 3 (by simp); have k1_4 := hx1.cell 4 (by simp); have k1_5 := hx1.cell 5 (by simp); have k1_6 := hx1.cell 6 (by simp); have k1_7 := hx1.cell 7 (by simp); have k1_8 := hx1.cell 8 (by simp); have k1_9 := hx1.cell 9 (by simp); have k1_10 := hx1.cell 10 (by simp); have k1_11 := hx1.cell 11 (by simp); have k1_12 := hx1.cell 12 (by simp); have k1_13 := hx1.cell 13 (by simp); have k1_14 := hx1.cell 14 (by simp); have k1_15 := hx1.cell 15 (by simp); have fr1 := fun o => hx1.frozen o; (try simp only [List.getElem_toArray, List.getElem_cons_zero, List.getElem_cons_succ] at k1_0); (try simp only [List.getElem_toArray, List.getElem_cons_zero, List.getElem_cons_succ] at k1_1); (try simp only [List.getElem_toArray, List.getElem_cons_zero, List.getElem_cons_succ] at k1_2); (try simp only [List.getElem_toArray, List.getElem_cons_zero, List.getElem_cons_succ] at k1_3); (try simp only [List.getElem_toArray, List.getElem_cons_zero, List.getElem_cons_succ] at k1_4); (try simp only [List.getElem_toArray, List.getElem_cons_zero, List.getElem_cons_succ] at k1_5); (try simp only [List.getElem_toArray, List.getElem_cons_zero, List.getElem_cons_succ] at k1_6); (try simp only [List.getElem_toArray, List.getElem_cons_zero, List.getElem_cons_succ] at k1_7); (try simp only [List.getElem_toArray, List.getElem_cons_zero, List.getElem_cons_succ] at k1_8); (try simp only [List.getElem_toArray, List.getElem_cons_zero, List.getElem_cons_succ] at k1_9); (try simp only [List.getElem_toArray, List.getElem_cons_zero, List.getElem_cons_succ] at k1_10); (try simp only [List.getElem_toArray, List.getElem_cons_zero, List.getElem_cons_succ] at k1_11); (try simp only [List.getElem_toArray, List.getElem_cons_zero, List.getElem_cons_succ] at k1_12); (try simp only [List.getElem_toArray, List.getElem_cons_zero, List.getElem_cons_succ] at k1_13); (try simp only [List.getElem_toArray, List.getElem_cons_zero, List.getElem_cons_succ] at k1_14); (try simp only [List.getElem_toArray, List.getElem_cons_zero, List.getElem_cons_succ] at k1_15); skip; have HP0 := Lib.hid hx0; clear hx0; have HP1 := Lib.hid hx1; clear hx1; have HB1 := Lib.hid hb1; clear hb1)
    go_ret
    exact ⟨rfl, by repeat (first | ((with_reducible refine Below.setCell ?_ ?_ _); rotate_left; first | omega | (dsimp only; omega) | (simp; done) | (simp; omega)) | ((with_reducible refine below_setRow ?_ ?_ _); rotate_left; first | omega | (dsimp only; omega) | (simp; done) | (simp; omega)) | with_reducible exact Below.refl _ _ | with_reducible exact below_new _ | with_reducible exact below_drew | with_reducible exact HB9.out | with_reducible exact HB8.out | with_reducible exact HB7.out | with_reducible exact HB6.out | with_reducible exact HB5.out | with_reducible exact HB4.out | with_reducible exact HB3.out | with_reducible exact HB2.out | with_reducible exact HB1.out | (with_reducible apply below_comp; rotate_left; first | with_reducible exact HB9.out | with_reducible exact HB8.out | with_reducible exact HB7.out | with_reducible exact HB6.out | with_reducible exact HB5.out | with_reducible exact HB4.out | with_reducible exact HB3.out | with_reducible exact HB2.out | with_reducible exact HB1.out | with_reducible assumption | with_reducible exact below_new _ | with_reducible exact below_drew))⟩
  have hb := HX.out rfl
  have HM2 := Lib.hid fun W => HM.out W hb
  clear hb HX HM
  cases B1
  · go_enter Try.func96, Try.ntmps96
    go_wp2_with (first | (go_at_call 89; refine (HR.out _).mono ?_; rintro e w1 ⟨rfl, hb1⟩; have hz1 := hb1.size; (try simp at hz1); (have hl0 : w.heap.size < w1.heap.size := by omega); (have hl1 : w.heap.size + 1 < w1.heap.size := by omega); (apply with_box hb1 (g := w.heap.size)); (focus (repeat (first | (with_reducible exact HP0.out) | (with_reducible exact HP1.out) | (with_reducible exact HP2.out) | (with_reducible exact HP3.out) | (with_reducible exact HP4.out) | (with_reducible exact HP5.out) | (with_reducible exact HP6.out) | (with_reducible exact HP7.out) | (with_reducible exact HP8.out) | (with_reducible exact HP9.out) | (with_reducible exact HP10.out) | (with_reducible exact HP11.out) | (with_reducible exact HQ0.out) | (with_reducible exact HQ1.out) | (with_reducible exact HQ2.out) | (with_reducible exact HQ3.out) | (with_reducible apply Box.new) | (with_reducible apply Box.newAt; simp; done) | (with_reducible apply Box.set) | (with_reducible apply Box.skip; omega) | (with_reducible apply Box.alloc) | (with_reducible apply Box.drew) | (with_reducible apply Box.row) | (with_reducible apply Box.skipRow; omega)))); intro hx0; (try simp only [List.setIfInBounds_toArray, List.set_cons_zero, List.set_cons_succ] at hx0); have k0_0 := hx0.cell 0 (by simp); have k0_1 := hx0.cell 1 (by simp); have k0_2 := hx0.cell 2 (by simp); have k0_3 := hx0.cell 3 (by simp); have k0_4 := hx0.cell 4 (by simp); have k0_5 := hx0.cell 5 (by simp); have k0_6 := hx0.cell 6 (by simp); have k0_7 := hx0.cell 7 (by simp); have k0_8 := hx0.cell 8 (by simp); have fr0 := fun o => hx0.frozen o; (try simp only [List.getElem_toArray, List.getElem_cons_zero, List.getElem_cons_succ] at k0_0); (try simp only [List.getElem_toArray, List.getElem_cons_zero, List.getElem_cons_succ] at k0_1); (try simp only [List.getElem_toArray, List.getElem_cons_zero, List.getElem_cons_succ] at k0_2); (try simp only [List.getElem_toArray, List.getElem_cons_zero, List.getElem_cons_succ] at k0_3); (try simp only [List.getElem_toArray, List.getElem_cons_zero, List.getElem_cons_succ] at k0_4); (try simp only [List.getElem_toArray, List.getElem_cons_zero, List.getElem_cons_succ] at k0_5); (try simp only [List.getElem_toArray, List.getElem_cons_zero, List.getElem_cons_succ] at k0_6); (try simp only [List.getElem_toArray, List.getElem_cons_zero, List.getElem_cons_succ] at k0_7); (try simp only [List.getElem_toArray, List.getElem_cons_zero, List.getElem_cons_succ] at k0_8); (apply with_box hb1 (g := w.heap.size + 1)); (focus (repeat (first | (with_reducible exact HP0.out) | (with_reducible exact HP1.out) | (with_reducible exact HP2.out) | (with_reducible exact HP3.out) | (with_reducible exact HP4.out) | (with_reducible exact HP5.out) | (with_reducible exact HP6.out) | (with_reducible exact HP7.out) | (with_reducible exact HP8.out) | (with_reducible exact HP9.out) | (with_reducible exact HP10.out) | (with_reducible exact HP11.out) | (with_reducible exact HQ0.out) | (with_reducible exact HQ1.out) | (with_reducible exact HQ2.out) | (with_reducible exact HQ3.out) | (with_reducible apply Box.new) | (with_reducible apply Box.newAt; simp; done) | (with_reducible apply Box.set) | (with_reducible apply Box.skip; omega) | (with_reducible apply Box.alloc) | (with_reducible apply Box.drew) | (with_reducible apply Box.row) | (with_reducible apply Box.skipRow; omega)))); intro hx1; (try simp only [List.setIfInBounds_toArray, List.set_cons_zero, List.set_cons_succ] at hx1); have k1_0 := hx1.cell 0 (by simp); have k1_1 := hx1.cell 1 (by simp); have k1_2 := hx1.cell 2 (by simp); have k1_3 := hx1.cell 3 (by simp); have k1_4 := hx1.cell 4 (by simp); have k1_5 := hx1.cell 5 (by simp); have k1_6 := hx1.cell 6 (by simp); have k1_7 := hx1.cell 7 (by simp); have k1_8 := hx1.cell 8 (by simp); have k1_9 := hx1.cell 9 (by simp); have k1_10 := hx1.cell 10 (by simp); have k1_11 := hx1.cell 11 (by simp); have k1_12 := hx1.cell 12 (by simp); have k1_13 := hx1.cell 13 (by simp); have k1_14 := hx1.cell 14 (by simp); have k1_15 := hx1.cell 15 (by simp); have fr1 := fun o => hx1.frozen o; (try simp only [List.getElem_toArray, List.getElem_cons_zero, List.getElem_cons_succ] at k1_0); (try simp only [List.getElem_toArray, List.getElem_cons_zero, List.getElem_cons_succ] at k1_1); (try simp only [List.getElem_toArray, List.getElem_cons_zero, List.getElem_cons_succ] at k1_2); (try simp only [List.getElem_toArray, List.getElem_cons_zero, List.getElem_cons_succ] at k1_3); (try simp only [List.getElem_toArray, List.getElem_cons_zero, List.getElem_cons_succ] at k1_4); (try simp only [List.getElem_toArray, List.getElem_cons_zero, List.getElem_cons_succ] at k1_5); (try simp only [List.getElem_toArray, List.getElem_cons_zero, List.getElem_cons_succ] at k1_6); (try simp only [List.getElem_toArray, List.getElem_cons_zero, List.getElem_cons_succ] at k1_7); (try simp only [List.getElem_toArray, List.getElem_cons_zero, List.getElem_cons_succ] at k1_8); (try simp only [List.getElem_toArray, List.getElem_cons_zero, List.getElem_cons_succ] at k1_9); (try simp only [List.getElem_toArray, List.getElem_cons_zero, List.getElem_cons_succ] at k1_10); (try simp only [List.getElem_toArray, List.getElem_cons_zero, List.getElem_cons_succ] at k1_11); (try simp only [List.getElem_toArray, List.getElem_cons_zero, List.getElem_cons_succ] at k1_12); (try simp only [List.getElem_toArray, List.getElem_cons_zero, List.getElem_cons_succ] at k1_13); (try simp only [List.getElem_toArray, List.getElem_cons_zero, List.getElem_cons_succ] at k1_14); (try simp only [List.getElem_toArray, List.getElem_cons_zero, List.getElem_cons_succ] at k1_15); skip; have HP0 := Lib.hid hx0; clear hx0; have HP1 := Lib.hid hx1; clear hx1; have HB1 := Lib.hid hb1; clear hb1) | (go_at_call 143; refine (HP.out _).mono ?_; rintro e w2 ⟨rfl, hb2⟩; have hz2 := hb2.size; (try simp at hz2); (have hl0 : w.heap.size < w2.heap.size := by omega); (have hl1 : w.heap.size + 1 < w2.heap.size := by omega); (apply with_box hb2 (g := w.heap.size)); (focus (repeat (first | (with_reducible exact HP0.out) | (with_reducible exact HP1.out) | (with_reducible exact HP2.out) | (with_reducible exact HP3.out) | (with_reducible exact HP4.out) | (with_reducible exact HP5.out) | (with_reducible exact HP6.out) | (with_reducible exact HP7.out) | (with_reducible exact HP8.out) | (with_reducible exact HP9.out) | (with_reducible exact HP10.out) | (with_reducible exact HP11.out) | (with_reducible exact HQ0.out) | (with_reducible exact HQ1.out) | (with_reducible exact HQ2.out) | (with_reducible exact HQ3.out) | (with_reducible apply Box.new) | (with_reducible apply Box.newAt; simp; done) | (with_reducible apply Box.set) | (with_reducible apply Box.skip; omega) | (with_reducible apply Box.alloc) | (with_reducible apply Box.drew) | (with_reducible apply Box.row) | (with_reducible apply Box.skipRow; omega)))); intro hx0; (try simp only [List.setIfInBounds_toArray, List.set_cons_zero, List.set_cons_succ] at hx0); have k0_0 := hx0.cell 0 (by simp); have k0_1 := hx0.cell 1 (by simp); have k0_2 := hx0.cell 2 (by simp); have k0_3 := hx0.cell 3 (by simp); have k0_4 := hx0.cell 4 (by simp); have k0_5 := hx0.cell 5 (by simp); have k0_6 := hx0.cell 6 (by simp); have k0_7 := hx0.cell 7 (by simp); have k0_8 := hx0.cell 8 (by simp); have fr0 := fun o => hx0.frozen o; (try simp only [List.getElem_toArray, List.getElem_cons_zero, List.getElem_cons_succ] at k0_0); (try simp only [List.getElem_toArray, List.getElem_cons_zero, List.getElem_cons_succ] at k0_1); (try simp only [List.getElem_toArray, List.getElem_cons_zero, List.getElem_cons_succ] at k0_2); (try simp only [List.getElem_toArray, List.getElem_cons_zero, List.getElem_cons_succ] at k0_3); (try simp only [List.getElem_toArray, List.getElem_cons_zero, List.getElem_cons_succ] at k0_4); (try simp only [List.getElem_toArray, List.getElem_cons_zero, List.getElem_cons_succ] at k0_5); (try simp only [List.getElem_toArray, List.getElem_cons_zero, List.getElem_cons_succ] at k0_6); (try simp only [List.getElem_toArray, List.getElem_cons_zero, List.getElem_cons_succ] at k0_7); (try simp only [List.getElem_toArray, List.getElem_cons_zero, List.getElem_cons_succ] at k0_8); (apply with_box hb2 (g := w.heap.size + 1)); (focus (repeat (first | (with_reducible exact HP0.out) | (with_reducible exact HP1.out) | (with_reducible exact HP2.out) | (with_reducible exact HP3.out) | (with_reducible exact HP4.out) | (with_reducible exact HP5.out) | (with_reducible exact HP6.out) | (with_reducible exact HP7.out) | (with_reducible exact HP8.out) | (with_reducible exact HP9.out) | (with_reducible exact HP10.out) | (with_reducible exact HP11.out) | (with_reducible exact HQ0.out) | (with_reducible exact HQ1.out) | (with_reducible exact HQ2.out) | (with_reducible exact HQ3.out) | (with_reducible apply Box.new) | (with_reducible apply Box.newAt; simp; done) | (with_reducible apply Box.set) | (with_reducible apply Box.skip; omega) | (with_reducible apply Box.alloc) | (with_reducible apply Box.drew) | (with_reducible apply Box.row) | (with_reducible apply Box.skipRow; omega)))); intro hx1; (try simp only [List.setIfInBounds_toArray, List.set_cons_zero, List.set_cons_succ] at hx1); have k1_0 := hx1.cell 0 (by simp); have k1_1 := hx1.cell 1 (by simp); have k1_2 := hx1.cell 2 (by simp); have k1_3 := hx1.cell 3 (by simp); have k1_4 := hx1.cell 4 (by simp); have k1_5 := hx1.cell 5 (by simp); have k1_6 := hx1.cell 6 (by simp); have k1_7 := hx1.cell 7 (by simp); have k1_8 := hx1.cell 8 (by simp); have k1_9 := hx1.cell 9 (by simp); have k1_10 := hx1.cell 10 (by simp); have k1_11 := hx1.cell 11 (by simp); have k1_12 := hx1.cell 12 (by simp); have k1_13 := hx1.cell 13 (by simp); have k1_14 := hx1.cell 14 (by simp); have k1_15 := hx1.cell 15 (by simp); have fr1 := fun o => hx1.frozen o; (try simp only [List.getElem_toArray, List.getElem_cons_zero, List.getElem_cons_succ] at k1_0); (try simp only [List.getElem_toArray, List.getElem_cons_zero, List.getElem_cons_succ] at k1_1); (try simp only [List.getElem_toArray, List.getElem_cons_zero, List.getElem_cons_succ] at k1_2); (try simp only [List.getElem_toArray, List.getElem_cons_zero, List.getElem_cons_succ] at k1_3); (try simp only [List.getElem_toArray, List.getElem_cons_zero, List.getElem_cons_succ] at k1_4); (try simp only [List.getElem_toArray, List.getElem_cons_zero, List.getElem_cons_succ] at k1_5); (try simp only [List.getElem_toArray, List.getElem_cons_zero, List.getElem_cons_succ] at k1_6); (try simp only [List.getElem_toArray, List.getElem_cons_zero, List.getElem_cons_succ] at k1_7); (try simp only [List.getElem_toArray, List.getElem_cons_zero, List.getElem_cons_succ] at k1_8); (try simp only [List.getElem_toArray, List.getElem_cons_zero, List.getElem_cons_succ] at k1_9); (try simp only [List.getElem_toArray, List.getElem_cons_zero, List.getElem_cons_succ] at k1_10); (try simp only [List.getElem_toArray, List.getElem_cons_zero, List.getElem_cons_succ] at k1_11); (try simp only [List.getElem_toArray, List.getElem_cons_zero, List.getElem_cons_succ] at k1_12); (try simp only [List.getElem_toArray, List.getElem_cons_zero, List.getElem_cons_succ] at k1_13); (try simp only [List.getElem_toArray, List.getElem_cons_zero, List.getElem_cons_succ] at k1_14); (try simp only [List.getElem_toArray, List.getElem_cons_zero, List.getElem_cons_succ] at k1_15); skip; have HP0 := Lib.hid hx0; clear hx0; have HP1 := Lib.hid hx1; clear hx1; have HB2 := Lib.hid hb2; clear hb2))
    go_ret
    exact ⟨rfl, by repeat (first | ((with_reducible refine Below.setCell ?_ ?_ _); rotate_left; first | omega | (dsimp only; omega) | (simp; done) | (simp; omega)) | ((with_reducible refine below_setRow ?_ ?_ _); rotate_left; first | omega | (dsimp only; omega) | (simp; done) | (simp; omega)) | with_reducible exact Below.refl _ _ | with_reducible exact below_new _ | with_reducible exact below_drew | with_reducible exact HB9.out | with_reducible exact HB8.out | with_reducible exact HB7.out | with_reducible exact HB6.out | with_reducible exact HB5.out | with_reducible exact HB4.out | with_reducible exact HB3.out | with_reducible exact HB2.out | with_reducible exact HB1.out | (with_reducible apply below_comp; rotate_left; first | with_reducible exact HB9.out | with_reducible exact HB8.out | with_reducible exact HB7.out | with_reducible exact HB6.out | with_reducible exact HB5.out | with_reducible exact HB4.out | with_reducible exact HB3.out | with_reducible exact HB2.out | with_reducible exact HB1.out | with_reducible assumption | with_reducible exact below_new _ | with_reducible exact below_drew))⟩
  · go_enter Try.func96, Try.ntmps96
    go_wp2_with (first | (go_at_call 89; refine (HR.out _).mono ?_; rintro e w1 ⟨rfl, hb1⟩; have hz1 := hb1.size; (try simp at hz1); (have hl0 : w.heap.size < w1.heap.size := by omega); (have hl1 : w.heap.size + 1 < w1.heap.size := by omega); (apply with_box hb1 (g := w.heap.size)); (focus (repeat (first | (with_reducible exact HP0.out) | (with_reducible exact HP1.out) | (with_reducible exact HP2.out) | (with_reducible exact HP3.out) | (with_reducible exact HP4.out) | (with_reducible exact HP5.out) | (with_reducible exact HP6.out) | (with_reducible exact HP7.out) | (with_reducible exact HP8.out) | (with_reducible exact HP9.out) | (with_reducible exact HP10.out) | (with_reducible exact HP11.out) | (with_reducible exact HQ0.out) | (with_reducible exact HQ1.out) | (with_reducible exact HQ2.out) | (with_reducible exact HQ3.out) | (with_reducible apply Box.new) | (with_reducible apply Box.newAt; simp; done) | (with_reducible apply Box.set) | (with_reducible apply Box.skip; omega) | (with_reducible apply Box.alloc) | (with_reducible apply Box.drew) | (with_reducible apply Box.row) | (with_reducible apply Box.skipRow; omega)))); intro hx0; (try simp only [List.setIfInBounds_toArray, List.set_cons_zero, List.set_cons_succ] at hx0); have k0_0 := hx0.cell 0 (by simp); have k0_1 := hx0.cell 1 (by simp); have k0_2 := hx0.cell 2 (by simp); have k0_3 := hx0.cell 3 (by simp); have k0_4 := hx0.cell 4 (by simp); have k0_5 := hx0.cell 5 (by simp); have k0_6 := hx0.cell 6 (by simp); have k0_7 := hx0.cell 7 (by simp); have k0_8 := hx0.cell 8 (by simp); have fr0 := fun o => hx0.frozen o; (try simp only [List.getElem_toArray, List.getElem_cons_zero, List.getElem_cons_succ] at k0_0); (try simp only [List.getElem_toArray, List.getElem_cons_zero, List.getElem_cons_succ] at k0_1); (try simp only [List.getElem_toArray, List.getElem_cons_zero, List.getElem_cons_succ] at k0_2); (try simp only [List.getElem_toArray, List.getElem_cons_zero, List.getElem_cons_succ] at k0_3); (try simp only [List.getElem_toArray, List.getElem_cons_zero, List.getElem_cons_succ] at k0_4); (try simp only [List.getElem_toArray, List.getElem_cons_zero, List.getElem_cons_succ] at k0_5); (try simp only [List.getElem_toArray, List.getElem_cons_zero, List.getElem_cons_succ] at k0_6); (try simp only [List.getElem_toArray, List.getElem_cons_zero, List.getElem_cons_succ] at k0_7); (try simp only [List.getElem_toArray, List.getElem_cons_zero, List.getElem_cons_succ] at k0_8); (apply with_box hb1 (g := w.heap.size + 1)); (focus (repeat (first | (with_reducible exact HP0.out) | (with_reducible exact HP1.out) | (with_reducible exact HP2.out) | (with_reducible exact HP3.out) | (with_reducible exact HP4.out) | (with_reducible exact HP5.out) | (with_reducible exact HP6.out) | (with_reducible exact HP7.out) | (with_reducible exact HP8.out) | (with_reducible exact HP9.out) | (with_reducible exact HP10.out) | (with_reducible exact HP11.out) | (with_reducible exact HQ0.out) | (with_reducible exact HQ1.out) | (with_reducible exact HQ2.out) | (with_reducible exact HQ3.out) | (with_reducible apply Box.new) | (with_reducible apply Box.newAt; simp; done) | (with_reducible apply Box.set) | (with_reducible apply Box.skip; omega) | (with_reducible apply Box.alloc) | (with_reducible apply Box.drew) | (with_reducible apply Box.row) | (with_reducible apply Box.skipRow; omega)))); intro hx1; (try simp only [List.setIfInBounds_toArray, List.set_cons_zero, List.set_cons_succ] at hx1); have k1_0 := hx1.cell 0 (by simp); have k1_1 := hx1.cell 1 (by simp); have k1_2 := hx1.cell 2 (by simp); have k1_3 := hx1.cell 3 (by simp); have k1_4 := hx1.cell 4 (by simp); have k1_5 := hx1.cell 5 (by simp); have k1_6 := hx1.cell 6 (by simp); have k1_7 := hx1.cell 7 (by simp); have k1_8 := hx1.cell 8 (by simp); have k1_9 := hx1.cell 9 (by simp); have k1_10 := hx1.cell 10 (by simp); have k1_11 := hx1.cell 11 (by simp); have k1_12 := hx1.cell 12 (by simp); have k1_13 := hx1.cell 13 (by simp); have k1_14 := hx1.cell 14 (by simp); have k1_15 := hx1.cell 15 (by simp); have fr1 := fun o => hx1.frozen o; (try simp only [List.getElem_toArray, List.getElem_cons_zero, List.getElem_cons_succ] at k1_0); (try simp only [List.getElem_toArray, List.getElem_cons_zero, List.getElem_cons_succ] at k1_1); (try simp only [List.getElem_toArray, List.getElem_cons_zero, List.getElem_cons_succ] at k1_2); (try simp only [List.getElem_toArray, List.getElem_cons_zero, List.getElem_cons_succ] at k1_3); (try simp only [List.getElem_toArray, List.getElem_cons_zero, List.getElem_cons_succ] at k1_4); (try simp only [List.getElem_toArray, List.getElem_cons_zero, List.getElem_cons_succ] at k1_5); (try simp only [List.getElem_toArray, List.getElem_cons_zero, List.getElem_cons_succ] at k1_6); (try simp only [List.getElem_toArray, List.getElem_cons_zero, List.getElem_cons_succ] at k1_7); (try simp only [List.getElem_toArray, List.getElem_cons_zero, List.getElem_cons_succ] at k1_8); (try simp only [List.getElem_toArray, List.getElem_cons_zero, List.getElem_cons_succ] at k1_9); (try simp only [List.getElem_toArray, List.getElem_cons_zero, List.getElem_cons_succ] at k1_10); (try simp only [List.getElem_toArray, List.getElem_cons_zero, List.getElem_cons_succ] at k1_11); (try simp only [List.getElem_toArray, List.getElem_cons_zero, List.getElem_cons_succ] at k1_12); (try simp only [List.getElem_toArray, List.getElem_cons_zero, List.getElem_cons_succ] at k1_13); (try simp only [List.getElem_toArray, List.getElem_cons_zero, List.getElem_cons_succ] at k1_14); (try simp only [List.getElem_toArray, List.getElem_cons_zero, List.getElem_cons_succ] at k1_15); skip; have HP0 := Lib.hid hx0; clear hx0; have HP1 := Lib.hid hx1; clear hx1; have HB1 := Lib.hid hb1; clear hb1) | (go_at_call 143; refine (HP.out _).mono ?_; rintro e w2 ⟨rfl, hb2⟩; have hz2 := hb2.size; (try simp at hz2); (have hl0 : w.heap.size < w2.heap.size := by omega); (have hl1 : w.heap.size + 1 < w2.heap.size := by omega); (apply with_box hb2 (g := w.heap.size)); (focus (repeat (first | (with_reducible exact HP0.out) | (with_reducible exact HP1.out) | (with_reducible exact HP2.out) | (with_reducible exact HP3.out) | (with_reducible exact HP4.out) | (with_reducible exact HP5.out) | (with_reducible exact HP6.out) | (with_reducible exact HP7.out) | (with_reducible exact HP8.out) | (with_reducible exact HP9.out) | (with_reducible exact HP10.out) | (with_reducible exact HP11.out) | (with_reducible exact HQ0.out) | (with_reducible exact HQ1.out) | (with_reducible exact HQ2.out) | (with_reducible exact HQ3.out) | (with_reducible apply Box.new) | (with_reducible apply Box.newAt; simp; done) | (with_reducible apply Box.set) | (with_reducible apply Box.skip; omega) | (with_reducible apply Box.alloc) | (with_reducible apply Box.drew) | (with_reducible apply Box.row) | (with_reducible apply Box.skipRow; omega)))); intro hx0; (try simp only [List.setIfInBounds_toArray, List.set_cons_zero, List.set_cons_succ] at hx0); have k0_0 := hx0.cell 0 (by simp); have k0_1 := hx0.cell 1 (by simp); have k0_2 := hx0.cell 2 (by simp); have k0_3 := hx0.cell 3 (by simp); have k0_4 := hx0.cell 4 (by simp); have k0_5 := hx0.cell 5 (by simp); have k0_6 := hx0.cell 6 (by simp); have k0_7 := hx0.cell 7 (by simp); have k0_8 := hx0.cell 8 (by simp); have fr0 := fun o => hx0.frozen o; (try simp only [List.getElem_toArray, List.getElem_cons_zero, List.getElem_cons_succ] at k0_0); (try simp only [List.getElem_toArray, List.getElem_cons_zero, List.getElem_cons_succ] at k0_1); (try simp only [List.getElem_toArray, List.getElem_cons_zero, List.getElem_cons_succ] at k0_2); (try simp only [List.getElem_toArray, List.getElem_cons_zero, List.getElem_cons_succ] at k0_3); (try simp only [List.getElem_toArray, List.getElem_cons_zero, List.getElem_cons_succ] at k0_4); (try simp only [List.getElem_toArray, List.getElem_cons_zero, List.getElem_cons_succ] at k0_5); (try simp only [List.getElem_toArray, List.getElem_cons_zero, List.getElem_cons_succ] at k0_6); (try simp only [List.getElem_toArray, List.getElem_cons_zero, List.getElem_cons_succ] at k0_7); (try simp only [List.getElem_toArray, List.getElem_cons_zero, List.getElem_cons_succ] at k0_8); (apply with_box hb2 (g := w.heap.size + 1)); (focus (repeat (first | (with_reducible exact HP0.out) | (with_reducible exact HP1.out) | (with_reducible exact HP2.out) | (with_reducible exact HP3.out) | (with_reducible exact HP4.out) | (with_reducible exact HP5.out) | (with_reducible exact HP6.out) | (with_reducible exact HP7.out) | (with_reducible exact HP8.out) | (with_reducible exact HP9.out) | (with_reducible exact HP10.out) | (with_reducible exact HP11.out) | (with_reducible exact HQ0.out) | (with_reducible exact HQ1.out) | (with_reducible exact HQ2.out) | (with_reducible exact HQ3.out) | (with_reducible apply Box.new) | (with_reducible apply Box.newAt; simp; done) | (with_reducible apply Box.set) | (with_reducible apply Box.skip; omega) | (with_reducible apply Box.alloc) | (with_reducible apply Box.drew) | (with_reducible apply Box.row) | (with_reducible apply Box.skipRow; omega)))); intro hx1; (try simp only [List.setIfInBounds_toArray, List.set_cons_zero, List.set_cons_succ] at hx1); have k1_0 := hx1.cell 0 (by simp); have k1_1 := hx1.cell 1 (by simp); have k1_2 := hx1.cell 2 (by simp); have k1_3 := hx1.cell 3 (by simp); have k1_4 := hx1.cell 4 (by simp); have k1_5 := hx1.cell 5 (by simp); have k1_6 := hx1.cell 6 (by simp); have k1_7 := hx1.cell 7 (by simp); have k1_8 := hx1.cell 8 (by simp); have k1_9 := hx1.cell 9 (by simp); have k1_10 := hx1.cell 10 (by simp); have k1_11 := hx1.cell 11 (by simp); have k1_12 := hx1.cell 12 (by simp); have k1_13 := hx1.cell 13 (by simp); have k1_14 := hx1.cell 14 (by simp); have k1_15 := hx1.cell 15 (by simp); have fr1 := fun o => hx1.frozen o; (try simp only [List.getElem_toArray, List.getElem_cons_zero, List.getElem_cons_succ] at k1_0); (try simp only [List.getElem_toArray, List.getElem_cons_zero, List.getElem_cons_succ] at k1_1); (try simp only [List.getElem_toArray, List.getElem_cons_zero, List.getElem_cons_succ] at k1_2); (try simp only [List.getElem_toArray, List.getElem_cons_zero, List.getElem_cons_succ] at k1_3); (try simp only [List.getElem_toArray, List.getElem_cons_zero, List.getElem_cons_succ] at k1_4); (try simp only [List.getElem_toArray, List.getElem_cons_zero, List.getElem_cons_succ] at k1_5); (try simp only [List.getElem_toArray, List.getElem_cons_zero, List.getElem_cons_succ] at k1_6); (try simp only [List.getElem_toArray, List.getElem_cons_zero, List.getElem_cons_succ] at k1_7); (try simp only [List.getElem_toArray, List.getElem_cons_zero, List.getElem_cons_succ] at k1_8); (try simp only [List.getElem_toArray, List.getElem_cons_zero, List.getElem_cons_succ] at k1_9); (try simp only [List.getElem_toArray, List.getElem_cons_zero, List.getElem_cons_succ] at k1_10); (try simp only [List.getElem_toArray, List.getElem_cons_zero, List.getElem_cons_succ] at k1_11); (try simp only [List.getElem_toArray, List.getElem_cons_zero, List.getElem_cons_succ] at k1_12); (try simp only [List.getElem_toArray, List.getElem_cons_zero, List.getElem_cons_succ] at k1_13); (try simp only [List.getElem_toArray, List.getElem_cons_zero, List.getElem_cons_succ] at k1_14); (try simp only [List.getElem_toArray, List.getElem_cons_zero, List.getElem_cons_succ] at k1_15); skip; have HP0 := Lib.hid hx0; clear hx0; have HP1 := Lib.hid hx1; clear hx1; have HB2 := Lib.hid hb2; clear hb2) | (go_at_call 144; refine (HM2.out _).mono ?_; rintro e w3 ⟨rfl, hb3⟩))
    go_ret
    exact ⟨by simp, by repeat (first | ((with_reducible refine Below.setCell ?_ ?_ _); rotate_left; first | omega | (dsimp only; omega) | (simp; done) | (simp; omega)) | ((with_reducible refine below_setRow ?_ ?_ _); rotate_left; first | omega | (dsimp only; omega) | (simp; done) | (simp; omega)) | with_reducible exact Below.refl _ _ | with_reducible exact below_new _ | with_reducible exact below_drew | with_reducible exact HB9.out | with_reducible exact HB8.out | with_reducible exact HB7.out | with_reducible exact HB6.out | with_reducible exact HB5.out | with_reducible exact HB4.out | with_reducible exact HB3.out | with_reducible exact HB2.out | with_reducible exact HB1.out | (with_reducible apply below_comp; rotate_left; first | with_reducible exact HB9.out | with_reducible exact HB8.out | with_reducible exact HB7.out | with_reducible exact HB6.out | with_reducible exact HB5.out | with_reducible exact HB4.out | with_reducible exact HB3.out | with_reducible exact HB2.out | with_reducible exact HB1.out | with_reducible assumption | with_reducible exact below_new _ | with_reducible exact below_drew))⟩

set_option maxHeartbeats 4000000 in
set_option maxRecDepth 100000 in
theorem impl_matches (r : RuleM) (p : PktM) (w : World) :
    Calls Try.prog 98 #[r.val, p.val] w fun e w' => e = .returned (.bool (r.Matches p)) ∧ Below w.heap.size w w' := by
  obtain ⟨GA, hGA⟩ : ∃ G : Bool, Hid (G = decide r.Ok) := ⟨_, Lib.hid rfl⟩
  obtain ⟨GB, hGB⟩ : ∃ G : Bool, Hid (G = decide p.SuperOk) := ⟨_, Lib.hid rfl⟩
  have YA := Lib.hid fun W => impl_ruleok r W
  have YB := Lib.hid fun W => impl_superok p W
  rw [← hGA.out] at YA
  rw [← hGB.out] at YB
  have HBT : Hid (GA = true → 0 ≤ r.xSrcBits ∧ r.xSrcBits ≤ 32) := Lib.hid fun h => (of_decide_eq_true (hGA.out.symm.trans h) : r.Ok).2.2.2.1
  have HBV : Hid (r.Matches p = (GA && GB && (same r.xSrcIp p.sip r.xSrcBits && inB r.xFirstPort p.seg.dport r.xLastPort && decide (r.Fits p.seg.kind p.vlan)))) := Lib.hid (by unfold RuleM.Matches; rw [hGA.out, hGB.out])
  rw [HBV.out]
  clear hGA hGB HBV
  obtain ⟨xPriorityA, xKindA, xSrcIpA, xSrcBitsA, xFirstPortA, xLastPortA, xVlanA, xActionA, xQueueA⟩ := r
  obtain ⟨y0, y1, y2, y3, y4, y5, y6, y7, ⟨y8, y9, y10, y11, y12, y13, y14, y15⟩⟩ := p
  unfold RuleM.val at YA
  unfold PktM.val at YB
  dsimp only at *
  obtain ⟨B, HB⟩ : ∃ B : Bool, Hid (B = (GA && GB && (same xSrcIpA y6 xSrcBitsA && inB xFirstPortA y10 xLastPortA && decide (RuleM.Fits ⟨xPriorityA, xKindA, xSrcIpA, xSrcBitsA, xFirstPortA, xLastPortA, xVlanA, xActionA, xQueueA⟩ y8 y2)))) := ⟨_, Lib.hid rfl⟩
  rw [← HB.out]
  unfold RuleM.val PktM.val
  dsimp only
  go_enter Try.func98, Try.ntmps98
  go_upto_region 1 with fail
  obtain ⟨w1, hw1⟩ : ∃ w1, w1 = (w.alloc (.cells #[.int .i64 xPriorityA, .int .i64 xKindA, .int .i64 xSrcIpA, .int .i64 xSrcBitsA, .int .i64 xFirstPortA, .int .i64 xLastPortA, .int .i64 xVlanA, .int .i64 xActionA, .int .i64 xQueueA] 127)).alloc (.cells #[.int .i64 y0, .int .i64 y1, .int .i64 y2, .int .i64 y3, .int .i64 y4, .int .i64 y5, .int .i64 y6, .int .i64 y7, .int .i64 y8, .int .i64 y9, .int .i64 y10, .int .i64 y11, .int .i64 y12, .int .i64 y13, .int .i64 y14, .string y15] 45) := ⟨_, rfl⟩
  have hb1 : Below w.heap.size w w1 := hw1 ▸ below_comp (below_new _) (below_new _)
  have HB1 : Hid (Box w1 w.heap.size #[.int .i64 xPriorityA, .int .i64 xKindA, .int .i64 xSrcIpA, .int .i64 xSrcBitsA, .int .i64 xFirstPortA, .int .i64 xLastPortA, .int .i64 xVlanA, .int .i64 xActionA, .int .i64 xQueueA] 127) := Lib.hid (hw1 ▸ (Box.new w #[.int .i64 xPriorityA, .int .i64 xKindA, .int .i64 xSrcIpA, .int .i64 xSrcBitsA, .int .i64 xFirstPortA, .int .i64 xLastPortA, .int .i64 xVlanA, .int .i64 xActionA, .int .i64 xQueueA] 127).below (below_new _) (by simp))
  have HB2 : Hid (Box w1 (w.heap.size + 1) #[.int .i64 y0, .int .i64 y1, .int .i64 y2, .int .i64 y3, .int .i64 y4, .int .i64 y5, .int .i64 y6, .int .i64 y7, .int .i64 y8, .int .i64 y9, .int .i64 y10, .int .i64 y11, .int .i64 y12, .int .i64 y13, .int .i64 y14, .string y15] 45) := Lib.hid (by have := Box.new (w.alloc (.cells #[.int .i64 xPriorityA, .int .i64 xKindA, .int .i64 xSrcIpA, .int .i64 xSrcBitsA, .int .i64 xFirstPortA, .int .i64 xLastPortA, .int .i64 xVlanA, .int .i64 xActionA, .int .i64 xQueueA] 127)) #[.int .i64 y0, .int .i64 y1, .int .i64 y2, .int .i64 y3, .int .i64 y4, .int .i64 y5, .int .i64 y6, .int .i64 y7, .int .i64 y8, .int .i64 y9, .int .i64 y10, .int .i64 y11, .int .i64 y12, .int .i64 y13, .int .i64 y14, .string y15] 45; rw [← hw1] at this; simpa using this)
  have hg1 : w.heap.size < w1.heap.size := by have h := congrArg (fun x => x.heap.size) hw1; simp at h; omega
  have hg2 : w.heap.size + 1 < w1.heap.size := by have h := congrArg (fun x => x.heap.size) hw1; simp at h; omega
  rw [← hw1]
  clear hw1
  obtain ⟨V, hV⟩ : ∃ V, Hid (V = Vals ((.agg #[.int .i64 xPriorityA, .int .i64 xKindA, .int .i64 xSrcIpA, .int .i64 xSrcBitsA, .int .i64 xFirstPortA, .int .i64 xLastPortA, .int .i64 xVlanA, .int .i64 xActionA, .int .i64 xQueueA] : Value) :: (.bool GA : Value) :: (.bool GA : Value) :: onlyIf (GA == true) (.agg #[.int .i64 y0, .int .i64 y1, .int .i64 y2, .int .i64 y3, .int .i64 y4, .int .i64 y5, .int .i64 y6, .int .i64 y7, .int .i64 y8, .int .i64 y9, .int .i64 y10, .int .i64 y11, .int .i64 y12, .int .i64 y13, .int .i64 y14, .string y15]) :: onlyIf (GA == true) (.bool GB) :: (.bool (GA && GB) : Value) :: (.bool (GA && GB) : Value) :: onlyIf ((GA && GB) == true) (.pointer (some ⟨w.heap.size, 2, none⟩)) :: onlyIf ((GA && GB) == true) (.int .i64 xSrcIpA) :: onlyIf ((GA && GB) == true) (.pointer (some ⟨w.heap.size + 1, 6, none⟩)) :: onlyIf ((GA && GB) == true) (.int .i64 y6) :: onlyIf ((GA && GB) == true) (.pointer (some ⟨w.heap.size, 3, none⟩)) :: onlyIf ((GA && GB) == true) (.int .i64 xSrcBitsA) :: onlyIf ((GA && GB) == true) (.bool (same xSrcIpA y6 xSrcBitsA)) :: (.bool ((GA && GB) && (same xSrcIpA y6 xSrcBitsA)) : Value) :: (.bool ((GA && GB) && (same xSrcIpA y6 xSrcBitsA)) : Value) :: onlyIf (((GA && GB) && (same xSrcIpA y6 xSrcBitsA)) == true) (.pointer (some ⟨w.heap.size + 1, 8, none⟩)) :: onlyIf (((GA && GB) && (same xSrcIpA y6 xSrcBitsA)) == true) (.pointer (some ⟨w.heap.size + 1, 10, none⟩)) :: onlyIf (((GA && GB) && (same xSrcIpA y6 xSrcBitsA)) == true) (.int .i64 y10) :: onlyIf (((GA && GB) && (same xSrcIpA y6 xSrcBitsA)) == true) (.pointer (some ⟨w.heap.size, 4, none⟩)) :: onlyIf (((GA && GB) && (same xSrcIpA y6 xSrcBitsA)) == true) (.int .i64 xFirstPortA) :: onlyIf (((GA && GB) && (same xSrcIpA y6 xSrcBitsA)) == true) (.pointer (some ⟨w.heap.size, 5, none⟩)) :: onlyIf (((GA && GB) && (same xSrcIpA y6 xSrcBitsA)) == true) (.int .i64 xLastPortA) :: onlyIf (((GA && GB) && (same xSrcIpA y6 xSrcBitsA)) == true) (.bool (inB xFirstPortA y10 xLastPortA)) :: (.bool (((GA && GB) && (same xSrcIpA y6 xSrcBitsA)) && (inB xFirstPortA y10 xLastPortA)) : Value) :: (.bool (((GA && GB) && (same xSrcIpA y6 xSrcBitsA)) && (inB xFirstPortA y10 xLastPortA)) : Value) :: onlyIf ((((GA && GB) && (same xSrcIpA y6 xSrcBitsA)) && (inB xFirstPortA y10 xLastPortA)) == true) (.agg #[.int .i64 xPriorityA, .int .i64 xKindA, .int .i64 xSrcIpA, .int .i64 xSrcBitsA, .int .i64 xFirstPortA, .int .i64 xLastPortA, .int .i64 xVlanA, .int .i64 xActionA, .int .i64 xQueueA]) :: onlyIf ((((GA && GB) && (same xSrcIpA y6 xSrcBitsA)) && (inB xFirstPortA y10 xLastPortA)) == true) (.pointer (some ⟨w.heap.size + 1, 8, none⟩)) :: onlyIf ((((GA && GB) && (same xSrcIpA y6 xSrcBitsA)) && (inB xFirstPortA y10 xLastPortA)) == true) (.pointer (some ⟨w.heap.size + 1, 8, none⟩)) :: onlyIf ((((GA && GB) && (same xSrcIpA y6 xSrcBitsA)) && (inB xFirstPortA y10 xLastPortA)) == true) (.int .i64 y8) :: onlyIf ((((GA && GB) && (same xSrcIpA y6 xSrcBitsA)) && (inB xFirstPortA y10 xLastPortA)) == true) (.pointer (some ⟨w.heap.size + 1, 2, none⟩)) :: onlyIf ((((GA && GB) && (same xSrcIpA y6 xSrcBitsA)) && (inB xFirstPortA y10 xLastPortA)) == true) (.int .i64 y2) :: onlyIf ((((GA && GB) && (same xSrcIpA y6 xSrcBitsA)) && (inB xFirstPortA y10 xLastPortA)) == true) (.bool (decide (RuleM.Fits ⟨xPriorityA, xKindA, xSrcIpA, xSrcBitsA, xFirstPortA, xLastPortA, xVlanA, xActionA, xQueueA⟩ y8 y2))) :: (.bool ((((GA && GB) && (same xSrcIpA y6 xSrcBitsA)) && (inB xFirstPortA y10 xLastPortA)) && (decide (RuleM.Fits ⟨xPriorityA, xKindA, xSrcIpA, xSrcBitsA, xFirstPortA, xLastPortA, xVlanA, xActionA, xQueueA⟩ y8 y2))) : Value) :: (.bool ((((GA && GB) && (same xSrcIpA y6 xSrcBitsA)) && (inB xFirstPortA y10 xLastPortA)) && (decide (RuleM.Fits ⟨xPriorityA, xKindA, xSrcIpA, xSrcBitsA, xFirstPortA, xLastPortA, xVlanA, xActionA, xQueueA⟩ y8 y2))) : Value) :: ([] : List Value)) []) := ⟨_, Lib.hid rfl⟩
  refine wp_region_valuesF (by kernel_rfl) (fun W => Below w1.heap.size w1 W) V
    39 rfl (by kernel_rfl) (by kernel_rfl) (Below.refl _ _) (eachOp_all ?_) ?_
  · refine ⟨?_, ?_, ?_, ?_, ?_, ?_, ?_, ?_, ?_, ?_, ?_, ?_, ?_, ?_, ?_, ?_, ?_, ?_, ?_, ?_, ?_, ?_, ?_, ?_, ?_, ?_, ?_, ?_, ?_, ?_, ?_, ?_, ?_, ?_, ?_, trivial⟩
    · intro a W hd hS hdep hfree
      have x2 : a.tmps.getD 2 undef = .pointer (some ⟨w.heap.size, 0, none⟩) := hfree 2 (by kernel_rfl)
      clear hd hdep hfree
      refine .inl ⟨wanted_free rfl, ?_⟩
      have c0 : W.cell? ⟨w.heap.size, 0, none⟩ = some (.int .i64 xPriorityA) := (HB1.out.below hS hg1).cell 0 (by simp)
      have c1 : W.cell? ⟨w.heap.size, 1, none⟩ = some (.int .i64 xKindA) := (HB1.out.below hS hg1).cell 1 (by simp)
      have c2 : W.cell? ⟨w.heap.size, 2, none⟩ = some (.int .i64 xSrcIpA) := (HB1.out.below hS hg1).cell 2 (by simp)
      have c3 : W.cell? ⟨w.heap.size, 3, none⟩ = some (.int .i64 xSrcBitsA) := (HB1.out.below hS hg1).cell 3 (by simp)
      have c4 : W.cell? ⟨w.heap.size, 4, none⟩ = some (.int .i64 xFirstPortA) := (HB1.out.below hS hg1).cell 4 (by simp)
      have c5 : W.cell? ⟨w.heap.size, 5, none⟩ = some (.int .i64 xLastPortA) := (HB1.out.below hS hg1).cell 5 (by simp)
      have c6 : W.cell? ⟨w.heap.size, 6, none⟩ = some (.int .i64 xVlanA) := (HB1.out.below hS hg1).cell 6 (by simp)
      have c7 : W.cell? ⟨w.heap.size, 7, none⟩ = some (.int .i64 xActionA) := (HB1.out.below hS hg1).cell 7 (by simp)
      have c8 : W.cell? ⟨w.heap.size, 8, none⟩ = some (.int .i64 xQueueA) := (HB1.out.below hS hg1).cell 8 (by simp)
      simp only [Oper.wp, execOp]
      go_simp
      refine Nxt.mk _ rfl (fun _ _ => ?_) hS (fun _ _ h => h)
      (rw [hV.out]; rfl)
    · intro a W hd hS hdep hfree
      have x5 : a.tmps.getD 5 undef = .agg #[.int .i64 xPriorityA, .int .i64 xKindA, .int .i64 xSrcIpA, .int .i64 xSrcBitsA, .int .i64 xFirstPortA, .int .i64 xLastPortA, .int .i64 xVlanA, .int .i64 xActionA, .int .i64 xQueueA] := by have h := hdep 0 5 (by kernel_rfl) rfl; rw [hV.out] at h; exact h
      clear hd hdep hfree
      refine .inl ⟨wanted_free rfl, ?_⟩
      simp only [Oper.wp, execOp]
      go_simp
      refine (YA.out W).mono ?_
      rintro e W' ⟨rfl, hb⟩
      exact Nxt.mk _ rfl (fun _ _ => by (rw [hV.out]; rfl)) (below_comp hS hb) (fun j u h => by rw [hV.out] at h ⊢; exact Vals.below hb j u h)
    · intro a W hd hS hdep hfree
      have x6 : a.tmps.getD 6 undef = .bool GA := by have h := hdep 1 6 (by kernel_rfl) rfl; rw [hV.out] at h; exact h
      clear hd hdep hfree
      refine .inl ⟨wanted_free rfl, ?_⟩
      simp only [Oper.wp, execOp]
      go_simp
      refine Nxt.mk _ rfl (fun _ _ => ?_) hS (fun _ _ h => h)
      (rw [hV.out]; rfl)
    · intro a W hd hS hdep hfree
      have x7 : a.tmps.getD 7 undef = .bool GA := by have h := hdep 2 7 (by kernel_rfl) rfl; rw [hV.out] at h; exact h
      have x3 : a.tmps.getD 3 undef = .pointer (some ⟨w.heap.size + 1, 0, none⟩) := hfree 3 (by kernel_rfl)
      clear hd hdep hfree
      rcases (Bool.eq_false_or_eq_true ((GA == true))).symm with hE | hE
      · exact .inr ⟨(wanted_sym rfl rfl x7).trans hE, fun _ _ => by rw [hV.out]; exact (onlyIf_neg hE).symm⟩
      refine .inl ⟨(wanted_sym rfl rfl x7).trans hE, ?_⟩
      have hG0 := eq_of_beq hE
      try (have hbits := HBT.out (by revert hE; cases GA <;> simp))
      have HE := Lib.hid hE
      clear hE hG0
      have c0 : W.cell? ⟨w.heap.size + 1, 0, none⟩ = some (.int .i64 y0) := (HB2.out.below hS hg2).cell 0 (by simp)
      have c1 : W.cell? ⟨w.heap.size + 1, 1, none⟩ = some (.int .i64 y1) := (HB2.out.below hS hg2).cell 1 (by simp)
      have c2 : W.cell? ⟨w.heap.size + 1, 2, none⟩ = some (.int .i64 y2) := (HB2.out.below hS hg2).cell 2 (by simp)
      have c3 : W.cell? ⟨w.heap.size + 1, 3, none⟩ = some (.int .i64 y3) := (HB2.out.below hS hg2).cell 3 (by simp)
      have c4 : W.cell? ⟨w.heap.size + 1, 4, none⟩ = some (.int .i64 y4) := (HB2.out.below hS hg2).cell 4 (by simp)
      have c5 : W.cell? ⟨w.heap.size + 1, 5, none⟩ = some (.int .i64 y5) := (HB2.out.below hS hg2).cell 5 (by simp)
      have c6 : W.cell? ⟨w.heap.size + 1, 6, none⟩ = some (.int .i64 y6) := (HB2.out.below hS hg2).cell 6 (by simp)
      have c7 : W.cell? ⟨w.heap.size + 1, 7, none⟩ = some (.int .i64 y7) := (HB2.out.below hS hg2).cell 7 (by simp)
      have c8 : W.cell? ⟨w.heap.size + 1, 8, none⟩ = some (.int .i64 y8) := (HB2.out.below hS hg2).cell 8 (by simp)
      have c9 : W.cell? ⟨w.heap.size + 1, 9, none⟩ = some (.int .i64 y9) := (HB2.out.below hS hg2).cell 9 (by simp)
      have c10 : W.cell? ⟨w.heap.size + 1, 10, none⟩ = some (.int .i64 y10) := (HB2.out.below hS hg2).cell 10 (by simp)
      have c11 : W.cell? ⟨w.heap.size + 1, 11, none⟩ = some (.int .i64 y11) := (HB2.out.below hS hg2).cell 11 (by simp)
      have c12 : W.cell? ⟨w.heap.size + 1, 12, none⟩ = some (.int .i64 y12) := (HB2.out.below hS hg2).cell 12 (by simp)
      have c13 : W.cell? ⟨w.heap.size + 1, 13, none⟩ = some (.int .i64 y13) := (HB2.out.below hS hg2).cell 13 (by simp)
      have c14 : W.cell? ⟨w.heap.size + 1, 14, none⟩ = some (.int .i64 y14) := (HB2.out.below hS hg2).cell 14 (by simp)
      have c15 : W.cell? ⟨w.heap.size + 1, 15, none⟩ = some (.string y15) := (HB2.out.below hS hg2).cell 15 (by simp)
      simp only [Oper.wp, execOp]
      go_simp
      refine Nxt.mk _ rfl (fun _ _ => ?_) hS (fun _ _ h => h)
      (rw [hV.out]; exact (onlyIf_pos HE.out).symm)
    · intro a W hd hS hdep hfree
      have x7 : a.tmps.getD 7 undef = .bool GA := by have h := hdep 2 7 (by kernel_rfl) rfl; rw [hV.out] at h; exact h
      have x8 : a.tmps.getD 8 undef = onlyIf (GA == true) (.agg #[.int .i64 y0, .int .i64 y1, .int .i64 y2, .int .i64 y3, .int .i64 y4, .int .i64 y5, .int .i64 y6, .int .i64 y7, .int .i64 y8, .int .i64 y9, .int .i64 y10, .int .i64 y11, .int .i64 y12, .int .i64 y13, .int .i64 y14, .string y15]) := by have h := hdep 3 8 (by kernel_rfl) rfl; rw [hV.out] at h; exact h
      clear hd hdep hfree
      rcases (Bool.eq_false_or_eq_true ((GA == true))).symm with hE | hE
      · exact .inr ⟨(wanted_sym rfl rfl x7).trans hE, fun _ _ => by rw [hV.out]; exact (onlyIf_neg hE).symm⟩
      refine .inl ⟨(wanted_sym rfl rfl x7).trans hE, ?_⟩
      replace x8 := x8.trans (onlyIf_pos hE)
      have hG0 := eq_of_beq hE
      try (have hbits := HBT.out (by revert hE; cases GA <;> simp))
      have HE := Lib.hid hE
      clear hE hG0
      simp only [Oper.wp, execOp]
      go_simp
      refine (YB.out W).mono ?_
      rintro e W' ⟨rfl, hb⟩
      exact Nxt.mk _ rfl (fun _ _ => by (rw [hV.out]; exact (onlyIf_pos HE.out).symm)) (below_comp hS hb) (fun j u h => by rw [hV.out] at h ⊢; exact Vals.below hb j u h)
    · intro a W hd hS hdep hfree
      have x7 : a.tmps.getD 7 undef = .bool GA := by have h := hdep 2 7 (by kernel_rfl) rfl; rw [hV.out] at h; exact h
      have x9 : a.tmps.getD 9 undef = onlyIf (GA == true) (.bool GB) := by have h := hdep 4 9 (by kernel_rfl) rfl; rw [hV.out] at h; exact h
      clear hd hdep hfree
      refine .inl ⟨wanted_free rfl, ?_⟩
      rcases (Bool.eq_false_or_eq_true (GA)).symm with hX | hX
      · rw [hX] at x7
        replace hX := Lib.hid hX
        simp only [Oper.wp, execOp]
        go_simp
        refine Nxt.mk _ rfl (fun _ _ => ?_) hS (fun _ _ h => h)
        rw [hV.out]; show (_ : Value) = .bool _; rw [hX.out]; rfl
      · have hp : (GA == true) = true := by simp [hX]
        replace x9 := x9.trans (onlyIf_pos hp)
        rw [hX] at x7
        replace hX := Lib.hid hX
        simp only [Oper.wp, execOp]
        go_simp
        refine Nxt.mk _ rfl (fun _ _ => ?_) hS (fun _ _ h => h)
        rw [hV.out]; show (_ : Value) = .bool _; rw [hX.out]; rfl
    · intro a W hd hS hdep hfree
      have x10 : a.tmps.getD 10 undef = .bool (GA && GB) := by have h := hdep 5 10 (by kernel_rfl) rfl; rw [hV.out] at h; exact h
      clear hd hdep hfree
      refine .inl ⟨wanted_free rfl, ?_⟩
      simp only [Oper.wp, execOp]
      go_simp
      refine Nxt.mk _ rfl (fun _ _ => ?_) hS (fun _ _ h => h)
      (rw [hV.out]; rfl)
    · intro a W hd hS hdep hfree
      have x11 : a.tmps.getD 11 undef = .bool (GA && GB) := by have h := hdep 6 11 (by kernel_rfl) rfl; rw [hV.out] at h; exact h
      have x2 : a.tmps.getD 2 undef = .pointer (some ⟨w.heap.size, 0, none⟩) := hfree 2 (by kernel_rfl)
      clear hd hdep hfree
      rcases (Bool.eq_false_or_eq_true (((GA && GB) == true))).symm with hE | hE
      · exact .inr ⟨(wanted_sym rfl rfl x11).trans hE, fun _ _ => by rw [hV.out]; exact (onlyIf_neg hE).symm⟩
      refine .inl ⟨(wanted_sym rfl rfl x11).trans hE, ?_⟩
      have hG0 := eq_of_beq hE
      try (have hbits := HBT.out (by revert hE; cases GA <;> simp))
      have HE := Lib.hid hE
      clear hE hG0
      simp only [Oper.wp, execOp]
      go_simp
      refine Nxt.mk _ rfl (fun _ _ => ?_) hS (fun _ _ h => h)
      (rw [hV.out]; exact (onlyIf_pos HE.out).symm)
    · intro a W hd hS hdep hfree
      have x11 : a.tmps.getD 11 undef = .bool (GA && GB) := by have h := hdep 6 11 (by kernel_rfl) rfl; rw [hV.out] at h; exact h
      have x12 : a.tmps.getD 12 undef = onlyIf ((GA && GB) == true) (.pointer (some ⟨w.heap.size, 2, none⟩)) := by have h := hdep 7 12 (by kernel_rfl) rfl; rw [hV.out] at h; exact h
      clear hd hdep hfree
      rcases (Bool.eq_false_or_eq_true (((GA && GB) == true))).symm with hE | hE
      · exact .inr ⟨(wanted_sym rfl rfl x11).trans hE, fun _ _ => by rw [hV.out]; exact (onlyIf_neg hE).symm⟩
      refine .inl ⟨(wanted_sym rfl rfl x11).trans hE, ?_⟩
      replace x12 := x12.trans (onlyIf_pos hE)
      have hG0 := eq_of_beq hE
      try (have hbits := HBT.out (by revert hE; cases GA <;> simp))
      have HE := Lib.hid hE
      clear hE hG0
      have c0 : W.cell? ⟨w.heap.size, 2, none⟩ = some (.int .i64 xSrcIpA) := (HB1.out.below hS hg1).cell 2 (by simp)
      simp only [Oper.wp, execOp]
      go_simp
      refine Nxt.mk _ rfl (fun _ _ => ?_) hS (fun _ _ h => h)
      (rw [hV.out]; exact (onlyIf_pos HE.out).symm)
    · intro a W hd hS hdep hfree
      have x11 : a.tmps.getD 11 undef = .bool (GA && GB) := by have h := hdep 6 11 (by kernel_rfl) rfl; rw [hV.out] at h; exact h
      have x3 : a.tmps.getD 3 undef = .pointer (some ⟨w.heap.size + 1, 0, none⟩) := hfree 3 (by kernel_rfl)
      clear hd hdep hfree
      rcases (Bool.eq_false_or_eq_true (((GA && GB) == true))).symm with hE | hE
      · exact .inr ⟨(wanted_sym rfl rfl x11).trans hE, fun _ _ => by rw [hV.out]; exact (onlyIf_neg hE).symm⟩
      refine .inl ⟨(wanted_sym rfl rfl x11).trans hE, ?_⟩
      have hG0 := eq_of_beq hE
      try (have hbits := HBT.out (by revert hE; cases GA <;> simp))
      have HE := Lib.hid hE
      clear hE hG0
      simp only [Oper.wp, execOp]
      go_simp
      refine Nxt.mk _ rfl (fun _ _ => ?_) hS (fun _ _ h => h)
      (rw [hV.out]; exact (onlyIf_pos HE.out).symm)
    · intro a W hd hS hdep hfree
      have x11 : a.tmps.getD 11 undef = .bool (GA && GB) := by have h := hdep 6 11 (by kernel_rfl) rfl; rw [hV.out] at h; exact h
      have x14 : a.tmps.getD 14 undef = onlyIf ((GA && GB) == true) (.pointer (some ⟨w.heap.size + 1, 6, none⟩)) := by have h := hdep 9 14 (by kernel_rfl) rfl; rw [hV.out] at h; exact h
      clear hd hdep hfree
      rcases (Bool.eq_false_or_eq_true (((GA && GB) == true))).symm with hE | hE
      · exact .inr ⟨(wanted_sym rfl rfl x11).trans hE, fun _ _ => by rw [hV.out]; exact (onlyIf_neg hE).symm⟩
      refine .inl ⟨(wanted_sym rfl rfl x11).trans hE, ?_⟩
      replace x14 := x14.trans (onlyIf_pos hE)
      have hG0 := eq_of_beq hE
      try (have hbits := HBT.out (by revert hE; cases GA <;> simp))
      have HE := Lib.hid hE
      clear hE hG0
      have c0 : W.cell? ⟨w.heap.size + 1, 6, none⟩ = some (.int .i64 y6) := (HB2.out.below hS hg2).cell 6 (by simp)
      simp only [Oper.wp, execOp]
      go_simp
      refine Nxt.mk _ rfl (fun _ _ => ?_) hS (fun _ _ h => h)
      (rw [hV.out]; exact (onlyIf_pos HE.out).symm)
    · intro a W hd hS hdep hfree
      have x11 : a.tmps.getD 11 undef = .bool (GA && GB) := by have h := hdep 6 11 (by kernel_rfl) rfl; rw [hV.out] at h; exact h
      have x2 : a.tmps.getD 2 undef = .pointer (some ⟨w.heap.size, 0, none⟩) := hfree 2 (by kernel_rfl)
      clear hd hdep hfree
      rcases (Bool.eq_false_or_eq_true (((GA && GB) == true))).symm with hE | hE
      · exact .inr ⟨(wanted_sym rfl rfl x11).trans hE, fun _ _ => by rw [hV.out]; exact (onlyIf_neg hE).symm⟩
      refine .inl ⟨(wanted_sym rfl rfl x11).trans hE, ?_⟩
      have hG0 := eq_of_beq hE
      try (have hbits := HBT.out (by revert hE; cases GA <;> simp))
      have HE := Lib.hid hE
      clear hE hG0
      simp only [Oper.wp, execOp]
      go_simp
      refine Nxt.mk _ rfl (fun _ _ => ?_) hS (fun _ _ h => h)
      (rw [hV.out]; exact (onlyIf_pos HE.out).symm)
    · intro a W hd hS hdep hfree
      have x11 : a.tmps.getD 11 undef = .bool (GA && GB) := by have h := hdep 6 11 (by kernel_rfl) rfl; rw [hV.out] at h; exact h
      have x16 : a.tmps.getD 16 undef = onlyIf ((GA && GB) == true) (.pointer (some ⟨w.heap.size, 3, none⟩)) := by have h := hdep 11 16 (by kernel_rfl) rfl; rw [hV.out] at h; exact h
      clear hd hdep hfree
      rcases (Bool.eq_false_or_eq_true (((GA && GB) == true))).symm with hE | hE
      · exact .inr ⟨(wanted_sym rfl rfl x11).trans hE, fun _ _ => by rw [hV.out]; exact (onlyIf_neg hE).symm⟩
      refine .inl ⟨(wanted_sym rfl rfl x11).trans hE, ?_⟩
      replace x16 := x16.trans (onlyIf_pos hE)
      have hG0 := eq_of_beq hE
      try (have hbits := HBT.out (by revert hE; cases GA <;> simp))
      have HE := Lib.hid hE
      clear hE hG0
      have c0 : W.cell? ⟨w.heap.size, 3, none⟩ = some (.int .i64 xSrcBitsA) := (HB1.out.below hS hg1).cell 3 (by simp)
      simp only [Oper.wp, execOp]
      go_simp
      refine Nxt.mk _ rfl (fun _ _ => ?_) hS (fun _ _ h => h)
      (rw [hV.out]; exact (onlyIf_pos HE.out).symm)
    · intro a W hd hS hdep hfree
      have x11 : a.tmps.getD 11 undef = .bool (GA && GB) := by have h := hdep 6 11 (by kernel_rfl) rfl; rw [hV.out] at h; exact h
      have x13 : a.tmps.getD 13 undef = onlyIf ((GA && GB) == true) (.int .i64 xSrcIpA) := by have h := hdep 8 13 (by kernel_rfl) rfl; rw [hV.out] at h; exact h
      have x15 : a.tmps.getD 15 undef = onlyIf ((GA && GB) == true) (.int .i64 y6) := by have h := hdep 10 15 (by kernel_rfl) rfl; rw [hV.out] at h; exact h
      have x17 : a.tmps.getD 17 undef = onlyIf ((GA && GB) == true) (.int .i64 xSrcBitsA) := by have h := hdep 12 17 (by kernel_rfl) rfl; rw [hV.out] at h; exact h
      clear hd hdep hfree
      rcases (Bool.eq_false_or_eq_true (((GA && GB) == true))).symm with hE | hE
      · exact .inr ⟨(wanted_sym rfl rfl x11).trans hE, fun _ _ => by rw [hV.out]; exact (onlyIf_neg hE).symm⟩
      refine .inl ⟨(wanted_sym rfl rfl x11).trans hE, ?_⟩
      replace x13 := x13.trans (onlyIf_pos hE)
      replace x15 := x15.trans (onlyIf_pos hE)
      replace x17 := x17.trans (onlyIf_pos hE)
      have hG0 := eq_of_beq hE
      try (have hbits := HBT.out (by revert hE; cases GA <;> simp))
      have HE := Lib.hid hE
      clear hE hG0
      simp only [Oper.wp, execOp]
      go_simp
      refine ((impl_samestart xSrcIpA y6 xSrcBitsA W hbits)).mono ?_
      rintro e W' ⟨rfl, hb⟩
      exact Nxt.mk _ rfl (fun _ _ => by (rw [hV.out]; exact (onlyIf_pos HE.out).symm)) (below_comp hS hb) (fun j u h => by rw [hV.out] at h ⊢; exact Vals.below hb j u h)
    · intro a W hd hS hdep hfree
      have x11 : a.tmps.getD 11 undef = .bool (GA && GB) := by have h := hdep 6 11 (by kernel_rfl) rfl; rw [hV.out] at h; exact h
      have x18 : a.tmps.getD 18 undef = onlyIf ((GA && GB) == true) (.bool (same xSrcIpA y6 xSrcBitsA)) := by have h := hdep 13 18 (by kernel_rfl) rfl; rw [hV.out] at h; exact h
      clear hd hdep hfree
      refine .inl ⟨wanted_free rfl, ?_⟩
      rcases (Bool.eq_false_or_eq_true ((GA && GB))).symm with hX | hX
      · rw [hX] at x11
        replace hX := Lib.hid hX
        simp only [Oper.wp, execOp]
        go_simp
        refine Nxt.mk _ rfl (fun _ _ => ?_) hS (fun _ _ h => h)
        rw [hV.out]; show (_ : Value) = .bool _; rw [hX.out]; rfl
      · have hp : ((GA && GB) == true) = true := by simp [hX]
        replace x18 := x18.trans (onlyIf_pos hp)
        rw [hX] at x11
        replace hX := Lib.hid hX
        simp only [Oper.wp, execOp]
        go_simp
        refine Nxt.mk _ rfl (fun _ _ => ?_) hS (fun _ _ h => h)
        rw [hV.out]; show (_ : Value) = .bool _; rw [hX.out]; rfl
    · intro a W hd hS hdep hfree
      have x19 : a.tmps.getD 19 undef = .bool ((GA && GB) && (same xSrcIpA y6 xSrcBitsA)) := by have h := hdep 14 19 (by kernel_rfl) rfl; rw [hV.out] at h; exact h
      clear hd hdep hfree
      refine .inl ⟨wanted_free rfl, ?_⟩
      simp only [Oper.wp, execOp]
      go_simp
      refine Nxt.mk _ rfl (fun _ _ => ?_) hS (fun _ _ h => h)
      (rw [hV.out]; rfl)
    · intro a W hd hS hdep hfree
      have x20 : a.tmps.getD 20 undef = .bool ((GA && GB) && (same xSrcIpA y6 xSrcBitsA)) := by have h := hdep 15 20 (by kernel_rfl) rfl; rw [hV.out] at h; exact h
      have x3 : a.tmps.getD 3 undef = .pointer (some ⟨w.heap.size + 1, 0, none⟩) := hfree 3 (by kernel_rfl)
      clear hd hdep hfree
      rcases (Bool.eq_false_or_eq_true ((((GA && GB) && (same xSrcIpA y6 xSrcBitsA)) == true))).symm with hE | hE
      · exact .inr ⟨(wanted_sym rfl rfl x20).trans hE, fun _ _ => by rw [hV.out]; exact (onlyIf_neg hE).symm⟩
      refine .inl ⟨(wanted_sym rfl rfl x20).trans hE, ?_⟩
      have hG0 := eq_of_beq hE
      try (have hbits := HBT.out (by revert hE; cases GA <;> simp))
      have HE := Lib.hid hE
      clear hE hG0
      simp only [Oper.wp, execOp]
      go_simp
      refine Nxt.mk _ rfl (fun _ _ => ?_) hS (fun _ _ h => h)
      (rw [hV.out]; exact (onlyIf_pos HE.out).symm)
    · intro a W hd hS hdep hfree
      have x20 : a.tmps.getD 20 undef = .bool ((GA && GB) && (same xSrcIpA y6 xSrcBitsA)) := by have h := hdep 15 20 (by kernel_rfl) rfl; rw [hV.out] at h; exact h
      have x21 : a.tmps.getD 21 undef = onlyIf (((GA && GB) && (same xSrcIpA y6 xSrcBitsA)) == true) (.pointer (some ⟨w.heap.size + 1, 8, none⟩)) := by have h := hdep 16 21 (by kernel_rfl) rfl; rw [hV.out] at h; exact h
      clear hd hdep hfree
      rcases (Bool.eq_false_or_eq_true ((((GA && GB) && (same xSrcIpA y6 xSrcBitsA)) == true))).symm with hE | hE
      · exact .inr ⟨(wanted_sym rfl rfl x20).trans hE, fun _ _ => by rw [hV.out]; exact (onlyIf_neg hE).symm⟩
      refine .inl ⟨(wanted_sym rfl rfl x20).trans hE, ?_⟩
      replace x21 := x21.trans (onlyIf_pos hE)
      have hG0 := eq_of_beq hE
      try (have hbits := HBT.out (by revert hE; cases GA <;> simp))
      have HE := Lib.hid hE
      clear hE hG0
      simp only [Oper.wp, execOp]
      go_simp
      refine Nxt.mk _ rfl (fun _ _ => ?_) hS (fun _ _ h => h)
      (rw [hV.out]; exact (onlyIf_pos HE.out).symm)
    · intro a W hd hS hdep hfree
      have x20 : a.tmps.getD 20 undef = .bool ((GA && GB) && (same xSrcIpA y6 xSrcBitsA)) := by have h := hdep 15 20 (by kernel_rfl) rfl; rw [hV.out] at h; exact h
      have x22 : a.tmps.getD 22 undef = onlyIf (((GA && GB) && (same xSrcIpA y6 xSrcBitsA)) == true) (.pointer (some ⟨w.heap.size + 1, 10, none⟩)) := by have h := hdep 17 22 (by kernel_rfl) rfl; rw [hV.out] at h; exact h
      clear hd hdep hfree
      rcases (Bool.eq_false_or_eq_true ((((GA && GB) && (same xSrcIpA y6 xSrcBitsA)) == true))).symm with hE | hE
      · exact .inr ⟨(wanted_sym rfl rfl x20).trans hE, fun _ _ => by rw [hV.out]; exact (onlyIf_neg hE).symm⟩
      refine .inl ⟨(wanted_sym rfl rfl x20).trans hE, ?_⟩
      replace x22 := x22.trans (onlyIf_pos hE)
      have hG0 := eq_of_beq hE
      try (have hbits := HBT.out (by revert hE; cases GA <;> simp))
      have HE := Lib.hid hE
      clear hE hG0
      have c0 : W.cell? ⟨w.heap.size + 1, 10, none⟩ = some (.int .i64 y10) := (HB2.out.below hS hg2).cell 10 (by simp)
      simp only [Oper.wp, execOp]
      go_simp
      refine Nxt.mk _ rfl (fun _ _ => ?_) hS (fun _ _ h => h)
      (rw [hV.out]; exact (onlyIf_pos HE.out).symm)
    · intro a W hd hS hdep hfree
      have x20 : a.tmps.getD 20 undef = .bool ((GA && GB) && (same xSrcIpA y6 xSrcBitsA)) := by have h := hdep 15 20 (by kernel_rfl) rfl; rw [hV.out] at h; exact h
      have x2 : a.tmps.getD 2 undef = .pointer (some ⟨w.heap.size, 0, none⟩) := hfree 2 (by kernel_rfl)
      clear hd hdep hfree
      rcases (Bool.eq_false_or_eq_true ((((GA && GB) && (same xSrcIpA y6 xSrcBitsA)) == true))).symm with hE | hE
      · exact .inr ⟨(wanted_sym rfl rfl x20).trans hE, fun _ _ => by rw [hV.out]; exact (onlyIf_neg hE).symm⟩
      refine .inl ⟨(wanted_sym rfl rfl x20).trans hE, ?_⟩
      have hG0 := eq_of_beq hE
      try (have hbits := HBT.out (by revert hE; cases GA <;> simp))
      have HE := Lib.hid hE
      clear hE hG0
      simp only [Oper.wp, execOp]
      go_simp
      refine Nxt.mk _ rfl (fun _ _ => ?_) hS (fun _ _ h => h)
      (rw [hV.out]; exact (onlyIf_pos HE.out).symm)
    · intro a W hd hS hdep hfree
      have x20 : a.tmps.getD 20 undef = .bool ((GA && GB) && (same xSrcIpA y6 xSrcBitsA)) := by have h := hdep 15 20 (by kernel_rfl) rfl; rw [hV.out] at h; exact h
      have x24 : a.tmps.getD 24 undef = onlyIf (((GA && GB) && (same xSrcIpA y6 xSrcBitsA)) == true) (.pointer (some ⟨w.heap.size, 4, none⟩)) := by have h := hdep 19 24 (by kernel_rfl) rfl; rw [hV.out] at h; exact h
      clear hd hdep hfree
      rcases (Bool.eq_false_or_eq_true ((((GA && GB) && (same xSrcIpA y6 xSrcBitsA)) == true))).symm with hE | hE
      · exact .inr ⟨(wanted_sym rfl rfl x20).trans hE, fun _ _ => by rw [hV.out]; exact (onlyIf_neg hE).symm⟩
      refine .inl ⟨(wanted_sym rfl rfl x20).trans hE, ?_⟩
      replace x24 := x24.trans (onlyIf_pos hE)
      have hG0 := eq_of_beq hE
      try (have hbits := HBT.out (by revert hE; cases GA <;> simp))
      have HE := Lib.hid hE
      clear hE hG0
      have c0 : W.cell? ⟨w.heap.size, 4, none⟩ = some (.int .i64 xFirstPortA) := (HB1.out.below hS hg1).cell 4 (by simp)
      simp only [Oper.wp, execOp]
      go_simp
      refine Nxt.mk _ rfl (fun _ _ => ?_) hS (fun _ _ h => h)
      (rw [hV.out]; exact (onlyIf_pos HE.out).symm)
    · intro a W hd hS hdep hfree
      have x20 : a.tmps.getD 20 undef = .bool ((GA && GB) && (same xSrcIpA y6 xSrcBitsA)) := by have h := hdep 15 20 (by kernel_rfl) rfl; rw [hV.out] at h; exact h
      have x2 : a.tmps.getD 2 undef = .pointer (some ⟨w.heap.size, 0, none⟩) := hfree 2 (by kernel_rfl)
      clear hd hdep hfree
      rcases (Bool.eq_false_or_eq_true ((((GA && GB) && (same xSrcIpA y6 xSrcBitsA)) == true))).symm with hE | hE
      · exact .inr ⟨(wanted_sym rfl rfl x20).trans hE, fun _ _ => by rw [hV.out]; exact (onlyIf_neg hE).symm⟩
      refine .inl ⟨(wanted_sym rfl rfl x20).trans hE, ?_⟩
      have hG0 := eq_of_beq hE
      try (have hbits := HBT.out (by revert hE; cases GA <;> simp))
      have HE := Lib.hid hE
      clear hE hG0
      simp only [Oper.wp, execOp]
      go_simp
      refine Nxt.mk _ rfl (fun _ _ => ?_) hS (fun _ _ h => h)
      (rw [hV.out]; exact (onlyIf_pos HE.out).symm)
    · intro a W hd hS hdep hfree
      have x20 : a.tmps.getD 20 undef = .bool ((GA && GB) && (same xSrcIpA y6 xSrcBitsA)) := by have h := hdep 15 20 (by kernel_rfl) rfl; rw [hV.out] at h; exact h
      have x26 : a.tmps.getD 26 undef = onlyIf (((GA && GB) && (same xSrcIpA y6 xSrcBitsA)) == true) (.pointer (some ⟨w.heap.size, 5, none⟩)) := by have h := hdep 21 26 (by kernel_rfl) rfl; rw [hV.out] at h; exact h
      clear hd hdep hfree
      rcases (Bool.eq_false_or_eq_true ((((GA && GB) && (same xSrcIpA y6 xSrcBitsA)) == true))).symm with hE | hE
      · exact .inr ⟨(wanted_sym rfl rfl x20).trans hE, fun _ _ => by rw [hV.out]; exact (onlyIf_neg hE).symm⟩
      refine .inl ⟨(wanted_sym rfl rfl x20).trans hE, ?_⟩
      replace x26 := x26.trans (onlyIf_pos hE)
      have hG0 := eq_of_beq hE
      try (have hbits := HBT.out (by revert hE; cases GA <;> simp))
      have HE := Lib.hid hE
      clear hE hG0
      have c0 : W.cell? ⟨w.heap.size, 5, none⟩ = some (.int .i64 xLastPortA) := (HB1.out.below hS hg1).cell 5 (by simp)
      simp only [Oper.wp, execOp]
      go_simp
      refine Nxt.mk _ rfl (fun _ _ => ?_) hS (fun _ _ h => h)
      (rw [hV.out]; exact (onlyIf_pos HE.out).symm)
    · intro a W hd hS hdep hfree
      have x20 : a.tmps.getD 20 undef = .bool ((GA && GB) && (same xSrcIpA y6 xSrcBitsA)) := by have h := hdep 15 20 (by kernel_rfl) rfl; rw [hV.out] at h; exact h
      have x23 : a.tmps.getD 23 undef = onlyIf (((GA && GB) && (same xSrcIpA y6 xSrcBitsA)) == true) (.int .i64 y10) := by have h := hdep 18 23 (by kernel_rfl) rfl; rw [hV.out] at h; exact h
      have x25 : a.tmps.getD 25 undef = onlyIf (((GA && GB) && (same xSrcIpA y6 xSrcBitsA)) == true) (.int .i64 xFirstPortA) := by have h := hdep 20 25 (by kernel_rfl) rfl; rw [hV.out] at h; exact h
      have x27 : a.tmps.getD 27 undef = onlyIf (((GA && GB) && (same xSrcIpA y6 xSrcBitsA)) == true) (.int .i64 xLastPortA) := by have h := hdep 22 27 (by kernel_rfl) rfl; rw [hV.out] at h; exact h
      clear hd hdep hfree
      rcases (Bool.eq_false_or_eq_true ((((GA && GB) && (same xSrcIpA y6 xSrcBitsA)) == true))).symm with hE | hE
      · exact .inr ⟨(wanted_sym rfl rfl x20).trans hE, fun _ _ => by rw [hV.out]; exact (onlyIf_neg hE).symm⟩
      refine .inl ⟨(wanted_sym rfl rfl x20).trans hE, ?_⟩
      replace x23 := x23.trans (onlyIf_pos hE)
      replace x25 := x25.trans (onlyIf_pos hE)
      replace x27 := x27.trans (onlyIf_pos hE)
      have hG0 := eq_of_beq hE
      try (have hbits := HBT.out (by revert hE; cases GA <;> simp))
      have HE := Lib.hid hE
      clear hE hG0
      simp only [Oper.wp, execOp]
      go_simp
      refine ((iin_below y10 xFirstPortA xLastPortA W)).mono ?_
      rintro e W' ⟨rfl, hb⟩
      exact Nxt.mk _ rfl (fun _ _ => by (rw [hV.out]; exact (onlyIf_pos HE.out).symm)) (below_comp hS hb) (fun j u h => by rw [hV.out] at h ⊢; exact Vals.below hb j u h)
    · intro a W hd hS hdep hfree
      have x20 : a.tmps.getD 20 undef = .bool ((GA && GB) && (same xSrcIpA y6 xSrcBitsA)) := by have h := hdep 15 20 (by kernel_rfl) rfl; rw [hV.out] at h; exact h
      have x28 : a.tmps.getD 28 undef = onlyIf (((GA && GB) && (same xSrcIpA y6 xSrcBitsA)) == true) (.bool (inB xFirstPortA y10 xLastPortA)) := by have h := hdep 23 28 (by kernel_rfl) rfl; rw [hV.out] at h; exact h
      clear hd hdep hfree
      refine .inl ⟨wanted_free rfl, ?_⟩
      rcases (Bool.eq_false_or_eq_true (((GA && GB) && (same xSrcIpA y6 xSrcBitsA)))).symm with hX | hX
      · rw [hX] at x20
        replace hX := Lib.hid hX
        simp only [Oper.wp, execOp]
        go_simp
        refine Nxt.mk _ rfl (fun _ _ => ?_) hS (fun _ _ h => h)
        rw [hV.out]; show (_ : Value) = .bool _; rw [hX.out]; rfl
      · have hp : (((GA && GB) && (same xSrcIpA y6 xSrcBitsA)) == true) = true := by simp [hX]
        replace x28 := x28.trans (onlyIf_pos hp)
        rw [hX] at x20
        replace hX := Lib.hid hX
        simp only [Oper.wp, execOp]
        go_simp
        refine Nxt.mk _ rfl (fun _ _ => ?_) hS (fun _ _ h => h)
        rw [hV.out]; show (_ : Value) = .bool _; rw [hX.out]; rfl
    · intro a W hd hS hdep hfree
      have x29 : a.tmps.getD 29 undef = .bool (((GA && GB) && (same xSrcIpA y6 xSrcBitsA)) && (inB xFirstPortA y10 xLastPortA)) := by have h := hdep 24 29 (by kernel_rfl) rfl; rw [hV.out] at h; exact h
      clear hd hdep hfree
      refine .inl ⟨wanted_free rfl, ?_⟩
      simp only [Oper.wp, execOp]
      go_simp
      refine Nxt.mk _ rfl (fun _ _ => ?_) hS (fun _ _ h => h)
      (rw [hV.out]; rfl)
    · intro a W hd hS hdep hfree
      have x30 : a.tmps.getD 30 undef = .bool (((GA && GB) && (same xSrcIpA y6 xSrcBitsA)) && (inB xFirstPortA y10 xLastPortA)) := by have h := hdep 25 30 (by kernel_rfl) rfl; rw [hV.out] at h; exact h
      have x2 : a.tmps.getD 2 undef = .pointer (some ⟨w.heap.size, 0, none⟩) := hfree 2 (by kernel_rfl)
      clear hd hdep hfree
      rcases (Bool.eq_false_or_eq_true (((((GA && GB) && (same xSrcIpA y6 xSrcBitsA)) && (inB xFirstPortA y10 xLastPortA)) == true))).symm with hE | hE
      · exact .inr ⟨(wanted_sym rfl rfl x30).trans hE, fun _ _ => by rw [hV.out]; exact (onlyIf_neg hE).symm⟩
      refine .inl ⟨(wanted_sym rfl rfl x30).trans hE, ?_⟩
      have hG0 := eq_of_beq hE
      try (have hbits := HBT.out (by revert hE; cases GA <;> simp))
      have HE := Lib.hid hE
      clear hE hG0
      have c0 : W.cell? ⟨w.heap.size, 0, none⟩ = some (.int .i64 xPriorityA) := (HB1.out.below hS hg1).cell 0 (by simp)
      have c1 : W.cell? ⟨w.heap.size, 1, none⟩ = some (.int .i64 xKindA) := (HB1.out.below hS hg1).cell 1 (by simp)
      have c2 : W.cell? ⟨w.heap.size, 2, none⟩ = some (.int .i64 xSrcIpA) := (HB1.out.below hS hg1).cell 2 (by simp)
      have c3 : W.cell? ⟨w.heap.size, 3, none⟩ = some (.int .i64 xSrcBitsA) := (HB1.out.below hS hg1).cell 3 (by simp)
      have c4 : W.cell? ⟨w.heap.size, 4, none⟩ = some (.int .i64 xFirstPortA) := (HB1.out.below hS hg1).cell 4 (by simp)
      have c5 : W.cell? ⟨w.heap.size, 5, none⟩ = some (.int .i64 xLastPortA) := (HB1.out.below hS hg1).cell 5 (by simp)
      have c6 : W.cell? ⟨w.heap.size, 6, none⟩ = some (.int .i64 xVlanA) := (HB1.out.below hS hg1).cell 6 (by simp)
      have c7 : W.cell? ⟨w.heap.size, 7, none⟩ = some (.int .i64 xActionA) := (HB1.out.below hS hg1).cell 7 (by simp)
      have c8 : W.cell? ⟨w.heap.size, 8, none⟩ = some (.int .i64 xQueueA) := (HB1.out.below hS hg1).cell 8 (by simp)
      simp only [Oper.wp, execOp]
      go_simp
      refine Nxt.mk _ rfl (fun _ _ => ?_) hS (fun _ _ h => h)
      (rw [hV.out]; exact (onlyIf_pos HE.out).symm)
    · intro a W hd hS hdep hfree
      have x30 : a.tmps.getD 30 undef = .bool (((GA && GB) && (same xSrcIpA y6 xSrcBitsA)) && (inB xFirstPortA y10 xLastPortA)) := by have h := hdep 25 30 (by kernel_rfl) rfl; rw [hV.out] at h; exact h
      have x3 : a.tmps.getD 3 undef = .pointer (some ⟨w.heap.size + 1, 0, none⟩) := hfree 3 (by kernel_rfl)
      clear hd hdep hfree
      rcases (Bool.eq_false_or_eq_true (((((GA && GB) && (same xSrcIpA y6 xSrcBitsA)) && (inB xFirstPortA y10 xLastPortA)) == true))).symm with hE | hE
      · exact .inr ⟨(wanted_sym rfl rfl x30).trans hE, fun _ _ => by rw [hV.out]; exact (onlyIf_neg hE).symm⟩
      refine .inl ⟨(wanted_sym rfl rfl x30).trans hE, ?_⟩
      have hG0 := eq_of_beq hE
      try (have hbits := HBT.out (by revert hE; cases GA <;> simp))
      have HE := Lib.hid hE
      clear hE hG0
      simp only [Oper.wp, execOp]
      go_simp
      refine Nxt.mk _ rfl (fun _ _ => ?_) hS (fun _ _ h => h)
      (rw [hV.out]; exact (onlyIf_pos HE.out).symm)
    · intro a W hd hS hdep hfree
      have x30 : a.tmps.getD 30 undef = .bool (((GA && GB) && (same xSrcIpA y6 xSrcBitsA)) && (inB xFirstPortA y10 xLastPortA)) := by have h := hdep 25 30 (by kernel_rfl) rfl; rw [hV.out] at h; exact h
      have x32 : a.tmps.getD 32 undef = onlyIf ((((GA && GB) && (same xSrcIpA y6 xSrcBitsA)) && (inB xFirstPortA y10 xLastPortA)) == true) (.pointer (some ⟨w.heap.size + 1, 8, none⟩)) := by have h := hdep 27 32 (by kernel_rfl) rfl; rw [hV.out] at h; exact h
      clear hd hdep hfree
      rcases (Bool.eq_false_or_eq_true (((((GA && GB) && (same xSrcIpA y6 xSrcBitsA)) && (inB xFirstPortA y10 xLastPortA)) == true))).symm with hE | hE
      · exact .inr ⟨(wanted_sym rfl rfl x30).trans hE, fun _ _ => by rw [hV.out]; exact (onlyIf_neg hE).symm⟩
      refine .inl ⟨(wanted_sym rfl rfl x30).trans hE, ?_⟩
      replace x32 := x32.trans (onlyIf_pos hE)
      have hG0 := eq_of_beq hE
      try (have hbits := HBT.out (by revert hE; cases GA <;> simp))
      have HE := Lib.hid hE
      clear hE hG0
      simp only [Oper.wp, execOp]
      go_simp
      refine Nxt.mk _ rfl (fun _ _ => ?_) hS (fun _ _ h => h)
      (rw [hV.out]; exact (onlyIf_pos HE.out).symm)
    · intro a W hd hS hdep hfree
      have x30 : a.tmps.getD 30 undef = .bool (((GA && GB) && (same xSrcIpA y6 xSrcBitsA)) && (inB xFirstPortA y10 xLastPortA)) := by have h := hdep 25 30 (by kernel_rfl) rfl; rw [hV.out] at h; exact h
      have x33 : a.tmps.getD 33 undef = onlyIf ((((GA && GB) && (same xSrcIpA y6 xSrcBitsA)) && (inB xFirstPortA y10 xLastPortA)) == true) (.pointer (some ⟨w.heap.size + 1, 8, none⟩)) := by have h := hdep 28 33 (by kernel_rfl) rfl; rw [hV.out] at h; exact h
      clear hd hdep hfree
      rcases (Bool.eq_false_or_eq_true (((((GA && GB) && (same xSrcIpA y6 xSrcBitsA)) && (inB xFirstPortA y10 xLastPortA)) == true))).symm with hE | hE
      · exact .inr ⟨(wanted_sym rfl rfl x30).trans hE, fun _ _ => by rw [hV.out]; exact (onlyIf_neg hE).symm⟩
      refine .inl ⟨(wanted_sym rfl rfl x30).trans hE, ?_⟩
      replace x33 := x33.trans (onlyIf_pos hE)
      have hG0 := eq_of_beq hE
      try (have hbits := HBT.out (by revert hE; cases GA <;> simp))
      have HE := Lib.hid hE
      clear hE hG0
      have c0 : W.cell? ⟨w.heap.size + 1, 8, none⟩ = some (.int .i64 y8) := (HB2.out.below hS hg2).cell 8 (by simp)
      simp only [Oper.wp, execOp]
      go_simp
      refine Nxt.mk _ rfl (fun _ _ => ?_) hS (fun _ _ h => h)
      (rw [hV.out]; exact (onlyIf_pos HE.out).symm)
    · intro a W hd hS hdep hfree
      have x30 : a.tmps.getD 30 undef = .bool (((GA && GB) && (same xSrcIpA y6 xSrcBitsA)) && (inB xFirstPortA y10 xLastPortA)) := by have h := hdep 25 30 (by kernel_rfl) rfl; rw [hV.out] at h; exact h
      have x3 : a.tmps.getD 3 undef = .pointer (some ⟨w.heap.size + 1, 0, none⟩) := hfree 3 (by kernel_rfl)
      clear hd hdep hfree
      rcases (Bool.eq_false_or_eq_true (((((GA && GB) && (same xSrcIpA y6 xSrcBitsA)) && (inB xFirstPortA y10 xLastPortA)) == true))).symm with hE | hE
      · exact .inr ⟨(wanted_sym rfl rfl x30).trans hE, fun _ _ => by rw [hV.out]; exact (onlyIf_neg hE).symm⟩
      refine .inl ⟨(wanted_sym rfl rfl x30).trans hE, ?_⟩
      have hG0 := eq_of_beq hE
      try (have hbits := HBT.out (by revert hE; cases GA <;> simp))
      have HE := Lib.hid hE
      clear hE hG0
      simp only [Oper.wp, execOp]
      go_simp
      refine Nxt.mk _ rfl (fun _ _ => ?_) hS (fun _ _ h => h)
      (rw [hV.out]; exact (onlyIf_pos HE.out).symm)
    · intro a W hd hS hdep hfree
      have x30 : a.tmps.getD 30 undef = .bool (((GA && GB) && (same xSrcIpA y6 xSrcBitsA)) && (inB xFirstPortA y10 xLastPortA)) := by have h := hdep 25 30 (by kernel_rfl) rfl; rw [hV.out] at h; exact h
      have x35 : a.tmps.getD 35 undef = onlyIf ((((GA && GB) && (same xSrcIpA y6 xSrcBitsA)) && (inB xFirstPortA y10 xLastPortA)) == true) (.pointer (some ⟨w.heap.size + 1, 2, none⟩)) := by have h := hdep 30 35 (by kernel_rfl) rfl; rw [hV.out] at h; exact h
      clear hd hdep hfree
      rcases (Bool.eq_false_or_eq_true (((((GA && GB) && (same xSrcIpA y6 xSrcBitsA)) && (inB xFirstPortA y10 xLastPortA)) == true))).symm with hE | hE
      · exact .inr ⟨(wanted_sym rfl rfl x30).trans hE, fun _ _ => by rw [hV.out]; exact (onlyIf_neg hE).symm⟩
      refine .inl ⟨(wanted_sym rfl rfl x30).trans hE, ?_⟩
      replace x35 := x35.trans (onlyIf_pos hE)
      have hG0 := eq_of_beq hE
      try (have hbits := HBT.out (by revert hE; cases GA <;> simp))
      have HE := Lib.hid hE
      clear hE hG0
      have c0 : W.cell? ⟨w.heap.size + 1, 2, none⟩ = some (.int .i64 y2) := (HB2.out.below hS hg2).cell 2 (by simp)
      simp only [Oper.wp, execOp]
      go_simp
      refine Nxt.mk _ rfl (fun _ _ => ?_) hS (fun _ _ h => h)
      (rw [hV.out]; exact (onlyIf_pos HE.out).symm)
    · intro a W hd hS hdep hfree
      have x30 : a.tmps.getD 30 undef = .bool (((GA && GB) && (same xSrcIpA y6 xSrcBitsA)) && (inB xFirstPortA y10 xLastPortA)) := by have h := hdep 25 30 (by kernel_rfl) rfl; rw [hV.out] at h; exact h
      have x31 : a.tmps.getD 31 undef = onlyIf ((((GA && GB) && (same xSrcIpA y6 xSrcBitsA)) && (inB xFirstPortA y10 xLastPortA)) == true) (.agg #[.int .i64 xPriorityA, .int .i64 xKindA, .int .i64 xSrcIpA, .int .i64 xSrcBitsA, .int .i64 xFirstPortA, .int .i64 xLastPortA, .int .i64 xVlanA, .int .i64 xActionA, .int .i64 xQueueA]) := by have h := hdep 26 31 (by kernel_rfl) rfl; rw [hV.out] at h; exact h
      have x34 : a.tmps.getD 34 undef = onlyIf ((((GA && GB) && (same xSrcIpA y6 xSrcBitsA)) && (inB xFirstPortA y10 xLastPortA)) == true) (.int .i64 y8) := by have h := hdep 29 34 (by kernel_rfl) rfl; rw [hV.out] at h; exact h
      have x36 : a.tmps.getD 36 undef = onlyIf ((((GA && GB) && (same xSrcIpA y6 xSrcBitsA)) && (inB xFirstPortA y10 xLastPortA)) == true) (.int .i64 y2) := by have h := hdep 31 36 (by kernel_rfl) rfl; rw [hV.out] at h; exact h
      clear hd hdep hfree
      rcases (Bool.eq_false_or_eq_true (((((GA && GB) && (same xSrcIpA y6 xSrcBitsA)) && (inB xFirstPortA y10 xLastPortA)) == true))).symm with hE | hE
      · exact .inr ⟨(wanted_sym rfl rfl x30).trans hE, fun _ _ => by rw [hV.out]; exact (onlyIf_neg hE).symm⟩
      refine .inl ⟨(wanted_sym rfl rfl x30).trans hE, ?_⟩
      replace x31 := x31.trans (onlyIf_pos hE)
      replace x34 := x34.trans (onlyIf_pos hE)
      replace x36 := x36.trans (onlyIf_pos hE)
      have hG0 := eq_of_beq hE
      try (have hbits := HBT.out (by revert hE; cases GA <;> simp))
      have HE := Lib.hid hE
      clear hE hG0
      simp only [Oper.wp, execOp]
      go_simp
      refine ((impl_fits ⟨xPriorityA, xKindA, xSrcIpA, xSrcBitsA, xFirstPortA, xLastPortA, xVlanA, xActionA, xQueueA⟩ y8 y2 W)).mono ?_
      rintro e W' ⟨rfl, hb⟩
      exact Nxt.mk _ rfl (fun _ _ => by (rw [hV.out]; exact (onlyIf_pos HE.out).symm)) (below_comp hS hb) (fun j u h => by rw [hV.out] at h ⊢; exact Vals.below hb j u h)
    · intro a W hd hS hdep hfree
      have x30 : a.tmps.getD 30 undef = .bool (((GA && GB) && (same xSrcIpA y6 xSrcBitsA)) && (inB xFirstPortA y10 xLastPortA)) := by have h := hdep 25 30 (by kernel_rfl) rfl; rw [hV.out] at h; exact h
      have x37 : a.tmps.getD 37 undef = onlyIf ((((GA && GB) && (same xSrcIpA y6 xSrcBitsA)) && (inB xFirstPortA y10 xLastPortA)) == true) (.bool (decide (RuleM.Fits ⟨xPriorityA, xKindA, xSrcIpA, xSrcBitsA, xFirstPortA, xLastPortA, xVlanA, xActionA, xQueueA⟩ y8 y2))) := by have h := hdep 32 37 (by kernel_rfl) rfl; rw [hV.out] at h; exact h
      clear hd hdep hfree
      refine .inl ⟨wanted_free rfl, ?_⟩
      rcases (Bool.eq_false_or_eq_true ((((GA && GB) && (same xSrcIpA y6 xSrcBitsA)) && (inB xFirstPortA y10 xLastPortA)))).symm with hX | hX
      · rw [hX] at x30
        replace hX := Lib.hid hX
        simp only [Oper.wp, execOp]
        go_simp
        refine Nxt.mk _ rfl (fun _ _ => ?_) hS (fun _ _ h => h)
        rw [hV.out]; show (_ : Value) = .bool _; rw [hX.out]; rfl
      · have hp : ((((GA && GB) && (same xSrcIpA y6 xSrcBitsA)) && (inB xFirstPortA y10 xLastPortA)) == true) = true := by simp [hX]
        replace x37 := x37.trans (onlyIf_pos hp)
        rw [hX] at x30
        replace hX := Lib.hid hX
        simp only [Oper.wp, execOp]
        go_simp
        refine Nxt.mk _ rfl (fun _ _ => ?_) hS (fun _ _ h => h)
        rw [hV.out]; show (_ : Value) = .bool _; rw [hX.out]; rfl
    · intro a W hd hS hdep hfree
      have x38 : a.tmps.getD 38 undef = .bool ((((GA && GB) && (same xSrcIpA y6 xSrcBitsA)) && (inB xFirstPortA y10 xLastPortA)) && (decide (RuleM.Fits ⟨xPriorityA, xKindA, xSrcIpA, xSrcBitsA, xFirstPortA, xLastPortA, xVlanA, xActionA, xQueueA⟩ y8 y2))) := by have h := hdep 33 38 (by kernel_rfl) rfl; rw [hV.out] at h; exact h
      clear hd hdep hfree
      refine .inl ⟨wanted_free rfl, ?_⟩
      simp only [Oper.wp, execOp]
      go_simp
      refine Nxt.mk _ rfl (fun _ _ => ?_) hS (fun _ _ h => h)
      (rw [hV.out]; rfl)
  intro a W2 hs hd hS2 hdone hrest
  have ea := written_all ((.agg #[.int .i64 xPriorityA, .int .i64 xKindA, .int .i64 xSrcIpA, .int .i64 xSrcBitsA, .int .i64 xFirstPortA, .int .i64 xLastPortA, .int .i64 xVlanA, .int .i64 xActionA, .int .i64 xQueueA] : Value) :: (.bool GA : Value) :: (.bool GA : Value) :: onlyIf (GA == true) (.agg #[.int .i64 y0, .int .i64 y1, .int .i64 y2, .int .i64 y3, .int .i64 y4, .int .i64 y5, .int .i64 y6, .int .i64 y7, .int .i64 y8, .int .i64 y9, .int .i64 y10, .int .i64 y11, .int .i64 y12, .int .i64 y13, .int .i64 y14, .string y15]) :: onlyIf (GA == true) (.bool GB) :: (.bool (GA && GB) : Value) :: (.bool (GA && GB) : Value) :: onlyIf ((GA && GB) == true) (.pointer (some ⟨w.heap.size, 2, none⟩)) :: onlyIf ((GA && GB) == true) (.int .i64 xSrcIpA) :: onlyIf ((GA && GB) == true) (.pointer (some ⟨w.heap.size + 1, 6, none⟩)) :: onlyIf ((GA && GB) == true) (.int .i64 y6) :: onlyIf ((GA && GB) == true) (.pointer (some ⟨w.heap.size, 3, none⟩)) :: onlyIf ((GA && GB) == true) (.int .i64 xSrcBitsA) :: onlyIf ((GA && GB) == true) (.bool (same xSrcIpA y6 xSrcBitsA)) :: (.bool ((GA && GB) && (same xSrcIpA y6 xSrcBitsA)) : Value) :: (.bool ((GA && GB) && (same xSrcIpA y6 xSrcBitsA)) : Value) :: onlyIf (((GA && GB) && (same xSrcIpA y6 xSrcBitsA)) == true) (.pointer (some ⟨w.heap.size + 1, 8, none⟩)) :: onlyIf (((GA && GB) && (same xSrcIpA y6 xSrcBitsA)) == true) (.pointer (some ⟨w.heap.size + 1, 10, none⟩)) :: onlyIf (((GA && GB) && (same xSrcIpA y6 xSrcBitsA)) == true) (.int .i64 y10) :: onlyIf (((GA && GB) && (same xSrcIpA y6 xSrcBitsA)) == true) (.pointer (some ⟨w.heap.size, 4, none⟩)) :: onlyIf (((GA && GB) && (same xSrcIpA y6 xSrcBitsA)) == true) (.int .i64 xFirstPortA) :: onlyIf (((GA && GB) && (same xSrcIpA y6 xSrcBitsA)) == true) (.pointer (some ⟨w.heap.size, 5, none⟩)) :: onlyIf (((GA && GB) && (same xSrcIpA y6 xSrcBitsA)) == true) (.int .i64 xLastPortA) :: onlyIf (((GA && GB) && (same xSrcIpA y6 xSrcBitsA)) == true) (.bool (inB xFirstPortA y10 xLastPortA)) :: (.bool (((GA && GB) && (same xSrcIpA y6 xSrcBitsA)) && (inB xFirstPortA y10 xLastPortA)) : Value) :: (.bool (((GA && GB) && (same xSrcIpA y6 xSrcBitsA)) && (inB xFirstPortA y10 xLastPortA)) : Value) :: onlyIf ((((GA && GB) && (same xSrcIpA y6 xSrcBitsA)) && (inB xFirstPortA y10 xLastPortA)) == true) (.agg #[.int .i64 xPriorityA, .int .i64 xKindA, .int .i64 xSrcIpA, .int .i64 xSrcBitsA, .int .i64 xFirstPortA, .int .i64 xLastPortA, .int .i64 xVlanA, .int .i64 xActionA, .int .i64 xQueueA]) :: onlyIf ((((GA && GB) && (same xSrcIpA y6 xSrcBitsA)) && (inB xFirstPortA y10 xLastPortA)) == true) (.pointer (some ⟨w.heap.size + 1, 8, none⟩)) :: onlyIf ((((GA && GB) && (same xSrcIpA y6 xSrcBitsA)) && (inB xFirstPortA y10 xLastPortA)) == true) (.pointer (some ⟨w.heap.size + 1, 8, none⟩)) :: onlyIf ((((GA && GB) && (same xSrcIpA y6 xSrcBitsA)) && (inB xFirstPortA y10 xLastPortA)) == true) (.int .i64 y8) :: onlyIf ((((GA && GB) && (same xSrcIpA y6 xSrcBitsA)) && (inB xFirstPortA y10 xLastPortA)) == true) (.pointer (some ⟨w.heap.size + 1, 2, none⟩)) :: onlyIf ((((GA && GB) && (same xSrcIpA y6 xSrcBitsA)) && (inB xFirstPortA y10 xLastPortA)) == true) (.int .i64 y2) :: onlyIf ((((GA && GB) && (same xSrcIpA y6 xSrcBitsA)) && (inB xFirstPortA y10 xLastPortA)) == true) (.bool (decide (RuleM.Fits ⟨xPriorityA, xKindA, xSrcIpA, xSrcBitsA, xFirstPortA, xLastPortA, xVlanA, xActionA, xQueueA⟩ y8 y2))) :: (.bool ((((GA && GB) && (same xSrcIpA y6 xSrcBitsA)) && (inB xFirstPortA y10 xLastPortA)) && (decide (RuleM.Fits ⟨xPriorityA, xKindA, xSrcIpA, xSrcBitsA, xFirstPortA, xLastPortA, xVlanA, xActionA, xQueueA⟩ y8 y2))) : Value) :: (.bool ((((GA && GB) && (same xSrcIpA y6 xSrcBitsA)) && (inB xFirstPortA y10 xLastPortA)) && (decide (RuleM.Fits ⟨xPriorityA, xKindA, xSrcIpA, xSrcBitsA, xFirstPortA, xLastPortA, xVlanA, xActionA, xQueueA⟩ y8 y2))) : Value) :: ([] : List Value)) rfl hs hd hrest (fun j d hj => by have h := hdone j d hj; rw [hV.out] at h; exact h)
  clear hs hd hdone hrest hV V
  subst ea
  simp only [written, List.append_eq, Array.toList_append, List.append_toArray, List.map_append, List.cons_append, List.nil_append, List.map_cons, List.map_nil, List.zip_cons_cons, List.zip_nil_right, putAll]
  simp only [Exit.then, Act.put, List.setIfInBounds_toArray, List.set_cons_zero, List.set_cons_succ]
  have HF : Hid ((((((GA && GB) && (same xSrcIpA y6 xSrcBitsA)) && (inB xFirstPortA y10 xLastPortA)) && (decide (RuleM.Fits ⟨xPriorityA, xKindA, xSrcIpA, xSrcBitsA, xFirstPortA, xLastPortA, xVlanA, xActionA, xQueueA⟩ y8 y2)))) = B) := Lib.hid (by
    rw [HB.out]
    generalize decide (RuleM.Fits _ _ _) = X
    generalize same _ _ _ = Y
    generalize inB _ _ _ = Z
    cases GA <;> cases GB <;> cases X <;> cases Y <;> cases Z <;> rfl)
  rw [HF.out]
  go_wp2
  go_ret
  exact ⟨rfl, below_comp hb1 hS2⟩

end Go.Proofs.Ytogiocinhjbdkaa
