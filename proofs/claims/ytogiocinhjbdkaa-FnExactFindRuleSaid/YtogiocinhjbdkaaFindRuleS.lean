/- FindRule of both sides. -/
import Derived.Test.YtogiocinhjbdkaaRulesB
import Derived.Test.YtogiocinhjbdkaaMatchB
import Derived.Test.YtogiocinhjbdkaaOwnRow
import Derived.Deep.RegionWith
import Derived.Deep.DeepCutAuto
namespace Go.Proofs.Ytogiocinhjbdkaa
open Go.RowKit
set_option linter.unusedSimpArgs false
set_option linter.unusedVariables false

def frPrio (l : List RuleM) (b : Int) : Int := match l[b.toNat]? with | some e => e.xPriority | none => 0
def frB (l : List RuleM) (p : PktM) (b : Int) (k : Nat) : Bool := match l[k]? with | some e => e.Matches p && (decide (b < 0) || decide (e.xPriority < frPrio l b)) | none => false
def frU (l : List RuleM) (p : PktM) : Nat → Int
  | 0 => -1
  | k + 1 => if frB l p (frU l p k) k = true then (k : Int) else frU l p k
theorem frU_bd (l : List RuleM) (p : PktM) (k : Nat) : -1 ≤ frU l p k ∧ frU l p k < k := by
  induction k with
  | zero => simp [frU]
  | succ k ih => unfold frU; split <;> omega
theorem frU_step (l : List RuleM) (p : PktM) (k : Nat) : frU l p (k + 1) = if frB l p (frU l p k) k = true then (k : Int) else frU l p k := rfl
def findRule (l : List RuleM) (p : PktM) : Int := if rulesOk l = true then frU l p l.length else -1
theorem frB_at {l : List RuleM} {p : PktM} {b : Int} {k : Nat} (h : k < l.length) : frB l p b k = (l[k].Matches p && (decide (b < 0) || decide (l[k].xPriority < frPrio l b))) := by unfold frB; rw [List.getElem?_eq_getElem h]
theorem frPrio_at {l : List RuleM} {j : Nat} (h : j < l.length) : frPrio l (j : Int) = l[j].xPriority := by unfold frPrio; rw [Int.toNat_natCast, List.getElem?_eq_getElem h]

set_option maxHeartbeats 4000000 in
set_option maxRecDepth 100000 in
theorem spec_findrule (v : Value) (S : Nat → Prop) (l : List RuleM) (p : PktM) (w : World) (hn : l.length ≤ 2097152) (R : Row w S 127 9 v (l.map RuleM.arr)) :
    Calls Try.prog 29 #[v, p.val] w fun e w' => e = .returned (.int .i64 (findRule l p)) ∧ Below w.heap.size w w' := by
  have HRO := Lib.hid fun W (h : Below w.heap.size w W) => spec_rulesok v S l W hn (R.later h)
  have HM := Lib.hid fun (e : RuleM) W => spec_matches e p W
  obtain ⟨a, g, c, rfl, hV, _⟩ := R.open
  rw [List.length_map] at HRO ⊢
  have HV := Lib.hid hV
  clear R hV
  obtain ⟨C, hC, hCs⟩ : ∃ C : Array Value, p.val = .agg C ∧ C.size = 16 := ⟨_, rfl, rfl⟩
  rw [hC] at HM ⊢
  have HCS := Lib.hid hCs
  clear hC hCs
  obtain ⟨r, hr⟩ : ∃ r, findRule l p = r := ⟨_, rfl⟩
  rw [hr]
  have HR := Lib.hid hr
  clear hr
  obtain ⟨n, hl⟩ : ∃ n, n = l.length := ⟨_, rfl⟩
  rw [← hl] at hn HRO ⊢
  have HL := Lib.hid hl
  clear hl
  obtain ⟨G, hG⟩ : ∃ G, rulesOk l = G := ⟨_, rfl⟩
  rw [hG] at HRO
  have HG := Lib.hid hG
  clear hG
  rcases G with _ | _
  · obtain rfl : -1 = r := (if_neg (by rw [HG.out]; decide)).symm.trans HR.out
    go_enter Try.func29, Try.ntmps29
    go_upto_region 1 with fail
    obtain ⟨w1, hw_⟩ : ∃ x, x = w.alloc (.cells C 45) := ⟨_, rfl⟩
    have HB1 : Hid (Below w.heap.size w w1) := Lib.hid (hw_ ▸ below_new _)
    have HP1 : Hid (Box w1 w.heap.size C 45) := Lib.hid (hw_ ▸ Box.new _ _ _)
    rw [← hw_]
    clear hw_
    go_wp2
    go_loopw [5, 6] (fun b i wr => b = .int .i64 (-1) ∧ i = .int .i64 0 ∧ Hid (Box wr w.heap.size C 45) ∧ Hid (Below w.heap.size w wr)) (fun _ _ _ => 0)
    case atStart => exact ⟨rfl, rfl, HP1, HB1⟩
    case round =>
      clear HP1 HB1
      obtain ⟨rfl, rfl, HP, HB1⟩ := hrel
      by_cases h0 : n = 0
      · subst h0
        go_wp2
        go_ret
        exact ⟨rfl, HB1.out⟩
      · have h1 : 0 < n := by omega
        have h2 : (0 : Int) < (n : Int) := by omega
        go_wp2_with (go_at_call 24; refine (HRO.out _ (by repeat (first | with_reducible exact Below.refl _ _ | with_reducible exact below_new _ | with_reducible exact below_drew | with_reducible exact HB9.out | with_reducible exact HB8.out | with_reducible exact HB7.out | with_reducible exact HB6.out | with_reducible exact HB5.out | with_reducible exact HB4.out | with_reducible exact HB3.out | with_reducible exact HB2.out | with_reducible exact HB1.out | ((with_reducible refine Below.setCell ?_ ?_ _); rotate_left; first | omega | (dsimp only; omega) | (simp; done) | (simp; omega)) | ((with_reducible refine below_setRow ?_ ?_ _); rotate_left; first | omega | (dsimp only; omega) | (simp; done) | (simp; omega)) | (with_reducible apply below_comp; rotate_left; first | with_reducible exact HB9.out | with_reducible exact HB8.out | with_reducible exact HB7.out | with_reducible exact HB6.out | with_reducible exact HB5.out | with_reducible exact HB4.out | with_reducible exact HB3.out | with_reducible exact HB2.out | with_reducible exact HB1.out | with_reducible assumption | with_reducible exact below_new _ | with_reducible exact below_drew)))).mono ?_; rintro e_ w2 ⟨rfl, hb2⟩; have HB2 := Lib.hid hb2; have HP2 := Lib.hid (HP.out.later hb2); clear hb2)
        go_ret
        exact ⟨rfl, below_comp HB1.out HB2.out⟩
  have HRU : Hid (frU l p n = r) := Lib.hid (by rw [HL.out]; exact (if_pos HG.out).symm.trans HR.out)
  clear HR HG
  have HBD := Lib.hid fun k => frU_bd l p k
  go_enter Try.func29, Try.ntmps29
  go_upto_region 1 with fail
  obtain ⟨w1, hw_⟩ : ∃ x, x = w.alloc (.cells C 45) := ⟨_, rfl⟩
  have HB1 : Hid (Below w.heap.size w w1) := Lib.hid (hw_ ▸ below_new _)
  have HP1 : Hid (Box w1 w.heap.size C 45) := Lib.hid (hw_ ▸ Box.new _ _ _)
  rw [← hw_]
  clear hw_
  go_wp2
  go_loopw [5, 6] (fun b i wr => ∃ k : Nat, k ≤ n ∧ i = .int .i64 k ∧ b = .int .i64 (frU l p k) ∧ Hid (Box wr w.heap.size C 45) ∧ Hid (Below w.heap.size w wr)) (fun _ i _ => n + 1 - (intOf i).toNat)
  case atStart => exact ⟨0, by omega, rfl, rfl, HP1, HB1⟩
  case round =>
    clear HP1 HB1
    obtain ⟨k, hk, rfl, rfl, HP, HB1⟩ := hrel
    by_cases hlt : k < n
    · have hk' : k < l.length := by have := HL.out; omega
      have e1 : (k : Int) < (n : Int) := by omega
      have e0 : (0 : Int) ≤ (k : Int) := by omega
      have hbd := HBD.out k
      obtain ⟨b, hb⟩ : ∃ b, b = frU l p k := ⟨_, rfl⟩
      have HST : Hid (frU l p (k + 1) = if (l[k].Matches p && (decide (b < 0) || decide (l[k].xPriority < frPrio l b))) = true then (k : Int) else b) := Lib.hid (by rw [frU_step, ← hb, frB_at hk'])
      rw [← hb] at hbd ⊢
      clear hb
      have hne : l.map RuleM.arr ≠ [] := fun e => by simp at e; rw [e] at hk'; simp at hk'
      obtain ⟨ea, eg⟩ := HV.out.1 hne
      subst ea
      have HC : Hid (∀ W, Below w.heap.size w W → W.rangeAt g (k * 9) l[k].arr.toList) := Lib.hid fun W hW j u hu => by
        have hj : j < 9 := (List.getElem?_eq_some_iff.1 hu).1
        rw [(HV.out.later hW).2 k l[k].arr (by simp [hk']) j hj]; simpa using hu
      have HPR : Hid (∀ j, j < n → (hj : j < l.length) → ∀ W, Below w.heap.size w W → W.cell? ⟨g, j * 9, none⟩ = some (.int .i64 l[j].xPriority)) := Lib.hid fun j _ hj W hW => by
        have := (HV.out.later hW).2 j l[j].arr (by simp [hj]) 0 (by omega)
        simpa [RuleM.arr] using this
      clear hne
      have HPB : Hid (0 ≤ b → ∀ W, Below w.heap.size w W → W.cell? ⟨g, b.toNat * 9, none⟩ = some (.int .i64 (frPrio l b))) := Lib.hid fun h0 W hW => by
        obtain ⟨j, rfl⟩ : ∃ j : Nat, b = j := ⟨b.toNat, by omega⟩
        have hj : j < l.length := by omega
        rw [Int.toNat_natCast, frPrio_at hj]
        exact HPR.out j (by omega) hj W hW
      have HPK := Lib.hid (HPR.out k hlt hk')
      have HE := Lib.hid fun W => HM.out l[k] W
      have LD : ∀ (op : Oper) (b : Act) (W : World) (K : Act → World → Prop) (Q : Exit → Act → World → Prop) (ty : TypeId) (xx : Operand) (ho : op.op = .load ty xx), Below w.heap.size w W → ty = 127 → b.eval xx = .pointer (some ⟨g, k * 9, none⟩) → K (b.put op.dst l[k].val) W → op.wp Try.prog b W K Q := fun op b W K Q ty xx ho hW ht hx h => by
        subst ht
        exact wp_load_mid _ xx ho g (k * 9) hx l[k].arr.toList _ (HC.out W hW) Try.underlying127 rfl (by kernel_rfl) (by simpa [RuleM.val_arr] using h)
      have HLD := Lib.hid LD
      clear LD HC
      generalize frPrio l b = PB at HPB HST
      generalize l[k].Matches p = M at HE HST
      generalize l[k].xPriority = PR at HPK HST
      generalize l[k].val = ev at HE HLD
      clear HPR
      go_upto_region 5 with (go_at_call 24; refine (HRO.out _ (by repeat (first | with_reducible exact Below.refl _ _ | with_reducible exact below_new _ | with_reducible exact below_drew | with_reducible exact HB9.out | with_reducible exact HB8.out | with_reducible exact HB7.out | with_reducible exact HB6.out | with_reducible exact HB5.out | with_reducible exact HB4.out | with_reducible exact HB3.out | with_reducible exact HB2.out | with_reducible exact HB1.out | ((with_reducible refine Below.setCell ?_ ?_ _); rotate_left; first | omega | (dsimp only; omega) | (simp; done) | (simp; omega)) | ((with_reducible refine below_setRow ?_ ?_ _); rotate_left; first | omega | (dsimp only; omega) | (simp; done) | (simp; omega)) | (with_reducible apply below_comp; rotate_left; first | with_reducible exact HB9.out | with_reducible exact HB8.out | with_reducible exact HB7.out | with_reducible exact HB6.out | with_reducible exact HB5.out | with_reducible exact HB4.out | with_reducible exact HB3.out | with_reducible exact HB2.out | with_reducible exact HB1.out | with_reducible assumption | with_reducible exact below_new _ | with_reducible exact below_drew)))).mono ?_; rintro e_ w2 ⟨rfl, hb2⟩; have HB2 := Lib.hid hb2; have HP2 := Lib.hid (HP.out.later hb2); clear hb2)
      have HBA := Lib.hid (below_comp HB1.out HB2.out)
      have hlp : w.heap.size < w2.heap.size := HP2.out.lt

      obtain ⟨V, hV⟩ : ∃ V, Hid (V = Vals [.slice (some ⟨g, 0, none⟩) n c, .int .i64 (k : Int), .pointer (some ⟨g, k * 9, none⟩), ev, .agg C, .bool M, .bool M, onlyIf (M == true) (.int .i64 b), onlyIf (M == true) (.bool (decide (b < 0))), onlyIf (M == true) (.bool (decide (b < 0))), onlyIf ((M == true) && ((decide (b < 0)) == false)) (.slice (some ⟨g, 0, none⟩) n c), onlyIf ((M == true) && ((decide (b < 0)) == false)) (.int .i64 (k : Int)), onlyIf ((M == true) && ((decide (b < 0)) == false)) (.pointer (some ⟨g, k * 9, none⟩)), onlyIf ((M == true) && ((decide (b < 0)) == false)) (.pointer (some ⟨g, k * 9, none⟩)), onlyIf ((M == true) && ((decide (b < 0)) == false)) (.int .i64 PR), onlyIf ((M == true) && ((decide (b < 0)) == false)) (.slice (some ⟨g, 0, none⟩) n c), onlyIf ((M == true) && ((decide (b < 0)) == false)) (.int .i64 b), onlyIf ((M == true) && ((decide (b < 0)) == false)) (.pointer (some ⟨g, b.toNat * 9, none⟩)), onlyIf ((M == true) && ((decide (b < 0)) == false)) (.pointer (some ⟨g, b.toNat * 9, none⟩)), onlyIf ((M == true) && ((decide (b < 0)) == false)) (.int .i64 PB), onlyIf ((M == true) && ((decide (b < 0)) == false)) (.bool (decide (PR < PB))), onlyIf (M == true) (.bool ((decide (b < 0)) || (decide (PR < PB)))), .bool (M && ((decide (b < 0)) || (decide (PR < PB))))] []) := ⟨_, Lib.hid rfl⟩
      refine wp_region_valuesG (by kernel_rfl) (fun W => Below w2.heap.size w2 W) V
        42 rfl (by kernel_rfl) (by kernel_rfl) below_drew (eachOp_all ?_) ?_
      · refine ⟨?_, ?_, ?_, ?_, ?_, ?_, ?_, ?_, ?_, ?_, ?_, ?_, ?_, ?_, ?_, ?_, ?_, ?_, ?_, ?_, ?_, ?_, ?_, trivial⟩
        · intro a W hd hS hdep hfree
          have x0 : a.tmps.getD 0 undef = .slice (some ⟨g, 0, none⟩) n c := hfree 0 (by kernel_rfl)
          clear hd hdep hfree
          refine .inl ⟨wanted_free rfl, ?_⟩
          simp only [Oper.wp, execOp]
          go_simp
          refine Nxt.mk _ rfl (fun _ _ => ?_) hS (fun _ _ h => h)
          (rw [hV.out]; rfl)
        · intro a W hd hS hdep hfree
          have x6 : a.tmps.getD 6 undef = .int .i64 (k : Int) := hfree 6 (by kernel_rfl)
          clear hd hdep hfree
          refine .inl ⟨wanted_free rfl, ?_⟩
          simp only [Oper.wp, execOp]
          go_simp
          refine Nxt.mk _ rfl (fun _ _ => ?_) hS (fun _ _ h => h)
          (rw [hV.out]; rfl)
        · intro a W hd hS hdep hfree
          have x17 : a.tmps.getD 17 undef = .slice (some ⟨g, 0, none⟩) n c := by have h := hdep 0 17 (by kernel_rfl) rfl; rw [hV.out] at h; exact h
          have x18 : a.tmps.getD 18 undef = .int .i64 (k : Int) := by have h := hdep 1 18 (by kernel_rfl) rfl; rw [hV.out] at h; exact h
          clear hd hdep hfree
          refine .inl ⟨wanted_free rfl, ?_⟩
          simp only [Oper.wp, execOp]
          go_simp
          refine Nxt.mk _ rfl (fun _ _ => ?_) hS (fun _ _ h => h)
          (rw [hV.out]; rfl)
        · intro a W hd hS hdep hfree
          have x19 : a.tmps.getD 19 undef = .pointer (some ⟨g, k * 9, none⟩) := by have h := hdep 2 19 (by kernel_rfl) rfl; rw [hV.out] at h; exact h
          clear hd hdep hfree
          refine .inl ⟨wanted_free rfl, ?_⟩
          refine HLD.out _ _ _ _ _ _ (.tmp 19) rfl (below_comp HBA.out hS) rfl (by simpa [Act.eval] using x19) ?_
          refine Nxt.mk _ rfl (fun _ _ => ?_) hS (fun _ _ h => h)
          (rw [hV.out]; rfl)
        · intro a W hd hS hdep hfree
          have x3 : a.tmps.getD 3 undef = .pointer (some ⟨w.heap.size, 0, none⟩) := hfree 3 (by kernel_rfl)
          clear hd hdep hfree
          refine .inl ⟨wanted_free rfl, ?_⟩
          refine wp_load_row (P := Try.prog) 45 (.tmp 3) rfl (w.heap.size) x3 45 C (0, 0) _ (HP2.out.below hS hlp) Try.underlying45 rfl (by rw [HCS.out]; kernel_rfl) ?_
          refine Nxt.mk _ rfl (fun _ _ => ?_) hS (fun _ _ h => h)
          (rw [hV.out]; rfl)
        · intro a W hd hS hdep hfree
          have x20 : a.tmps.getD 20 undef = ev := by have h := hdep 3 20 (by kernel_rfl) rfl; rw [hV.out] at h; exact h
          have x21 : a.tmps.getD 21 undef = .agg C := by have h := hdep 4 21 (by kernel_rfl) rfl; rw [hV.out] at h; exact h
          clear hd hdep hfree
          refine .inl ⟨wanted_free rfl, ?_⟩
          simp only [Oper.wp, execOp]
          go_simp
          refine ((HE.out W)).mono ?_
          rintro e W' ⟨rfl, hb⟩
          exact Nxt.mk _ rfl (fun _ _ => by (rw [hV.out]; rfl)) (below_comp hS hb) (fun j u h => by rw [hV.out] at h ⊢; exact Vals.below hb j u h)
        · intro a W hd hS hdep hfree
          have x22 : a.tmps.getD 22 undef = .bool M := by have h := hdep 5 22 (by kernel_rfl) rfl; rw [hV.out] at h; exact h
          clear hd hdep hfree
          refine .inl ⟨wanted_free rfl, ?_⟩
          simp only [Oper.wp, execOp]
          go_simp
          refine Nxt.mk _ rfl (fun _ _ => ?_) hS (fun _ _ h => h)
          (rw [hV.out]; rfl)
        · intro a W hd hS hdep hfree
          have x23 : a.tmps.getD 23 undef = .bool M := by have h := hdep 6 23 (by kernel_rfl) rfl; rw [hV.out] at h; exact h
          have x5 : a.tmps.getD 5 undef = .int .i64 b := hfree 5 (by kernel_rfl)
          clear hd hdep hfree
          rcases (Bool.eq_false_or_eq_true ((M == true))).symm with hE | hE
          · exact .inr ⟨(wanted_sym rfl rfl x23).trans hE, fun _ _ => by rw [hV.out]; exact (onlyIf_neg hE).symm⟩
          refine .inl ⟨(wanted_sym rfl rfl x23).trans hE, ?_⟩
          have hG0 := eq_of_beq hE
          have HE := Lib.hid hE
          clear hE hG0
          simp only [Oper.wp, execOp]
          go_simp
          refine Nxt.mk _ rfl (fun _ _ => ?_) hS (fun _ _ h => h)
          (rw [hV.out]; exact (onlyIf_pos HE.out).symm)
        · intro a W hd hS hdep hfree
          have x23 : a.tmps.getD 23 undef = .bool M := by have h := hdep 6 23 (by kernel_rfl) rfl; rw [hV.out] at h; exact h
          have x24 : a.tmps.getD 24 undef = onlyIf (M == true) (.int .i64 b) := by have h := hdep 7 24 (by kernel_rfl) rfl; rw [hV.out] at h; exact h
          clear hd hdep hfree
          rcases (Bool.eq_false_or_eq_true ((M == true))).symm with hE | hE
          · exact .inr ⟨(wanted_sym rfl rfl x23).trans hE, fun _ _ => by rw [hV.out]; exact (onlyIf_neg hE).symm⟩
          refine .inl ⟨(wanted_sym rfl rfl x23).trans hE, ?_⟩
          replace x24 := x24.trans (onlyIf_pos hE)
          have hG0 := eq_of_beq hE
          have HE := Lib.hid hE
          clear hE hG0
          simp only [Oper.wp, execOp]
          go_simp
          refine Nxt.mk _ rfl (fun _ _ => ?_) hS (fun _ _ h => h)
          rw [hV.out]; first | exact (onlyIf_pos HE.out).symm | (show (_ : Value) = onlyIf _ _; rw [onlyIf_pos HE.out]; simp)
        · intro a W hd hS hdep hfree
          have x23 : a.tmps.getD 23 undef = .bool M := by have h := hdep 6 23 (by kernel_rfl) rfl; rw [hV.out] at h; exact h
          have x25 : a.tmps.getD 25 undef = onlyIf (M == true) (.bool (decide (b < 0))) := by have h := hdep 8 25 (by kernel_rfl) rfl; rw [hV.out] at h; exact h
          clear hd hdep hfree
          rcases (Bool.eq_false_or_eq_true ((M == true))).symm with hE | hE
          · exact .inr ⟨(wanted_sym rfl rfl x23).trans hE, fun _ _ => by rw [hV.out]; exact (onlyIf_neg hE).symm⟩
          refine .inl ⟨(wanted_sym rfl rfl x23).trans hE, ?_⟩
          replace x25 := x25.trans (onlyIf_pos hE)
          have hG0 := eq_of_beq hE
          have HE := Lib.hid hE
          clear hE hG0
          simp only [Oper.wp, execOp]
          go_simp
          refine Nxt.mk _ rfl (fun _ _ => ?_) hS (fun _ _ h => h)
          (rw [hV.out]; exact (onlyIf_pos HE.out).symm)
        · intro a W hd hS hdep hfree
          have x26 : a.tmps.getD 26 undef = onlyIf (M == true) (.bool (decide (b < 0))) := by have h := hdep 9 26 (by kernel_rfl) rfl; rw [hV.out] at h; exact h
          have x0 : a.tmps.getD 0 undef = .slice (some ⟨g, 0, none⟩) n c := hfree 0 (by kernel_rfl)
          clear hd hdep hfree
          rcases (Bool.eq_false_or_eq_true (((M == true) && ((decide (b < 0)) == false)))).symm with hE | hE
          · exact .inr ⟨(wanted_cond rfl rfl x26).trans hE, fun _ _ => by rw [hV.out]; exact (onlyIf_neg hE).symm⟩
          refine .inl ⟨(wanted_cond rfl rfl x26).trans hE, ?_⟩
          have hC1 : (M == true) = true := and_l hE
          replace x26 := x26.trans (onlyIf_pos hC1)
          have hG0 := eq_of_beq hC1
          have hG1 := eq_of_beq (and_r hE)
          have HE := Lib.hid hE
          clear hE hC1 hG0 hG1
          simp only [Oper.wp, execOp]
          go_simp
          refine Nxt.mk _ rfl (fun _ _ => ?_) hS (fun _ _ h => h)
          (rw [hV.out]; exact (onlyIf_pos HE.out).symm)
        · intro a W hd hS hdep hfree
          have x26 : a.tmps.getD 26 undef = onlyIf (M == true) (.bool (decide (b < 0))) := by have h := hdep 9 26 (by kernel_rfl) rfl; rw [hV.out] at h; exact h
          have x6 : a.tmps.getD 6 undef = .int .i64 (k : Int) := hfree 6 (by kernel_rfl)
          clear hd hdep hfree
          rcases (Bool.eq_false_or_eq_true (((M == true) && ((decide (b < 0)) == false)))).symm with hE | hE
          · exact .inr ⟨(wanted_cond rfl rfl x26).trans hE, fun _ _ => by rw [hV.out]; exact (onlyIf_neg hE).symm⟩
          refine .inl ⟨(wanted_cond rfl rfl x26).trans hE, ?_⟩
          have hC1 : (M == true) = true := and_l hE
          replace x26 := x26.trans (onlyIf_pos hC1)
          have hG0 := eq_of_beq hC1
          have hG1 := eq_of_beq (and_r hE)
          have HE := Lib.hid hE
          clear hE hC1 hG0 hG1
          simp only [Oper.wp, execOp]
          go_simp
          refine Nxt.mk _ rfl (fun _ _ => ?_) hS (fun _ _ h => h)
          (rw [hV.out]; exact (onlyIf_pos HE.out).symm)
        · intro a W hd hS hdep hfree
          have x26 : a.tmps.getD 26 undef = onlyIf (M == true) (.bool (decide (b < 0))) := by have h := hdep 9 26 (by kernel_rfl) rfl; rw [hV.out] at h; exact h
          have x27 : a.tmps.getD 27 undef = onlyIf ((M == true) && ((decide (b < 0)) == false)) (.slice (some ⟨g, 0, none⟩) n c) := by have h := hdep 10 27 (by kernel_rfl) rfl; rw [hV.out] at h; exact h
          have x28 : a.tmps.getD 28 undef = onlyIf ((M == true) && ((decide (b < 0)) == false)) (.int .i64 (k : Int)) := by have h := hdep 11 28 (by kernel_rfl) rfl; rw [hV.out] at h; exact h
          clear hd hdep hfree
          rcases (Bool.eq_false_or_eq_true (((M == true) && ((decide (b < 0)) == false)))).symm with hE | hE
          · exact .inr ⟨(wanted_cond rfl rfl x26).trans hE, fun _ _ => by rw [hV.out]; exact (onlyIf_neg hE).symm⟩
          refine .inl ⟨(wanted_cond rfl rfl x26).trans hE, ?_⟩
          have hC1 : (M == true) = true := and_l hE
          replace x26 := x26.trans (onlyIf_pos hC1)
          replace x27 := x27.trans (onlyIf_pos hE)
          replace x28 := x28.trans (onlyIf_pos hE)
          have hG0 := eq_of_beq hC1
          have hG1 := eq_of_beq (and_r hE)
          have HE := Lib.hid hE
          clear hE hC1 hG0 hG1
          simp only [Oper.wp, execOp]
          go_simp
          refine Nxt.mk _ rfl (fun _ _ => ?_) hS (fun _ _ h => h)
          (rw [hV.out]; exact (onlyIf_pos HE.out).symm)
        · intro a W hd hS hdep hfree
          have x26 : a.tmps.getD 26 undef = onlyIf (M == true) (.bool (decide (b < 0))) := by have h := hdep 9 26 (by kernel_rfl) rfl; rw [hV.out] at h; exact h
          have x29 : a.tmps.getD 29 undef = onlyIf ((M == true) && ((decide (b < 0)) == false)) (.pointer (some ⟨g, k * 9, none⟩)) := by have h := hdep 12 29 (by kernel_rfl) rfl; rw [hV.out] at h; exact h
          clear hd hdep hfree
          rcases (Bool.eq_false_or_eq_true (((M == true) && ((decide (b < 0)) == false)))).symm with hE | hE
          · exact .inr ⟨(wanted_cond rfl rfl x26).trans hE, fun _ _ => by rw [hV.out]; exact (onlyIf_neg hE).symm⟩
          refine .inl ⟨(wanted_cond rfl rfl x26).trans hE, ?_⟩
          have hC1 : (M == true) = true := and_l hE
          replace x26 := x26.trans (onlyIf_pos hC1)
          replace x29 := x29.trans (onlyIf_pos hE)
          have hG0 := eq_of_beq hC1
          have hG1 := eq_of_beq (and_r hE)
          have HE := Lib.hid hE
          clear hE hC1 hG0 hG1
          simp only [Oper.wp, execOp]
          go_simp
          refine Nxt.mk _ rfl (fun _ _ => ?_) hS (fun _ _ h => h)
          (rw [hV.out]; exact (onlyIf_pos HE.out).symm)
        · intro a W hd hS hdep hfree
          have x26 : a.tmps.getD 26 undef = onlyIf (M == true) (.bool (decide (b < 0))) := by have h := hdep 9 26 (by kernel_rfl) rfl; rw [hV.out] at h; exact h
          have x30 : a.tmps.getD 30 undef = onlyIf ((M == true) && ((decide (b < 0)) == false)) (.pointer (some ⟨g, k * 9, none⟩)) := by have h := hdep 13 30 (by kernel_rfl) rfl; rw [hV.out] at h; exact h
          clear hd hdep hfree
          rcases (Bool.eq_false_or_eq_true (((M == true) && ((decide (b < 0)) == false)))).symm with hE | hE
          · exact .inr ⟨(wanted_cond rfl rfl x26).trans hE, fun _ _ => by rw [hV.out]; exact (onlyIf_neg hE).symm⟩
          refine .inl ⟨(wanted_cond rfl rfl x26).trans hE, ?_⟩
          have hC1 : (M == true) = true := and_l hE
          replace x26 := x26.trans (onlyIf_pos hC1)
          replace x30 := x30.trans (onlyIf_pos hE)
          have hG0 := eq_of_beq hC1
          have hG1 := eq_of_beq (and_r hE)
          have HE := Lib.hid hE
          clear hE hC1 hG0 hG1
          have cc := HPK.out W (below_comp HBA.out hS)
          simp only [Oper.wp, execOp]
          go_simp
          refine Nxt.mk _ rfl (fun _ _ => ?_) hS (fun _ _ h => h)
          (rw [hV.out]; exact (onlyIf_pos HE.out).symm)
        · intro a W hd hS hdep hfree
          have x26 : a.tmps.getD 26 undef = onlyIf (M == true) (.bool (decide (b < 0))) := by have h := hdep 9 26 (by kernel_rfl) rfl; rw [hV.out] at h; exact h
          have x0 : a.tmps.getD 0 undef = .slice (some ⟨g, 0, none⟩) n c := hfree 0 (by kernel_rfl)
          clear hd hdep hfree
          rcases (Bool.eq_false_or_eq_true (((M == true) && ((decide (b < 0)) == false)))).symm with hE | hE
          · exact .inr ⟨(wanted_cond rfl rfl x26).trans hE, fun _ _ => by rw [hV.out]; exact (onlyIf_neg hE).symm⟩
          refine .inl ⟨(wanted_cond rfl rfl x26).trans hE, ?_⟩
          have hC1 : (M == true) = true := and_l hE
          replace x26 := x26.trans (onlyIf_pos hC1)
          have hG0 := eq_of_beq hC1
          have hG1 := eq_of_beq (and_r hE)
          have HE := Lib.hid hE
          clear hE hC1 hG0 hG1
          simp only [Oper.wp, execOp]
          go_simp
          refine Nxt.mk _ rfl (fun _ _ => ?_) hS (fun _ _ h => h)
          (rw [hV.out]; exact (onlyIf_pos HE.out).symm)
        · intro a W hd hS hdep hfree
          have x26 : a.tmps.getD 26 undef = onlyIf (M == true) (.bool (decide (b < 0))) := by have h := hdep 9 26 (by kernel_rfl) rfl; rw [hV.out] at h; exact h
          have x5 : a.tmps.getD 5 undef = .int .i64 b := hfree 5 (by kernel_rfl)
          clear hd hdep hfree
          rcases (Bool.eq_false_or_eq_true (((M == true) && ((decide (b < 0)) == false)))).symm with hE | hE
          · exact .inr ⟨(wanted_cond rfl rfl x26).trans hE, fun _ _ => by rw [hV.out]; exact (onlyIf_neg hE).symm⟩
          refine .inl ⟨(wanted_cond rfl rfl x26).trans hE, ?_⟩
          have hC1 : (M == true) = true := and_l hE
          replace x26 := x26.trans (onlyIf_pos hC1)
          have hG0 := eq_of_beq hC1
          have hG1 := eq_of_beq (and_r hE)
          have HE := Lib.hid hE
          clear hE hC1 hG0 hG1
          simp only [Oper.wp, execOp]
          go_simp
          refine Nxt.mk _ rfl (fun _ _ => ?_) hS (fun _ _ h => h)
          (rw [hV.out]; exact (onlyIf_pos HE.out).symm)
        · intro a W hd hS hdep hfree
          have x26 : a.tmps.getD 26 undef = onlyIf (M == true) (.bool (decide (b < 0))) := by have h := hdep 9 26 (by kernel_rfl) rfl; rw [hV.out] at h; exact h
          have x32 : a.tmps.getD 32 undef = onlyIf ((M == true) && ((decide (b < 0)) == false)) (.slice (some ⟨g, 0, none⟩) n c) := by have h := hdep 15 32 (by kernel_rfl) rfl; rw [hV.out] at h; exact h
          have x33 : a.tmps.getD 33 undef = onlyIf ((M == true) && ((decide (b < 0)) == false)) (.int .i64 b) := by have h := hdep 16 33 (by kernel_rfl) rfl; rw [hV.out] at h; exact h
          clear hd hdep hfree
          rcases (Bool.eq_false_or_eq_true (((M == true) && ((decide (b < 0)) == false)))).symm with hE | hE
          · exact .inr ⟨(wanted_cond rfl rfl x26).trans hE, fun _ _ => by rw [hV.out]; exact (onlyIf_neg hE).symm⟩
          refine .inl ⟨(wanted_cond rfl rfl x26).trans hE, ?_⟩
          have hC1 : (M == true) = true := and_l hE
          replace x26 := x26.trans (onlyIf_pos hC1)
          replace x32 := x32.trans (onlyIf_pos hE)
          replace x33 := x33.trans (onlyIf_pos hE)
          have hG0 := eq_of_beq hC1
          have hG1 := eq_of_beq (and_r hE)
          have hb0 : 0 ≤ b := by first | (have h := hG0; simp at h; omega) | (have h := hG1; simp at h; omega) | (have h := hG2; simp at h; omega)
          have hb1 : b < (n : Int) := by omega
          have HE := Lib.hid hE
          clear hE hC1 hG0 hG1
          simp only [Oper.wp, execOp]
          go_simp
          refine Nxt.mk _ rfl (fun _ _ => ?_) hS (fun _ _ h => h)
          (rw [hV.out]; exact (onlyIf_pos HE.out).symm)
        · intro a W hd hS hdep hfree
          have x26 : a.tmps.getD 26 undef = onlyIf (M == true) (.bool (decide (b < 0))) := by have h := hdep 9 26 (by kernel_rfl) rfl; rw [hV.out] at h; exact h
          have x34 : a.tmps.getD 34 undef = onlyIf ((M == true) && ((decide (b < 0)) == false)) (.pointer (some ⟨g, b.toNat * 9, none⟩)) := by have h := hdep 17 34 (by kernel_rfl) rfl; rw [hV.out] at h; exact h
          clear hd hdep hfree
          rcases (Bool.eq_false_or_eq_true (((M == true) && ((decide (b < 0)) == false)))).symm with hE | hE
          · exact .inr ⟨(wanted_cond rfl rfl x26).trans hE, fun _ _ => by rw [hV.out]; exact (onlyIf_neg hE).symm⟩
          refine .inl ⟨(wanted_cond rfl rfl x26).trans hE, ?_⟩
          have hC1 : (M == true) = true := and_l hE
          replace x26 := x26.trans (onlyIf_pos hC1)
          replace x34 := x34.trans (onlyIf_pos hE)
          have hG0 := eq_of_beq hC1
          have hG1 := eq_of_beq (and_r hE)
          have hb0 : 0 ≤ b := by first | (have h := hG0; simp at h; omega) | (have h := hG1; simp at h; omega) | (have h := hG2; simp at h; omega)
          have hb1 : b < (n : Int) := by omega
          have HE := Lib.hid hE
          clear hE hC1 hG0 hG1
          simp only [Oper.wp, execOp]
          go_simp
          refine Nxt.mk _ rfl (fun _ _ => ?_) hS (fun _ _ h => h)
          (rw [hV.out]; exact (onlyIf_pos HE.out).symm)
        · intro a W hd hS hdep hfree
          have x26 : a.tmps.getD 26 undef = onlyIf (M == true) (.bool (decide (b < 0))) := by have h := hdep 9 26 (by kernel_rfl) rfl; rw [hV.out] at h; exact h
          have x35 : a.tmps.getD 35 undef = onlyIf ((M == true) && ((decide (b < 0)) == false)) (.pointer (some ⟨g, b.toNat * 9, none⟩)) := by have h := hdep 18 35 (by kernel_rfl) rfl; rw [hV.out] at h; exact h
          clear hd hdep hfree
          rcases (Bool.eq_false_or_eq_true (((M == true) && ((decide (b < 0)) == false)))).symm with hE | hE
          · exact .inr ⟨(wanted_cond rfl rfl x26).trans hE, fun _ _ => by rw [hV.out]; exact (onlyIf_neg hE).symm⟩
          refine .inl ⟨(wanted_cond rfl rfl x26).trans hE, ?_⟩
          have hC1 : (M == true) = true := and_l hE
          replace x26 := x26.trans (onlyIf_pos hC1)
          replace x35 := x35.trans (onlyIf_pos hE)
          have hG0 := eq_of_beq hC1
          have hG1 := eq_of_beq (and_r hE)
          have hb0 : 0 ≤ b := by first | (have h := hG0; simp at h; omega) | (have h := hG1; simp at h; omega) | (have h := hG2; simp at h; omega)
          have hb1 : b < (n : Int) := by omega
          have HE := Lib.hid hE
          clear hE hC1 hG0 hG1
          have cc := HPB.out hb0 W (below_comp HBA.out hS)
          simp only [Oper.wp, execOp]
          go_simp
          refine Nxt.mk _ rfl (fun _ _ => ?_) hS (fun _ _ h => h)
          (rw [hV.out]; exact (onlyIf_pos HE.out).symm)
        · intro a W hd hS hdep hfree
          have x26 : a.tmps.getD 26 undef = onlyIf (M == true) (.bool (decide (b < 0))) := by have h := hdep 9 26 (by kernel_rfl) rfl; rw [hV.out] at h; exact h
          have x31 : a.tmps.getD 31 undef = onlyIf ((M == true) && ((decide (b < 0)) == false)) (.int .i64 PR) := by have h := hdep 14 31 (by kernel_rfl) rfl; rw [hV.out] at h; exact h
          have x36 : a.tmps.getD 36 undef = onlyIf ((M == true) && ((decide (b < 0)) == false)) (.int .i64 PB) := by have h := hdep 19 36 (by kernel_rfl) rfl; rw [hV.out] at h; exact h
          clear hd hdep hfree
          rcases (Bool.eq_false_or_eq_true (((M == true) && ((decide (b < 0)) == false)))).symm with hE | hE
          · exact .inr ⟨(wanted_cond rfl rfl x26).trans hE, fun _ _ => by rw [hV.out]; exact (onlyIf_neg hE).symm⟩
          refine .inl ⟨(wanted_cond rfl rfl x26).trans hE, ?_⟩
          have hC1 : (M == true) = true := and_l hE
          replace x26 := x26.trans (onlyIf_pos hC1)
          replace x31 := x31.trans (onlyIf_pos hE)
          replace x36 := x36.trans (onlyIf_pos hE)
          have hG0 := eq_of_beq hC1
          have hG1 := eq_of_beq (and_r hE)
          have HE := Lib.hid hE
          clear hE hC1 hG0 hG1
          simp only [Oper.wp, execOp]
          go_simp
          refine Nxt.mk _ rfl (fun _ _ => ?_) hS (fun _ _ h => h)
          rw [hV.out]; first | exact (onlyIf_pos HE.out).symm | (show (_ : Value) = onlyIf _ _; rw [onlyIf_pos HE.out]; simp)
        · intro a W hd hS hdep hfree
          have x23 : a.tmps.getD 23 undef = .bool M := by have h := hdep 6 23 (by kernel_rfl) rfl; rw [hV.out] at h; exact h
          have x26 : a.tmps.getD 26 undef = onlyIf (M == true) (.bool (decide (b < 0))) := by have h := hdep 9 26 (by kernel_rfl) rfl; rw [hV.out] at h; exact h
          have x37 : a.tmps.getD 37 undef = onlyIf ((M == true) && ((decide (b < 0)) == false)) (.bool (decide (PR < PB))) := by have h := hdep 20 37 (by kernel_rfl) rfl; rw [hV.out] at h; exact h
          clear hd hdep hfree
          rcases (Bool.eq_false_or_eq_true ((M == true))).symm with hE | hE
          · exact .inr ⟨(wanted_sym rfl rfl x23).trans hE, fun _ _ => by rw [hV.out]; exact (onlyIf_neg hE).symm⟩
          refine .inl ⟨(wanted_sym rfl rfl x23).trans hE, ?_⟩
          replace x26 := x26.trans (onlyIf_pos hE)
          have hG0 := eq_of_beq hE
          have HE := Lib.hid hE
          clear hE hG0
          rcases (Bool.eq_false_or_eq_true ((decide (b < 0)))).symm with hX | hX
          · have hp : ((M == true) && ((decide (b < 0)) == false)) = true := by have hE := HE.out; first | simp [hX, hE] | (rw [hE, hX]; rfl) | simp_all
            replace x37 := x37.trans (onlyIf_pos hp)
            rw [hX] at x26
            replace hX := Lib.hid hX
            simp only [Oper.wp, execOp]
            go_simp
            refine Nxt.mk _ rfl (fun _ _ => ?_) hS (fun _ _ h => h)
            rw [hV.out]; show (_ : Value) = onlyIf _ _; rw [onlyIf_pos HE.out, hX.out]; rfl
          · rw [hX] at x26
            replace hX := Lib.hid hX
            simp only [Oper.wp, execOp]
            go_simp
            refine Nxt.mk _ rfl (fun _ _ => ?_) hS (fun _ _ h => h)
            rw [hV.out]; show (_ : Value) = onlyIf _ _; rw [onlyIf_pos HE.out, hX.out]; rfl
        · intro a W hd hS hdep hfree
          have x23 : a.tmps.getD 23 undef = .bool M := by have h := hdep 6 23 (by kernel_rfl) rfl; rw [hV.out] at h; exact h
          have x38 : a.tmps.getD 38 undef = onlyIf (M == true) (.bool ((decide (b < 0)) || (decide (PR < PB)))) := by have h := hdep 21 38 (by kernel_rfl) rfl; rw [hV.out] at h; exact h
          clear hd hdep hfree
          refine .inl ⟨wanted_free rfl, ?_⟩
          rcases (Bool.eq_false_or_eq_true (M)).symm with hX | hX
          · rw [hX] at x23
            replace hX := Lib.hid hX
            simp only [Oper.wp, execOp]
            go_simp
            refine Nxt.mk _ rfl (fun _ _ => ?_) hS (fun _ _ h => h)
            rw [hV.out]; show (_ : Value) = .bool _; rw [hX.out]; rfl
          · have hp : (M == true) = true := by simp [hX]
            replace x38 := x38.trans (onlyIf_pos hp)
            rw [hX] at x23
            replace hX := Lib.hid hX
            simp only [Oper.wp, execOp]
            go_simp
            refine Nxt.mk _ rfl (fun _ _ => ?_) hS (fun _ _ h => h)
            rw [hV.out]; show (_ : Value) = .bool _; rw [hX.out]; rfl
      intro a w3 hs hd hS3 hdone hrest
      have ea := written_all [.slice (some ⟨g, 0, none⟩) n c, .int .i64 (k : Int), .pointer (some ⟨g, k * 9, none⟩), ev, .agg C, .bool M, .bool M, onlyIf (M == true) (.int .i64 b), onlyIf (M == true) (.bool (decide (b < 0))), onlyIf (M == true) (.bool (decide (b < 0))), onlyIf ((M == true) && ((decide (b < 0)) == false)) (.slice (some ⟨g, 0, none⟩) n c), onlyIf ((M == true) && ((decide (b < 0)) == false)) (.int .i64 (k : Int)), onlyIf ((M == true) && ((decide (b < 0)) == false)) (.pointer (some ⟨g, k * 9, none⟩)), onlyIf ((M == true) && ((decide (b < 0)) == false)) (.pointer (some ⟨g, k * 9, none⟩)), onlyIf ((M == true) && ((decide (b < 0)) == false)) (.int .i64 PR), onlyIf ((M == true) && ((decide (b < 0)) == false)) (.slice (some ⟨g, 0, none⟩) n c), onlyIf ((M == true) && ((decide (b < 0)) == false)) (.int .i64 b), onlyIf ((M == true) && ((decide (b < 0)) == false)) (.pointer (some ⟨g, b.toNat * 9, none⟩)), onlyIf ((M == true) && ((decide (b < 0)) == false)) (.pointer (some ⟨g, b.toNat * 9, none⟩)), onlyIf ((M == true) && ((decide (b < 0)) == false)) (.int .i64 PB), onlyIf ((M == true) && ((decide (b < 0)) == false)) (.bool (decide (PR < PB))), onlyIf (M == true) (.bool ((decide (b < 0)) || (decide (PR < PB)))), .bool (M && ((decide (b < 0)) || (decide (PR < PB))))] rfl hs hd hrest (fun j d hj => by have h := hdone j d hj; rw [hV.out] at h; exact h)
      clear hs hd hdone hrest hV V
      subst ea
      simp only [written, List.append_eq, Array.toList_append, List.append_toArray, List.map_append, List.cons_append, List.nil_append, List.map_cons, List.map_nil, List.zip_cons_cons, List.zip_nil_right, putAll]
      simp only [Exit.then, Act.put, List.setIfInBounds_toArray, List.set_cons_zero, List.set_cons_succ]
      obtain ⟨D, hD⟩ : ∃ D, D = (M && ((decide (b < 0)) || (decide (PR < PB)))) := ⟨_, rfl⟩
      rw [← hD]
      have HD := Lib.hid hD
      clear hD
      have HB3 := Lib.hid (below_comp HBA.out hS3)
      have HP3 := Lib.hid (HP2.out.below hS3 hlp)
      clear HB2 HP2 HBA hS3
      rcases D with _ | _
      · go_wp2
        go_roundw
        case rel => exact ⟨k + 1, by omega, by go_num, by rw [HST.out, ← HD.out]; rfl, HP3, HB3⟩
        case measure => simp [intOf]; omega
      · go_wp2
        go_roundw
        case rel => exact ⟨k + 1, by omega, by go_num, by rw [HST.out, ← HD.out]; rfl, HP3, HB3⟩
        case measure => simp [intOf]; omega
    · obtain rfl : k = n := by omega
      go_wp2
      go_ret
      exact ⟨ret_int HRU.out, HB1.out⟩
end Go.Proofs.Ytogiocinhjbdkaa

