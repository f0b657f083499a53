/- RulesOk of both sides. -/
import Derived.Test.YtogiocinhjbdkaaRowFun
import Derived.Test.YtogiocinhjbdkaaRowRuleDef
import Derived.Test.YtogiocinhjbdkaaBoxes
import Derived.Deep.QuietTactic
import Derived.BigQuiet
import Derived.Test.YtogiocinhjbdkaaRuleOkB
namespace Go.Proofs.Ytogiocinhjbdkaa
open Go.RowKit
set_option linter.unusedSimpArgs false
set_option linter.unusedVariables false

def badRule (e : RuleM) : Bool := !(decide e.Ok)
def rulesOk (l : List RuleM) : Bool := decide (l.length ≤ 12) && !(l.any badRule)

set_option maxHeartbeats 4000000 in
set_option maxRecDepth 100000 in
theorem spec_rulesok (v : Value) (S : Nat → Prop) (l : List RuleM) (w : World) (hn : l.length ≤ 2097152) (R : Row w S 127 9 v (l.map RuleM.arr)) :
    Calls Try.prog 24 #[v] w fun e w' => e = .returned (.bool (rulesOk l)) ∧ Below w.heap.size w w' := by
  obtain ⟨a, g, c, rfl, hV, _⟩ := R.open
  rw [List.length_map]
  obtain ⟨n, hl⟩ : ∃ n, n = l.length := ⟨_, rfl⟩
  rw [← hl] at hn ⊢
  have HL := Lib.hid hl
  have HV := Lib.hid hV
  clear R hV hl
  go_enter Try.func24, Try.ntmps24
  go_wp2
  go_loopw [3] (fun i wr => ∃ k : Nat, k ≤ n ∧ i = .int .i64 k ∧ Hid (Below w.heap.size w wr) ∧ Hid (∀ j, j < k → (h : j < l.length) → badRule l[j] = false)) (fun i _ => n + 1 - (intOf i).toNat)
  case atStart => exact ⟨0, by omega, rfl, Lib.hid (Below.refl _ _), Lib.hid fun j hj => by omega⟩
  case round =>
    obtain ⟨k, hk, rfl, HB, HK⟩ := hrel
    by_cases hlt : k < n
    · have hk' : k < l.length := by have := HL.out; omega
      have hne : l.map RuleM.arr ≠ [] := fun e => by simp at e; rw [e] at hk'; simp at hk'
      have hV := HV.out.later HB.out
      obtain ⟨ea, eg⟩ := hV.1 hne
      subst ea
      have x := hV.2 k l[k].arr (by simp [hk'])
      clear hne hV

      have HE := Lib.hid (spec_ruleok l[k] wr)
      have HC : Hid (wr.rangeAt g (k * 9) l[k].arr.toList) := Lib.hid fun j u hu => by
        have hj : j < 9 := (List.getElem?_eq_some_iff.1 hu).1
        rw [x j hj]; simpa using hu
      have LD : ∀ (ops : Array Oper) (rest : List Oper) (op : Oper) (b : Act) (Q : Exit → Act → World → Prop) (hgd : op.guard = none) (ty : TypeId) (xx : Operand) (ho : op.op = .load ty xx), ty = 127 → b.eval xx = .pointer (some ⟨g, k * 9, none⟩) → wpList Try.prog ops Q rest (b.put op.dst l[k].val) wr → wpList Try.prog ops Q (op :: rest) b wr := fun ops rest op b Q hgd ty xx ho ht hx h => by
        subst ht
        exact wpList_load_mid hgd _ xx ho g (k * 9) hx l[k].arr.toList _ HC.out Try.underlying127 rfl (by kernel_rfl) (by simpa [RuleM.val_arr] using h)
      have HLD := Lib.hid LD
      clear LD
      clear x
      have e1 : (k : Int) < (n : Int) := by omega
      have e0 : (0 : Int) ≤ (k : Int) := by omega
      by_cases hg : badRule l[k] = true
      · have HR : Hid (rulesOk l = false) := Lib.hid (by unfold rulesOk; rw [any_hit hk' hg]; simp)
        have hd : decide l[k].Ok = false := by unfold badRule at hg; simpa using hg
        rw [hd] at HE
        clear hg hd
        generalize l[k] = e at HE HLD
        go_wp2_with (first
          | (refine HLD.out _ _ _ _ _ rfl 127 (.tmp 12) rfl rfl (by go_simp) ?_)
          | (go_at_call 89; refine HE.out.mono ?_; rintro r w1 ⟨rfl, hb1⟩))
        go_ret
        exact ⟨ret_bool HR.out.symm, below_comp HB.out hb1⟩
      · have HK2 := Lib.hid (upto_step (q := fun z => badRule z = false) hk' HK.out (Bool.eq_false_iff.2 hg))
        have hd : decide l[k].Ok = true := by unfold badRule at hg; simpa using hg
        rw [hd] at HE
        clear hg hd
        generalize l[k] = e at HE HLD
        go_wp2_with (first
          | (refine HLD.out _ _ _ _ _ rfl 127 (.tmp 12) rfl rfl (by go_simp) ?_)
          | (go_at_call 89; refine HE.out.mono ?_; rintro r w1 ⟨rfl, hb1⟩))
        go_roundw
        case rel => exact ⟨k + 1, by omega, by go_num, Lib.hid (below_comp HB.out hb1), HK2⟩
        case measure => simp [intOf]; omega
    · obtain rfl : k = n := by omega
      have HR : Hid (rulesOk l = decide ((k : Int) ≤ 12)) := Lib.hid (by
        have e := HL.out
        unfold rulesOk
        rw [any_none (by subst e; exact HK.out), ← e]
        simp only [Bool.not_false, Bool.and_true]
        exact decide_eq_decide.2 ⟨fun h => by omega, fun h => by omega⟩)
      go_wp2
      go_ret
      exact ⟨ret_bool HR.out.symm, HB.out⟩

set_option maxHeartbeats 4000000 in
set_option maxRecDepth 100000 in
theorem impl_rulesok1 (e : RuleM) (w : World) :
    Calls Try.prog 92 #[e.val] w fun r w' => r = .returned (.bool (badRule e)) ∧ Below w.heap.size w w' := by
  have HE := Lib.hid fun W => impl_ruleok e W
  unfold badRule
  generalize decide e.Ok = B at HE ⊢
  obtain ⟨y0, y1, y2, y3, y4, y5, y6, y7, y8⟩ := e
  unfold RuleM.val at *
  dsimp only at *
  go_enter Try.func92, Try.ntmps92
  go_wp2_with (go_at_call 93; refine (HE.out _).mono ?_; rintro r w1 ⟨rfl, hb1⟩)
  go_ret
  exact ⟨rfl, by repeat (first | ((with_reducible refine Below.setCell ?_ ?_ _); rotate_left; first | omega | (dsimp only; omega) | (simp; done) | (simp; omega)) | ((with_reducible refine below_setRow ?_ ?_ _); rotate_left; first | omega | (dsimp only; omega) | (simp; done) | (simp; omega)) | with_reducible exact Below.refl _ _ | with_reducible exact below_new _ | with_reducible exact below_drew | with_reducible exact HB9.out | with_reducible exact HB8.out | with_reducible exact HB7.out | with_reducible exact HB6.out | with_reducible exact HB5.out | with_reducible exact HB4.out | with_reducible exact HB3.out | with_reducible exact HB2.out | with_reducible exact HB1.out | (with_reducible apply below_comp; rotate_left; first | with_reducible exact HB9.out | with_reducible exact HB8.out | with_reducible exact HB7.out | with_reducible exact HB6.out | with_reducible exact HB5.out | with_reducible exact HB4.out | with_reducible exact HB3.out | with_reducible exact HB2.out | with_reducible exact HB1.out | with_reducible assumption | with_reducible exact below_new _ | with_reducible exact below_drew))⟩

set_option maxHeartbeats 4000000 in
set_option maxRecDepth 100000 in
theorem idx_rule (a : Option Addr) (g c : Nat) (l : List RuleM) (p : RuleM → Bool) (w : World) (hn : l.length ≤ 2097152) (hV : View w a g 9 (l.map RuleM.arr))
    (hp : ∀ (e : RuleM) (W : World), Below w.heap.size w W → Calls Try.prog 92 #[e.val] W fun r w' => r = .returned (.bool (p e)) ∧ Below W.heap.size W w') :
    Calls Try.prog 140 #[.slice a l.length c, .func (.func 92) #[] #[]] w fun e w' => e = .returned (.int .i64 (idxP p l 0)) ∧ Below w.heap.size w w' := by
  obtain ⟨n, hl⟩ : ∃ n, n = l.length := ⟨_, rfl⟩
  rw [← hl] at hn ⊢
  have HL := Lib.hid hl
  have HV := Lib.hid hV
  have HP := Lib.hid hp
  clear hV hl hp
  go_enter Try.func140, Try.ntmps140
  go_wp2
  go_loopw [8] (fun i wr => ∃ k : Nat, k ≤ n ∧ i = .int .i64 k ∧ Hid (Below w.heap.size w wr) ∧ Hid (∀ j, j < k → (h : j < l.length) → p l[j] = false)) (fun i _ => n + 1 - (intOf i).toNat)
  case atStart => exact ⟨0, by omega, rfl, Lib.hid (Below.refl _ _), Lib.hid fun j hj => by omega⟩
  case round =>
    obtain ⟨k, hk, rfl, HB, HK⟩ := hrel
    by_cases hlt : k < n
    · have hk' : k < l.length := by have := HL.out; omega
      have hne : l.map RuleM.arr ≠ [] := fun e => by simp at e; rw [e] at hk'; simp at hk'
      have hV := HV.out.later HB.out
      obtain ⟨ea, eg⟩ := hV.1 hne
      subst ea
      have x := hV.2 k l[k].arr (by simp [hk'])
      clear hne hV
      have HE := Lib.hid (HP.out l[k] wr HB.out)
      have HC : Hid (wr.rangeAt g (k * 9) l[k].arr.toList) := Lib.hid fun j u hu => by
        have hj : j < 9 := (List.getElem?_eq_some_iff.1 hu).1
        rw [x j hj]; simpa using hu
      have LD : ∀ (ops : Array Oper) (rest : List Oper) (op : Oper) (b : Act) (Q : Exit → Act → World → Prop) (hgd : op.guard = none) (ty : TypeId) (xx : Operand) (ho : op.op = .load ty xx), ty = 127 → b.eval xx = .pointer (some ⟨g, k * 9, none⟩) → wpList Try.prog ops Q rest (b.put op.dst l[k].val) wr → wpList Try.prog ops Q (op :: rest) b wr := fun ops rest op b Q hgd ty xx ho ht hx h => by
        subst ht
        exact wpList_load_mid hgd _ xx ho g (k * 9) hx l[k].arr.toList _ HC.out Try.underlying127 rfl (by kernel_rfl) (by simpa [RuleM.val_arr] using h)
      have HLD := Lib.hid LD
      clear LD
      clear x
      have e1 : (k : Int) < (n : Int) := by omega
      have e0 : (0 : Int) ≤ (k : Int) := by omega
      by_cases hg : p l[k] = true
      · have HR := Lib.hid (idxP_hit p l k hk' HK.out hg)
        rw [hg] at HE
        clear hg
        generalize l[k] = e at HE HLD
        go_wp2_with (first
          | (refine HLD.out _ _ _ _ _ rfl 127 (.tmp 14) rfl rfl (by go_simp) ?_)
          | (go_at_call 92; refine HE.out.mono ?_; rintro r w1 ⟨rfl, hb1⟩))
        go_ret
        exact ⟨ret_int HR.out.symm, below_comp HB.out hb1⟩
      · have HK2 := Lib.hid (upto_step (q := fun z => p z = false) hk' HK.out (Bool.eq_false_iff.2 hg))
        rw [Bool.eq_false_iff.2 hg] at HE
        clear hg
        generalize l[k] = e at HE HLD
        go_wp2_with (first
          | (refine HLD.out _ _ _ _ _ rfl 127 (.tmp 14) rfl rfl (by go_simp) ?_)
          | (go_at_call 92; refine HE.out.mono ?_; rintro r w1 ⟨rfl, hb1⟩))
        go_roundw
        case rel => exact ⟨k + 1, by omega, by go_num, Lib.hid (below_comp HB.out hb1), HK2⟩
        case measure => simp [intOf]; omega
    · obtain rfl : k = n := by omega
      have HR := Lib.hid (idxP_none p l (by have := HL.out; subst this; exact HK.out))
      go_wp2
      go_ret
      exact ⟨ret_int HR.out.symm, HB.out⟩

set_option maxHeartbeats 4000000 in
set_option maxRecDepth 100000 in
theorem has_rule (a : Option Addr) (g c : Nat) (l : List RuleM) (p : RuleM → Bool) (w : World) (hn : l.length ≤ 2097152) (hV : View w a g 9 (l.map RuleM.arr))
    (hp : ∀ (e : RuleM) (W : World), Below w.heap.size w W → Calls Try.prog 92 #[e.val] W fun r w' => r = .returned (.bool (p e)) ∧ Below W.heap.size W w') :
    Calls Try.prog 91 #[.slice a l.length c, .func (.func 92) #[] #[]] w fun e w' => e = .returned (.bool (l.any p)) ∧ Below w.heap.size w w' := by
  have HX := Lib.hid (idx_rule a g c  l p w hn hV hp)
  have HA := Lib.hid (idxP_any p l 0)
  generalize idxP p l 0 = i at HX HA
  clear hp hV
  go_enter Try.func91, Try.ntmps91
  go_wp2_with (go_at_call 140; refine HX.out.mono ?_; rintro r w1 ⟨rfl, hb1⟩)
  go_ret
  exact ⟨ret_bool HA.out, hb1⟩

set_option maxHeartbeats 4000000 in
set_option maxRecDepth 100000 in
theorem impl_rulesok (v : Value) (S : Nat → Prop) (l : List RuleM) (w : World) (hn : l.length ≤ 2097152) (R : Row w S 127 9 v (l.map RuleM.arr)) :
    Calls Try.prog 26 #[v] w fun e w' => e = .returned (.bool (rulesOk l)) ∧ Below w.heap.size w w' := by
  obtain ⟨a, g, c, rfl, hV, _⟩ := R.open
  rw [List.length_map]
  have HX := Lib.hid fun W (h : Below w.heap.size w W) => has_rule a g c l badRule W hn (hV.later h) (fun e W2 _ => impl_rulesok1 e W2)
  unfold rulesOk
  have HQ : Hid (decide ((l.length : Int) ≤ 12) = decide (l.length ≤ 12)) := Lib.hid (decide_eq_decide.2 ⟨fun h => by omega, fun h => by omega⟩)
  rw [← HQ.out]
  clear HQ
  generalize l.any badRule = B at HX ⊢
  clear R hV
  generalize l.length = n at *
  go_enter Try.func26, Try.ntmps26
  go_wp2_with (go_at_call 91; refine (HX.out _ (by repeat (first | ((with_reducible refine Below.setCell ?_ ?_ _); rotate_left; first | omega | (dsimp only; omega) | (simp; done) | (simp; omega)) | ((with_reducible refine below_setRow ?_ ?_ _); rotate_left; first | omega | (dsimp only; omega) | (simp; done) | (simp; omega)) | with_reducible exact Below.refl _ _ | with_reducible exact below_new _ | with_reducible exact below_drew | with_reducible exact HB9.out | with_reducible exact HB8.out | with_reducible exact HB7.out | with_reducible exact HB6.out | with_reducible exact HB5.out | with_reducible exact HB4.out | with_reducible exact HB3.out | with_reducible exact HB2.out | with_reducible exact HB1.out | (with_reducible apply below_comp; rotate_left; first | with_reducible exact HB9.out | with_reducible exact HB8.out | with_reducible exact HB7.out | with_reducible exact HB6.out | with_reducible exact HB5.out | with_reducible exact HB4.out | with_reducible exact HB3.out | with_reducible exact HB2.out | with_reducible exact HB1.out | with_reducible assumption | with_reducible exact below_new _ | with_reducible exact below_drew)))).mono ?_; rintro r w1 ⟨rfl, hb1⟩)
  all_goals
    go_ret
    exact ⟨ret_bool (by first | (rw [decide_eq_true (by omega)]; rfl) | (rw [decide_eq_false (by omega)]; rfl)), by repeat (first | ((with_reducible refine Below.setCell ?_ ?_ _); rotate_left; first | omega | (dsimp only; omega) | (simp; done) | (simp; omega)) | ((with_reducible refine below_setRow ?_ ?_ _); rotate_left; first | omega | (dsimp only; omega) | (simp; done) | (simp; omega)) | with_reducible exact Below.refl _ _ | with_reducible exact below_new _ | with_reducible exact below_drew | with_reducible exact HB9.out | with_reducible exact HB8.out | with_reducible exact HB7.out | with_reducible exact HB6.out | with_reducible exact HB5.out | with_reducible exact HB4.out | with_reducible exact HB3.out | with_reducible exact HB2.out | with_reducible exact HB1.out | (with_reducible apply below_comp; rotate_left; first | with_reducible exact HB9.out | with_reducible exact HB8.out | with_reducible exact HB7.out | with_reducible exact HB6.out | with_reducible exact HB5.out | with_reducible exact HB4.out | with_reducible exact HB3.out | with_reducible exact HB2.out | with_reducible exact HB1.out | with_reducible assumption | with_reducible exact below_new _ | with_reducible exact below_drew))⟩

end Go.Proofs.Ytogiocinhjbdkaa
