/- FunctionAt of both sides. -/
import Derived.Test.YthjajgpejfoghabRowVirtualFunctionDef
import Derived.Deep.QuietTactic
import Derived.BigQuiet
namespace Go.Proofs.Ythjajgpejfoghab
open Go.RowKit
set_option linter.unusedSimpArgs false
set_option linter.unusedVariables false

def atB : List VirtualFunctionM → Int → Nat → Int
  | [], _, _ => -1
  | x :: l, p, k => if x.xPort = p then k else atB l p (k + 1)
def fnAt (l : List VirtualFunctionM) (p : Int) : Int := atB l p 0
theorem atB_skip (l : List VirtualFunctionM) (p : Int) : ∀ (k m : Nat), k ≤ l.length → (∀ j, j < k → (h : j < l.length) → ¬ l[j].xPort = p) → atB l p m = atB (l.drop k) p (m + k) := by
  induction l with
  | nil => intro k m hk _; simp at hk; subst hk; rfl
  | cons x l ih =>
    intro k m hk h
    rcases k with _ | k
    · rfl
    · have h0 := h 0 (by omega) (by simp)
      rw [List.drop_succ_cons, atB, if_neg (by simpa using h0), ih k (m + 1) (by simpa using hk) (fun j hj hl => by have := h (j + 1) (by omega) (by simpa using hl); rwa [List.getElem_cons_succ] at this), show m + 1 + k = m + (k + 1) by omega]
theorem fnAt_hit (l : List VirtualFunctionM) (p : Int) (k : Nat) (hk : k < l.length) (h : ∀ j, j < k → (h : j < l.length) → ¬ l[j].xPort = p) (e : l[k].xPort = p) : fnAt l p = k := by
  unfold fnAt
  rw [atB_skip l p k 0 (by omega) h, List.drop_eq_getElem_cons hk, atB, if_pos e, Nat.zero_add]
theorem fnAt_none (l : List VirtualFunctionM) (p : Int) (h : ∀ j, j < l.length → (h : j < l.length) → ¬ l[j].xPort = p) : fnAt l p = -1 := by
  unfold fnAt
  rw [atB_skip l p l.length 0 (Nat.le_refl _) h, List.drop_length]; rfl

set_option maxHeartbeats 4000000 in
set_option maxRecDepth 100000 in
theorem spec_fnat (v : Value) (S : Nat → Prop) (l : List VirtualFunctionM) (p : Int) (w : World) (hn : l.length ≤ 2097152) (R : Row w S 128 8 v (l.map VirtualFunctionM.arr)) :
    Calls Try.prog 62 #[v, .int .i64 p] w fun e w' => e = .returned (.int .i64 (fnAt l p)) ∧ Below w.heap.size w w' := by
  obtain ⟨a, g, c, rfl, hV, _⟩ := R.open
  rw [List.length_map]
  obtain ⟨n, hl⟩ : ∃ n, n = l.length := ⟨_, rfl⟩
  rw [← hl] at hn ⊢
  have HL := Lib.hid hl
  have HV := Lib.hid hV
  clear R hV hl
  go_enter Try.func62, Try.ntmps62
  go_wp2
  go_loop [5] (fun i => ∃ k : Nat, k ≤ n ∧ i = .int .i64 k ∧ Hid (∀ j, j < k → (h : j < l.length) → ¬ l[j].xPort = p)) (fun i => n + 1 - (intOf i).toNat)
  case atStart => exact ⟨0, by omega, rfl, Lib.hid fun j hj => by omega⟩
  case round =>
    obtain ⟨k, hk, rfl, HK⟩ := hrel
    by_cases hlt : k < n
    · have hk' : k < l.length := by have := HL.out; omega
      have hne : l.map VirtualFunctionM.arr ≠ [] := fun e => by simp at e; rw [e] at hk'; simp at hk'
      have hV := HV.out
      obtain ⟨ea, eg⟩ := hV.1 hne
      subst ea
      have x := hV.2 k l[k].arr (by simp [hk'])
      clear hne hV
      have d1 : w.cell? ⟨g, k * 8 + 1, none⟩ = some (.int .i64 l[k].xPort) := x 1 (by omega)
      clear x
      have e1 : (k : Int) < (n : Int) := by omega
      have e0 : (0 : Int) ≤ (k : Int) := by omega
      by_cases hg : l[k].xPort = p
      · have HR := Lib.hid (fnAt_hit l p k hk' HK.out hg)
        have hx : (l[k].xPort == p) = true := by simpa using hg
        clear hg
        generalize l[k].xPort = y at d1 hx
        go_wp2
        go_ret
        exact ⟨ret_int HR.out.symm, Below.refl _ _⟩
      · have HK2 : Hid (∀ j, j < k + 1 → (h : j < l.length) → ¬ l[j].xPort = p) := Lib.hid fun j hj h => by
          rcases Nat.lt_succ_iff_lt_or_eq.1 hj with h1 | rfl
          · exact HK.out j h1 h
          · exact hg
        have hx : (l[k].xPort == p) = false := by simpa using hg
        generalize l[k].xPort = y at d1 hx hg
        go_wp2
        go_round
        case rel => exact ⟨k + 1, by omega, by go_num, HK2⟩
        case measure => simp [intOf]; omega
    · obtain rfl : k = n := by omega
      have HR := Lib.hid (fnAt_none l p (by have := HL.out; subst this; exact HK.out))
      go_wp2
      go_ret
      exact ⟨ret_int HR.out.symm, Below.refl _ _⟩

set_option maxHeartbeats 4000000 in
set_option maxRecDepth 100000 in
theorem impl_fnat1 (e : VirtualFunctionM) (p : Int) (w : World) (g : Nat) (h : w.cell? ⟨g, 0, none⟩ = some (.int .i64 p)) :
    Calls Try.prog 100 #[e.val, .pointer (some ⟨g, 0, none⟩)] w fun r w' => r = .returned (.bool (e.xPort == p)) ∧ Below w.heap.size w w' := by
  have hg := block_lt_of_cell h
  have h2 : (w.alloc (.cells e.arr 128)).cell? ⟨g, 0, none⟩ = some (.int .i64 p) := ((below_new _).cell (p := ⟨g, 0, none⟩) hg).trans h
  obtain ⟨y0, y1, ⟨y2, y3, y4⟩, y5, y6, y7⟩ := e
  unfold VirtualFunctionM.val VirtualFunctionM.arr at *
  dsimp only at *
  go_enter Try.func100, Try.ntmps100
  go_wp2
  go_ret
  exact ⟨rfl, below_new _⟩

set_option maxHeartbeats 4000000 in
set_option maxRecDepth 100000 in
theorem impl_fnidx (a : Option Addr) (g c g1 : Nat) (l : List VirtualFunctionM) (p : Int) (w : World) (hn : l.length ≤ 2097152) (hV : View w a g 8 (l.map VirtualFunctionM.arr)) (h1 : w.cell? ⟨g1, 0, none⟩ = some (.int .i64 p)) :
    Calls Try.prog 99 #[.slice a l.length c, .func (.func 100) #[] #[.pointer (some ⟨g1, 0, none⟩)]] w fun e w' => e = .returned (.int .i64 (fnAt l p)) ∧ Below w.heap.size w w' := by
  obtain ⟨n, hl⟩ : ∃ n, n = l.length := ⟨_, rfl⟩
  rw [← hl] at hn ⊢
  have HL := Lib.hid hl
  have HV := Lib.hid hV
  have H1 := Lib.hid h1
  clear hV hl h1
  go_enter Try.func99, Try.ntmps99
  go_wp2
  go_loopw [8] (fun i wr => ∃ k : Nat, k ≤ n ∧ i = .int .i64 k ∧ Hid (Below w.heap.size w wr) ∧ Hid (∀ j, j < k → (h : j < l.length) → ¬ l[j].xPort = p)) (fun i _ => n + 1 - (intOf i).toNat)
  case atStart => exact ⟨0, by omega, rfl, Lib.hid (Below.refl _ _), Lib.hid fun j hj => by omega⟩
  case round =>
    obtain ⟨k, hk, rfl, HB, HK⟩ := hrel
    by_cases hlt : k < n
    · have hk' : k < l.length := by have := HL.out; omega
      have hne : l.map VirtualFunctionM.arr ≠ [] := fun e => by simp at e; rw [e] at hk'; simp at hk'
      have hV := HV.out.later HB.out
      obtain ⟨ea, eg⟩ := hV.1 hne
      subst ea
      have x := hV.2 k l[k].arr (by simp [hk'])
      clear hne hV
      have hp : wr.cell? ⟨g1, 0, none⟩ = some (.int .i64 p) := (HB.out.cell (p := ⟨g1, 0, none⟩) (block_lt_of_cell H1.out)).trans H1.out
      have HE := Lib.hid (impl_fnat1 l[k] p wr g1 hp)
      clear hp
      have HC : Hid (wr.rangeAt g (k * 8) l[k].arr.toList) := Lib.hid fun j u hu => by
        have hj : j < 8 := (List.getElem?_eq_some_iff.1 hu).1
        rw [x j hj]; simpa using hu
      clear x
      have e1 : (k : Int) < (n : Int) := by omega
      have e0 : (0 : Int) ≤ (k : Int) := by omega
      have LD : ∀ (ops : Array Oper) (rest : List Oper) (op : Oper) (b : Act) (Q : Exit → Act → World → Prop) (hgd : op.guard = none) (ty : TypeId) (xx : Operand) (ho : op.op = .load ty xx), ty = 128 → b.eval xx = .pointer (some ⟨g, k * 8, none⟩) → wpList Try.prog ops Q rest (b.put op.dst l[k].val) wr → wpList Try.prog ops Q (op :: rest) b wr := fun ops rest op b Q hgd ty xx ho ht hx h => by
        subst ht
        exact wpList_load_mid hgd _ xx ho g (k * 8) hx l[k].arr.toList _ HC.out Try.underlying128 rfl (by kernel_rfl) (by simpa [VirtualFunctionM.val_arr] using h)
      have HLD := Lib.hid LD
      clear LD
      by_cases hg : l[k].xPort = p
      · have HR := Lib.hid (fnAt_hit l p k hk' HK.out hg)
        rw [show (l[k].xPort == p) = true by simpa using hg] at HE
        clear hg
        generalize l[k] = e at HE HLD
        go_wp2_with (first
          | (refine HLD.out _ _ _ _ _ rfl 128 (.tmp 14) rfl rfl (by go_simp) ?_)
          | (go_at_call 100; refine HE.out.mono ?_; rintro r w1 ⟨rfl, hb1⟩))
        go_ret
        exact ⟨ret_int HR.out.symm, below_comp HB.out hb1⟩
      · have HK2 : Hid (∀ j, j < k + 1 → (h : j < l.length) → ¬ l[j].xPort = p) := Lib.hid fun j hj h => by
          rcases Nat.lt_succ_iff_lt_or_eq.1 hj with h1 | rfl
          · exact HK.out j h1 h
          · exact hg
        rw [show (l[k].xPort == p) = false by simpa using hg] at HE
        clear hg
        generalize l[k] = e at HE HLD
        go_wp2_with (first
          | (refine HLD.out _ _ _ _ _ rfl 128 (.tmp 14) rfl rfl (by go_simp) ?_)
          | (go_at_call 100; refine HE.out.mono ?_; rintro r w1 ⟨rfl, hb1⟩))
        go_roundw
        case rel => exact ⟨k + 1, by omega, by go_num, Lib.hid (below_comp HB.out hb1), HK2⟩
        case measure => simp [intOf]; omega
    · obtain rfl : k = n := by omega
      have HR := Lib.hid (fnAt_none l p (by have := HL.out; subst this; exact HK.out))
      go_wp2
      go_ret
      exact ⟨ret_int HR.out.symm, HB.out⟩

set_option maxHeartbeats 4000000 in
set_option maxRecDepth 100000 in
theorem impl_fnat (v : Value) (S : Nat → Prop) (l : List VirtualFunctionM) (p : Int) (w : World) (hn : l.length ≤ 2097152) (R : Row w S 128 8 v (l.map VirtualFunctionM.arr)) :
    Calls Try.prog 64 #[v, .int .i64 p] w fun e w' => e = .returned (.int .i64 (fnAt l p)) ∧ Below w.heap.size w w' := by
  obtain ⟨a, g, c, rfl, hV, _⟩ := R.open
  rw [List.length_map]
  have HX := Lib.hid (impl_fnidx a g c w.heap.size l p (w.alloc (.cells #[.int .i64 p] 3)) hn (hV.later (below_new _)) ((Box.new w #[.int .i64 p] 3).cell 0 (by simp)))
  clear R hV
  go_enter Try.func64, Try.ntmps64
  go_wp2_with (go_at_call 99; refine HX.out.mono ?_; rintro r w1 ⟨rfl, hb1⟩)
  go_ret
  exact ⟨rfl, below_comp (below_new _) hb1⟩

end Go.Proofs.Ythjajgpejfoghab
