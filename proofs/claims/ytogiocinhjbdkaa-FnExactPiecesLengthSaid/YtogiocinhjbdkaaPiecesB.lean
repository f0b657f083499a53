/- PiecesOk and PiecesLength of both sides. -/
import Derived.Test.YtogiocinhjbdkaaRowFun
import Derived.Test.YtogiocinhjbdkaaRowPieceDef
import Derived.Test.YtogiocinhjbdkaaBoxes
import Derived.Deep.QuietTactic
import Derived.BigQuiet
import Derived.Test.YtogiocinhjbdkaaInBoth
namespace Go.Proofs.Ytogiocinhjbdkaa
open Go.RowKit
set_option linter.unusedSimpArgs false
set_option linter.unusedVariables false

def badPiece (e : PieceM) : Bool := decide (e.xAt < 0) || !(decide (0 ≤ e.xLen ∧ e.xLen ≤ 4096))
def piecesOk (l : List PieceM) : Bool := decide (l.length ≤ 16) && !(l.any badPiece)
def lenSum : List PieceM → Nat → Int
  | _, 0 => 0
  | l, k + 1 => lenSum l k + (match l[k]? with | some e => e.xLen | none => 0)
theorem lenSum_step (l : List PieceM) (k : Nat) (hk : k < l.length) : lenSum l (k + 1) = lenSum l k + l[k].xLen := by
  rw [lenSum, List.getElem?_eq_getElem hk]
theorem lenSum_bd (l : List PieceM) (h : l.any badPiece = false) (k : Nat) (hk : k ≤ l.length) : 0 ≤ lenSum l k ∧ lenSum l k ≤ 4096 * k := by
  induction k with
  | zero => exact ⟨Int.le_refl _, Int.le_refl _⟩
  | succ k ih =>
    have h1 := ih (by omega)
    rw [lenSum_step l k (by omega)]
    have h2 := List.any_eq_false.1 h l[k] (List.getElem_mem _)
    unfold badPiece at h2
    simp only [Bool.or_eq_true, Bool.not_eq_true', decide_eq_true_eq, decide_eq_false_iff_not, not_or, Classical.not_not] at h2
    omega
def piecesLen (l : List PieceM) : Int := if piecesOk l = true then lenSum l l.length else -1

set_option maxHeartbeats 4000000 in
set_option maxRecDepth 100000 in
theorem spec_piecesok (v : Value) (S : Nat → Prop) (l : List PieceM) (w : World) (hn : l.length ≤ 2097152) (R : Row w S 117 2 v (l.map PieceM.arr)) :
    Calls Try.prog 17 #[v] w fun e w' => e = .returned (.bool (piecesOk l)) ∧ Below w.heap.size w w' := by
  obtain ⟨a, g, c, rfl, hV, _⟩ := R.open
  rw [List.length_map]
  obtain ⟨n, hl⟩ : ∃ n, n = l.length := ⟨_, rfl⟩
  rw [← hl] at hn ⊢
  have HL := Lib.hid hl
  have HV := Lib.hid hV
  clear R hV hl
  go_enter Try.func17, Try.ntmps17
  go_wp2
  go_loop [3] (fun i => ∃ k : Nat, k ≤ n ∧ i = .int .i64 k ∧ Hid (∀ j, j < k → (h : j < l.length) → badPiece l[j] = false)) (fun i => n + 1 - (intOf i).toNat)
  case atStart => exact ⟨0, by omega, rfl, Lib.hid fun j hj => by omega⟩
  case round =>
    obtain ⟨k, hk, rfl, HK⟩ := hrel
    by_cases hlt : k < n
    · have hk' : k < l.length := by have := HL.out; omega
      have hne : l.map PieceM.arr ≠ [] := fun e => by simp at e; rw [e] at hk'; simp at hk'
      have hV := HV.out
      obtain ⟨ea, eg⟩ := hV.1 hne
      subst ea
      have x := hV.2 k l[k].arr (by simp [hk'])
      clear hne hV

      have d0 : w.cell? ⟨g, k * 2, none⟩ = some (.int .i64 l[k].xAt) := by have := x 0 (by omega); simpa [PieceM.arr] using this
      have d1 : w.cell? ⟨g, k * 2 + 1, none⟩ = some (.int .i64 l[k].xLen) := by have := x 1 (by omega); simpa [PieceM.arr] using this
      clear x
      have e1 : (k : Int) < (n : Int) := by omega
      have e0 : (0 : Int) ≤ (k : Int) := by omega
      by_cases hg : badPiece l[k] = true
      · have HR : Hid (piecesOk l = false) := Lib.hid (by unfold piecesOk; rw [any_hit hk' hg]; simp)
        unfold badPiece at hg
        generalize l[k].xAt = y0 at d0 hg
        generalize l[k].xLen = y1 at d1 hg
        by_cases h0 : y0 < 0
        · clear hg
          go_wp2
          go_ret
          exact ⟨ret_bool HR.out.symm, Below.refl _ _⟩
        · have h1 : ¬ (0 ≤ y1 ∧ y1 ≤ 4096) := fun h => by simp [h0, h] at hg
          have HN := Lib.hid fun W => spec_in y1 0 4096 W
          rw [decide_eq_false h1] at HN
          clear hg h1
          go_wp2_with (go_at_call 82; refine (HN.out _).mono ?_; rintro e w1 ⟨rfl, rfl⟩)
          go_ret
          exact ⟨ret_bool HR.out.symm, Below.refl _ _⟩
      · have HK2 := Lib.hid (upto_step (q := fun z => badPiece z = false) hk' HK.out (Bool.eq_false_iff.2 hg))
        unfold badPiece at hg
        generalize l[k].xAt = y0 at d0 hg
        generalize l[k].xLen = y1 at d1 hg
        simp only [Bool.or_eq_true, Bool.not_eq_true', decide_eq_true_eq, decide_eq_false_iff_not, not_or, Classical.not_not] at hg
        obtain ⟨h0, h1⟩ := hg
        have HN := Lib.hid fun W => spec_in y1 0 4096 W
        rw [decide_eq_true h1] at HN
        clear h1
        go_wp2_with (go_at_call 82; refine (HN.out _).mono ?_; rintro e w1 ⟨rfl, rfl⟩)
        go_round
        case rel => exact ⟨k + 1, by omega, by go_num, HK2⟩
        case measure => simp [intOf]; omega
    · obtain rfl : k = n := by omega
      have HR : Hid (piecesOk l = decide ((k : Int) ≤ 16)) := Lib.hid (by
        have e := HL.out
        unfold piecesOk
        rw [any_none (by subst e; exact HK.out), ← e]
        simp only [Bool.not_false, Bool.and_true]
        exact decide_eq_decide.2 ⟨fun h => by omega, fun h => by omega⟩)
      go_wp2
      go_ret
      exact ⟨ret_bool HR.out.symm, Below.refl _ _⟩

set_option maxHeartbeats 4000000 in
set_option maxRecDepth 100000 in
theorem impl_piecesok1 (e : PieceM) (w : World) :
    Calls Try.prog 85 #[e.val] w fun r w' => r = .returned (.bool (badPiece e)) ∧ Below w.heap.size w w' := by
  unfold badPiece
  obtain ⟨y0, y1⟩ := e
  unfold PieceM.val
  dsimp only
  obtain ⟨B, HB⟩ : ∃ B : Bool, Hid (decide (0 ≤ y1 ∧ y1 ≤ 4096) = B) := ⟨_, Lib.hid rfl⟩
  have HN := Lib.hid fun W => impl_in y1 0 4096 W
  rw [HB.out] at HN ⊢
  clear HB
  go_enter Try.func85, Try.ntmps85
  go_wp2_with (go_at_call 86; refine (HN.out _).mono ?_; rintro r w1 ⟨rfl, rfl⟩)
  all_goals
    go_ret
    exact ⟨ret_bool (by simp [*]), below_new _⟩

set_option maxHeartbeats 4000000 in
set_option maxRecDepth 100000 in
theorem idx_piece (a : Option Addr) (g c : Nat) (l : List PieceM) (p : PieceM → Bool) (w : World) (hn : l.length ≤ 2097152) (hV : View w a g 2 (l.map PieceM.arr))
    (hp : ∀ (e : PieceM) (W : World), Below w.heap.size w W → Calls Try.prog 85 #[e.val] W fun r w' => r = .returned (.bool (p e)) ∧ Below W.heap.size W w') :
    Calls Try.prog 139 #[.slice a l.length c, .func (.func 85) #[] #[]] w fun e w' => e = .returned (.int .i64 (idxP p l 0)) ∧ Below w.heap.size w w' := by
  obtain ⟨n, hl⟩ : ∃ n, n = l.length := ⟨_, rfl⟩
  rw [← hl] at hn ⊢
  have HL := Lib.hid hl
  have HV := Lib.hid hV
  have HP := Lib.hid hp
  clear hV hl hp
  go_enter Try.func139, Try.ntmps139
  go_wp2
  go_loopw [8] (fun i wr => ∃ k : Nat, k ≤ n ∧ i = .int .i64 k ∧ Hid (Below w.heap.size w wr) ∧ Hid (∀ j, j < k → (h : j < l.length) → p l[j] = false)) (fun i _ => n + 1 - (intOf i).toNat)
  case atStart => exact ⟨0, by omega, rfl, Lib.hid (Below.refl _ _), Lib.hid fun j hj => by omega⟩
  case round =>
    obtain ⟨k, hk, rfl, HB, HK⟩ := hrel
    by_cases hlt : k < n
    · have hk' : k < l.length := by have := HL.out; omega
      have hne : l.map PieceM.arr ≠ [] := fun e => by simp at e; rw [e] at hk'; simp at hk'
      have hV := HV.out.later HB.out
      obtain ⟨ea, eg⟩ := hV.1 hne
      subst ea
      have x := hV.2 k l[k].arr (by simp [hk'])
      clear hne hV
      have HE := Lib.hid (HP.out l[k] wr HB.out)
      have HC : Hid (wr.rangeAt g (k * 2) l[k].arr.toList) := Lib.hid fun j u hu => by
        have hj : j < 2 := (List.getElem?_eq_some_iff.1 hu).1
        rw [x j hj]; simpa using hu
      have LD : ∀ (ops : Array Oper) (rest : List Oper) (op : Oper) (b : Act) (Q : Exit → Act → World → Prop) (hgd : op.guard = none) (ty : TypeId) (xx : Operand) (ho : op.op = .load ty xx), ty = 117 → b.eval xx = .pointer (some ⟨g, k * 2, none⟩) → wpList Try.prog ops Q rest (b.put op.dst l[k].val) wr → wpList Try.prog ops Q (op :: rest) b wr := fun ops rest op b Q hgd ty xx ho ht hx h => by
        subst ht
        exact wpList_load_mid hgd _ xx ho g (k * 2) hx l[k].arr.toList _ HC.out Try.underlying117 rfl (by kernel_rfl) (by simpa [PieceM.val_arr] using h)
      have HLD := Lib.hid LD
      clear LD
      clear x
      have e1 : (k : Int) < (n : Int) := by omega
      have e0 : (0 : Int) ≤ (k : Int) := by omega
      by_cases hg : p l[k] = true
      · have HR := Lib.hid (idxP_hit p l k hk' HK.out hg)
        rw [hg] at HE
        clear hg
        generalize l[k] = e at HE HLD
        go_wp2_with (first
          | (refine HLD.out _ _ _ _ _ rfl 117 (.tmp 14) rfl rfl (by go_simp) ?_)
          | (go_at_call 85; refine HE.out.mono ?_; rintro r w1 ⟨rfl, hb1⟩))
        go_ret
        exact ⟨ret_int HR.out.symm, below_comp HB.out hb1⟩
      · have HK2 := Lib.hid (upto_step (q := fun z => p z = false) hk' HK.out (Bool.eq_false_iff.2 hg))
        rw [Bool.eq_false_iff.2 hg] at HE
        clear hg
        generalize l[k] = e at HE HLD
        go_wp2_with (first
          | (refine HLD.out _ _ _ _ _ rfl 117 (.tmp 14) rfl rfl (by go_simp) ?_)
          | (go_at_call 85; refine HE.out.mono ?_; rintro r w1 ⟨rfl, hb1⟩))
        go_roundw
        case rel => exact ⟨k + 1, by omega, by go_num, Lib.hid (below_comp HB.out hb1), HK2⟩
        case measure => simp [intOf]; omega
    · obtain rfl : k = n := by omega
      have HR := Lib.hid (idxP_none p l (by have := HL.out; subst this; exact HK.out))
      go_wp2
      go_ret
      exact ⟨ret_int HR.out.symm, HB.out⟩

set_option maxHeartbeats 4000000 in
set_option maxRecDepth 100000 in
theorem has_piece (a : Option Addr) (g c : Nat) (l : List PieceM) (p : PieceM → Bool) (w : World) (hn : l.length ≤ 2097152) (hV : View w a g 2 (l.map PieceM.arr))
    (hp : ∀ (e : PieceM) (W : World), Below w.heap.size w W → Calls Try.prog 85 #[e.val] W fun r w' => r = .returned (.bool (p e)) ∧ Below W.heap.size W w') :
    Calls Try.prog 84 #[.slice a l.length c, .func (.func 85) #[] #[]] w fun e w' => e = .returned (.bool (l.any p)) ∧ Below w.heap.size w w' := by
  have HX := Lib.hid (idx_piece a g c  l p w hn hV hp)
  have HA := Lib.hid (idxP_any p l 0)
  generalize idxP p l 0 = i at HX HA
  clear hp hV
  go_enter Try.func84, Try.ntmps84
  go_wp2_with (go_at_call 139; refine HX.out.mono ?_; rintro r w1 ⟨rfl, hb1⟩)
  go_ret
  exact ⟨ret_bool HA.out, hb1⟩

set_option maxHeartbeats 4000000 in
set_option maxRecDepth 100000 in
theorem impl_piecesok (v : Value) (S : Nat → Prop) (l : List PieceM) (w : World) (hn : l.length ≤ 2097152) (R : Row w S 117 2 v (l.map PieceM.arr)) :
    Calls Try.prog 19 #[v] w fun e w' => e = .returned (.bool (piecesOk l)) ∧ Below w.heap.size w w' := by
  obtain ⟨a, g, c, rfl, hV, _⟩ := R.open
  rw [List.length_map]
  have HX := Lib.hid fun W (h : Below w.heap.size w W) => has_piece a g c l badPiece W hn (hV.later h) (fun e W2 _ => impl_piecesok1 e W2)
  unfold piecesOk
  have HQ : Hid (decide ((l.length : Int) ≤ 16) = decide (l.length ≤ 16)) := Lib.hid (decide_eq_decide.2 ⟨fun h => by omega, fun h => by omega⟩)
  rw [← HQ.out]
  clear HQ
  generalize l.any badPiece = B at HX ⊢
  clear R hV
  generalize l.length = n at *
  go_enter Try.func19, Try.ntmps19
  go_wp2_with (go_at_call 84; refine (HX.out _ (by repeat (first | ((with_reducible refine Below.setCell ?_ ?_ _); rotate_left; first | omega | (dsimp only; omega) | (simp; done) | (simp; omega)) | ((with_reducible refine below_setRow ?_ ?_ _); rotate_left; first | omega | (dsimp only; omega) | (simp; done) | (simp; omega)) | with_reducible exact Below.refl _ _ | with_reducible exact below_new _ | with_reducible exact below_drew | with_reducible exact HB9.out | with_reducible exact HB8.out | with_reducible exact HB7.out | with_reducible exact HB6.out | with_reducible exact HB5.out | with_reducible exact HB4.out | with_reducible exact HB3.out | with_reducible exact HB2.out | with_reducible exact HB1.out | (with_reducible apply below_comp; rotate_left; first | with_reducible exact HB9.out | with_reducible exact HB8.out | with_reducible exact HB7.out | with_reducible exact HB6.out | with_reducible exact HB5.out | with_reducible exact HB4.out | with_reducible exact HB3.out | with_reducible exact HB2.out | with_reducible exact HB1.out | with_reducible assumption | with_reducible exact below_new _ | with_reducible exact below_drew)))).mono ?_; rintro r w1 ⟨rfl, hb1⟩)
  all_goals
    go_ret
    exact ⟨ret_bool (by first | (rw [decide_eq_true (by omega)]; rfl) | (rw [decide_eq_false (by omega)]; rfl)), by repeat (first | ((with_reducible refine Below.setCell ?_ ?_ _); rotate_left; first | omega | (dsimp only; omega) | (simp; done) | (simp; omega)) | ((with_reducible refine below_setRow ?_ ?_ _); rotate_left; first | omega | (dsimp only; omega) | (simp; done) | (simp; omega)) | with_reducible exact Below.refl _ _ | with_reducible exact below_new _ | with_reducible exact below_drew | with_reducible exact HB9.out | with_reducible exact HB8.out | with_reducible exact HB7.out | with_reducible exact HB6.out | with_reducible exact HB5.out | with_reducible exact HB4.out | with_reducible exact HB3.out | with_reducible exact HB2.out | with_reducible exact HB1.out | (with_reducible apply below_comp; rotate_left; first | with_reducible exact HB9.out | with_reducible exact HB8.out | with_reducible exact HB7.out | with_reducible exact HB6.out | with_reducible exact HB5.out | with_reducible exact HB4.out | with_reducible exact HB3.out | with_reducible exact HB2.out | with_reducible exact HB1.out | with_reducible assumption | with_reducible exact below_new _ | with_reducible exact below_drew))⟩

end Go.Proofs.Ytogiocinhjbdkaa
