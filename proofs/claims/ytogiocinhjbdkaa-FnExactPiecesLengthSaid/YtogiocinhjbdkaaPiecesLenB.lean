/- PiecesLength of both sides. -/
import Derived.Test.YtogiocinhjbdkaaPiecesB
namespace Go.Proofs.Ytogiocinhjbdkaa
open Go.RowKit
set_option linter.unusedSimpArgs false
set_option linter.unusedVariables false

set_option maxHeartbeats 4000000 in
set_option maxRecDepth 100000 in
theorem spec_pieceslen (v : Value) (S : Nat → Prop) (l : List PieceM) (w : World) (hn : l.length ≤ 2097152) (R : Row w S 117 2 v (l.map PieceM.arr)) :
    Calls Try.prog 21 #[v] w fun e w' => e = .returned (.int .i64 (piecesLen l)) ∧ Below w.heap.size w w' := by
  have HP := Lib.hid (spec_piecesok v S l w hn R)
  obtain ⟨a, g, c, rfl, hV, _⟩ := R.open
  rw [List.length_map] at HP ⊢
  have HV := Lib.hid hV
  clear R hV
  by_cases hB : piecesOk l = true
  case neg =>
    have HR : Hid (piecesLen l = -1) := Lib.hid (by unfold piecesLen; rw [if_neg hB])
    rw [Bool.eq_false_iff.2 hB] at HP
    rw [HR.out]
    clear hB HV HR
    go_enter Try.func21, Try.ntmps21
    go_wp2_with (go_at_call 17; refine HP.out.mono ?_; rintro r w1 ⟨rfl, hb1⟩)
    go_ret
    exact ⟨rfl, hb1⟩
  have HSB : Hid (∀ k : Nat, k ≤ l.length → 0 ≤ lenSum l k ∧ lenSum l k ≤ 4096 * k) := Lib.hid (lenSum_bd l (by unfold piecesOk at hB; simp at hB; exact List.any_eq_false.2 (by simpa using hB.2)))
  have HR : Hid (piecesLen l = lenSum l l.length) := Lib.hid (by unfold piecesLen; rw [if_pos hB])
  rw [HR.out]
  rw [hB] at HP
  clear HR hB
  obtain ⟨n, hl⟩ : ∃ n, n = l.length := ⟨_, rfl⟩
  rw [← hl] at hn HP HSB ⊢
  have HL := Lib.hid hl
  clear hl
  go_enter Try.func21, Try.ntmps21
  go_wp2_with (go_at_call 17; refine HP.out.mono ?_; rintro r w1 ⟨rfl, hb1⟩)
  have HV1 := Lib.hid (HV.out.later hb1)
  go_loop [3, 4] (fun s i => ∃ k : Nat, k ≤ n ∧ i = .int .i64 k ∧ s = .int .i64 (lenSum l k)) (fun _ i => n + 1 - (intOf i).toNat)
  case atStart => exact ⟨0, by omega, rfl, rfl⟩
  case round =>
    obtain ⟨k, hk, rfl, rfl⟩ := hrel
    by_cases hlt : k < n
    · have hk' : k < l.length := by have := HL.out; omega
      have hne : l.map PieceM.arr ≠ [] := fun e => by simp at e; rw [e] at hk'; simp at hk'
      have hV := HV1.out
      obtain ⟨ea, eg⟩ := hV.1 hne
      subst ea
      have x := hV.2 k l[k].arr (by simp [hk'])
      clear hne hV

      have d1 : w1.cell? ⟨g, k * 2 + 1, none⟩ = some (.int .i64 l[k].xLen) := by have := x 1 (by omega); simpa [PieceM.arr] using this
      clear x
      have e1 : (k : Int) < (n : Int) := by omega
      have e0 : (0 : Int) ≤ (k : Int) := by omega
      have hs := HSB.out k (by omega)
      have hs2 := HSB.out (k + 1) (by omega)
      have HST := lenSum_step l k hk'
      rw [HST] at hs2
      have HST' := Lib.hid HST
      clear HST
      generalize l[k].xLen = y at d1 hs2 HST'
      generalize lenSum l k = s at hs hs2 HST' ⊢
      go_wp2
      go_round
      case rel => exact ⟨k + 1, by omega, by go_num, by rw [HST'.out] <;> go_num⟩
      case measure => simp [intOf]; omega
    · obtain rfl : k = n := by omega
      go_wp2
      go_ret
      exact ⟨rfl, hb1⟩

set_option maxHeartbeats 4000000 in
set_option maxRecDepth 100000 in
theorem impl_totallen (a : Option Addr) (g c : Nat) (l : List PieceM) (w : World) (hn : l.length ≤ 2097152) (hV : View w a g 2 (l.map PieceM.arr)) (hS : ∀ k : Nat, k ≤ l.length → 0 ≤ lenSum l k ∧ lenSum l k ≤ 4096 * k) :
    Calls Try.prog 88 #[.slice a l.length c] w fun e w' => e = .returned (.int .i64 (lenSum l l.length)) ∧ Below w.heap.size w w' := by
  have HV := Lib.hid hV
  have HSB := Lib.hid hS
  clear hV hS
  obtain ⟨n, hl⟩ : ∃ n, n = l.length := ⟨_, rfl⟩
  rw [← hl] at hn HSB ⊢
  have HL := Lib.hid hl
  clear hl
  go_enter Try.func88, Try.ntmps88
  go_wp2
  go_loopw [3, 8] (fun s i wr => ∃ k : Nat, k ≤ n ∧ i = .int .i64 k ∧ s = .int .i64 (lenSum l k) ∧ Hid (Below w.heap.size w wr)) (fun _ i _ => n + 1 - (intOf i).toNat)
  case atStart => exact ⟨0, by omega, rfl, rfl, Lib.hid (Below.refl _ _)⟩
  case round =>
    obtain ⟨k, hk, rfl, rfl, HB⟩ := hrel
    by_cases hlt : k < n
    · have hk' : k < l.length := by have := HL.out; omega
      have hne : l.map PieceM.arr ≠ [] := fun e => by simp at e; rw [e] at hk'; simp at hk'
      have hV := HV.out.later HB.out
      obtain ⟨ea, eg⟩ := hV.1 hne
      subst ea
      have x := hV.2 k l[k].arr (by simp [hk'])
      clear hne hV

      have HC : Hid (wr.rangeAt g (k * 2) l[k].arr.toList) := Lib.hid fun j u hu => by
        have hj : j < 2 := (List.getElem?_eq_some_iff.1 hu).1
        rw [x j hj]; simpa using hu
      have LD : ∀ (ops : Array Oper) (rest : List Oper) (op : Oper) (b : Act) (Q : Exit → Act → World → Prop) (hgd : op.guard = none) (ty : TypeId) (xx : Operand) (ho : op.op = .load ty xx), ty = 117 → b.eval xx = .pointer (some ⟨g, k * 2, none⟩) → wpList Try.prog ops Q rest (b.put op.dst l[k].val) wr → wpList Try.prog ops Q (op :: rest) b wr := fun ops rest op b Q hgd ty xx ho ht hx h => by
        subst ht
        exact wpList_load_mid hgd _ xx ho g (k * 2) hx l[k].arr.toList _ HC.out Try.underlying117 rfl (by kernel_rfl) (by simpa [PieceM.val_arr] using h)
      have HLD := Lib.hid LD
      clear LD
      clear x
      have e1 : (k : Int) < (n : Int) := by omega
      have e0 : (0 : Int) ≤ (k : Int) := by omega
      have hs := HSB.out k (by omega)
      have hs2 := HSB.out (k + 1) (by omega)
      have HST := lenSum_step l k hk'
      rw [HST] at hs2
      have HST' := Lib.hid HST
      clear HST
      generalize l[k] = e at HLD hs2 HST'
      obtain ⟨y0, y1⟩ := e
      unfold PieceM.val at HLD
      dsimp only at HLD hs2 HST'
      generalize lenSum l k = s at hs hs2 HST' ⊢
      go_wp2_with (refine HLD.out _ _ _ _ _ rfl 117 (.tmp 10) rfl rfl (by go_simp) ?_)
      go_roundw
      case rel => exact ⟨k + 1, by omega, by go_num, by rw [HST'.out] <;> go_num, Lib.hid (by first | exact below_comp HB.out (below_new _) | (repeat (first | ((with_reducible refine Below.setCell ?_ ?_ _); rotate_left; first | omega | (dsimp only; omega) | (simp; done) | (simp; omega)) | ((with_reducible refine below_setRow ?_ ?_ _); rotate_left; first | omega | (dsimp only; omega) | (simp; done) | (simp; omega)) | with_reducible exact Below.refl _ _ | with_reducible exact below_new _ | with_reducible exact below_drew | with_reducible exact HB9.out | with_reducible exact HB8.out | with_reducible exact HB7.out | with_reducible exact HB6.out | with_reducible exact HB5.out | with_reducible exact HB4.out | with_reducible exact HB3.out | with_reducible exact HB2.out | with_reducible exact HB1.out | (with_reducible apply below_comp; rotate_left; first | with_reducible exact HB9.out | with_reducible exact HB8.out | with_reducible exact HB7.out | with_reducible exact HB6.out | with_reducible exact HB5.out | with_reducible exact HB4.out | with_reducible exact HB3.out | with_reducible exact HB2.out | with_reducible exact HB1.out | with_reducible assumption | with_reducible exact below_new _ | with_reducible exact below_drew))))⟩
      case measure => simp [intOf]; omega
    · obtain rfl : k = n := by omega
      go_wp2
      go_ret
      exact ⟨rfl, HB.out⟩

set_option maxHeartbeats 4000000 in
set_option maxRecDepth 100000 in
theorem impl_pieceslen (v : Value) (S : Nat → Prop) (l : List PieceM) (w : World) (hn : l.length ≤ 2097152) (R : Row w S 117 2 v (l.map PieceM.arr)) :
    Calls Try.prog 22 #[v] w fun e w' => e = .returned (.int .i64 (piecesLen l)) ∧ Below w.heap.size w w' := by
  have HP := Lib.hid (impl_piecesok v S l w hn R)
  obtain ⟨a, g, c, rfl, hV, _⟩ := R.open
  rw [List.length_map] at HP ⊢
  have HV := Lib.hid hV
  clear R hV
  by_cases hB : piecesOk l = true
  case neg =>
    have HR : Hid (piecesLen l = -1) := Lib.hid (by unfold piecesLen; rw [if_neg hB])
    rw [Bool.eq_false_iff.2 hB] at HP
    rw [HR.out]
    clear hB HV HR
    go_enter Try.func22, Try.ntmps22
    go_wp2_with (go_at_call 19; refine HP.out.mono ?_; rintro r w1 ⟨rfl, hb1⟩)
    go_ret
    exact ⟨rfl, hb1⟩
  have HSB : Hid (∀ k : Nat, k ≤ l.length → 0 ≤ lenSum l k ∧ lenSum l k ≤ 4096 * k) := Lib.hid (lenSum_bd l (by unfold piecesOk at hB; simp at hB; exact List.any_eq_false.2 (by simpa using hB.2)))
  have HR : Hid (piecesLen l = lenSum l l.length) := Lib.hid (by unfold piecesLen; rw [if_pos hB])
  rw [HR.out]
  rw [hB] at HP
  have HT := Lib.hid fun W (h : Below w.heap.size w W) => impl_totallen a g c l W hn (HV.out.later h) HSB.out
  clear HR hB HSB HV
  generalize lenSum l l.length = s at *
  generalize l.length = n at *
  go_enter Try.func22, Try.ntmps22
  go_wp2_with (first | (go_at_call 19; refine HP.out.mono ?_; rintro r w1 ⟨rfl, hb1⟩) | (go_at_call 88; refine (HT.out _ hb1).mono ?_; rintro r w2 ⟨rfl, hb2⟩))
  go_ret
  exact ⟨rfl, below_comp hb1 hb2⟩

end Go.Proofs.Ytogiocinhjbdkaa
