/- The law of DescribePacket. -/
import Derived.Test.YtfbnjemmmgobkaaAMDp4
import Derived.Test.YtfbnjemmmgobkaaAMMarkPiece
import Derived.Test.YtfbnjemmmgobkaaAMMarkDesc
import Derived.Test.YtfbnjemmmgobkaaAMHeldDesc
namespace Go.Proofs.Ytfbnjemmmgobkaa
open Go.RowKit AM
set_option linter.unusedVariables false
set_option linter.unusedSimpArgs false

theorem tdt : sizeL Try.prog 88 = some (1, false) ∧
    zeroL Try.prog 88 = some [.slice none 0 0] ∧
    elemL Try.prog 88 = some (171, 2) ∧
    bytesL Try.prog 88 = some 24 ∧
    sizeL Try.prog 78 = some (1, false) ∧
    zeroL Try.prog 78 = some [.slice none 0 0] ∧
    elemL Try.prog 78 = some (163, 2) ∧
    bytesL Try.prog 78 = some 24 ∧
    sizeL Try.prog 76 = some (1, false) ∧
    zeroL Try.prog 76 = some [.slice none 0 0] ∧
    elemL Try.prog 76 = some (165, 6) ∧
    bytesL Try.prog 76 = some 24 ∧
    sizeL Try.prog 81 = some (1, false) ∧
    zeroL Try.prog 81 = some [.slice none 0 0] ∧
    elemL Try.prog 81 = some (161, 6) ∧
    bytesL Try.prog 81 = some 24 ∧
    sizeL Try.prog 3 = some (1, false) ∧
    zeroL Try.prog 3 = some [.int .i64 0] ∧
    bytesL Try.prog 3 = some 8 ∧
    Try.prog.underlying 3 = some (.int .i64) ∧
    sizeL Try.prog 4 = some (1, false) ∧
    zeroL Try.prog 4 = some [.bool false] ∧
    bytesL Try.prog 4 = some 1 ∧
    Try.prog.underlying 4 = some (.bool) := ⟨by kernel_rfl, by kernel_rfl, by kernel_rfl, by kernel_rfl, by kernel_rfl, by kernel_rfl, by kernel_rfl, by kernel_rfl, by kernel_rfl, by kernel_rfl, by kernel_rfl, by kernel_rfl, by kernel_rfl, by kernel_rfl, by kernel_rfl, by kernel_rfl, by kernel_rfl, by kernel_rfl, by kernel_rfl, by kernel_rfl, by kernel_rfl, by kernel_rfl, by kernel_rfl, by kernel_rfl⟩

theorem efc_spec_Dp (l : List PieceM) (size cookie : Int) (hn : l.length ≤ 9223372036854775807) : EffC Try.prog [] 64 [one (.p (.view 2 (l.map PieceM.pv))), I size, I cookie] (one (.sl 6 0 0 (descL l size cookie).length)) [some ⟨161, 6, (descL l size cookie).map DescM.cs⟩] := by
  by_cases hno : (l.length ≠ 0 ∧ (l.length ≤ 16 ∧ idxI pcBad l = -1) ∧ (1 ≤ size ∧ size ≤ 128) ∧ (0 ≤ cookie ∧ cookie ≤ 65535))
  · exact efc_spec_Dp_yes l size cookie hn hno
  · rw [show (descL l size cookie) = [] from if_neg (fun h => hno h.1)]; exact efc_spec_Dp_no l size cookie hn hno

theorem efc_impl_Dp (l : List PieceM) (size cookie : Int) (hn : l.length ≤ 9223372036854775807) : EffC Try.prog [] 66 [one (.p (.view 2 (l.map PieceM.pv))), I size, I cookie] (one (.sl 6 0 0 (descL l size cookie).length)) [some ⟨161, 6, (descL l size cookie).map DescM.cs⟩] := by
  by_cases hno : (l.length ≠ 0 ∧ (l.length ≤ 16 ∧ idxI pcBad l = -1) ∧ (1 ≤ size ∧ size ≤ 128))
  · exact efc_impl_Dp_yes l size cookie hn hno
  · rw [show (descL l size cookie) = [] from if_neg (fun h => hno ⟨h.1.1, h.1.2.1, h.1.2.2.1⟩)]; exact efc_impl_Dp_no l size cookie hn hno

theorem am_spec_Dp (l : List PieceM) (size cookie : Int) (hn : l.length ≤ 9223372036854775807) : Pure Try.prog true 64 [one (.p (.view 2 (l.map PieceM.pv))), I size, I cookie] (one (.p (.view 6 ((descL l size cookie).map DescM.pv)))) := pure_of_eff (efc_spec_Dp l size cookie hn).eff (.a _ _ (.one _ _ (exp_rows rfl rfl (fun _ => rfl) (fun _ => rfl))))

theorem descL_len (l : List PieceM) (size cookie : Int) : (descL l size cookie).length ≤ l.length + 1 := by
  unfold descL
  split
  · rw [List.length_cons, part_len]; omega
  · simp

set_option maxHeartbeats 4000000 in
set_option maxRecDepth 100000 in
theorem am_laws_FnExactDescribePacket_big0 (l : List PieceM) (size : Int) (cookie : Int) (hn_l : l.length ≤ 9223372036854775807)   (hb : 1048576 < (l.length : Int)) : Pure Try.prog true 12 [one (.p (.view 2 (l.map PieceM.pv))), I size, I cookie] (Bo true) := by
  obtain ⟨T0, T1, T2, T3, T4, T5, T6, T7, T8, T9, T10, T11, T12, T13, T14, T15, T16, T17, T18, T19, T20, T21, T22, T23⟩ := tdt; refine pure_of_code' (by kernel_rfl) Try.func12 rfl Try.ntmps12 (by simp) ?_; intro K hK hKn; simp only [argS, Nat.reduceAdd, Nat.zero_add]
  repeat' (first | ((with_reducible show opsE _ _ _ ({ dst := _, op := Op.call { callee := Callee.value (Operand.func 63), args := _, argTypes := _ }, type := _, pos := _, after := _, guard := _ } :: _) _ _ _); first | (refine st_call' rfl rfl rfl rfl (.same true rfl (aw_laws_szPieceS_big l _ hn_l (by omega) (by omega))) rfl ?_) | fail) | (with_reducible first | refine opsE_nil ?_ | refine chainE_nil ?_ | refine codeE_ret ?_ | refine codeE_exit ?_ | refine codeE_skip ?_ | refine codeE_block ?_ | refine blockK_normal ?_ | refine blockK_ret ?_ | refine blockK_exit ?_ | refine roundK_ret ?_ | refine roundK_exit ?_) | (with_reducible refine codeE_seq_k ?_; intro Kq hq1 hq2 hq3 hq4) | (with_reducible refine codeE_region ?_; simp only [List.toList_toArray]) | (with_reducible refine blockK_far rfl ?_) | ((with_reducible first | refine hq1 _ _ ?_ | refine hq2 _ _ ?_ | refine hq3 _ _ _ ?_ | refine hq4 _ _ _ ?_); clear hq1 hq2 hq3 hq4 Kq) | ((with_reducible first | refine hK _ _ ?_ | refine hKn _ _ ?_); clear hK hKn K) | (with_reducible refine And.intro (by first | omega | assumption | rfl) ?_) | ((with_reducible show opsE _ _ _ (_ :: _) _ _ _); first | (refine nb ?_; simp only [List.cons_append, List.nil_append, List.length_cons, List.length_nil, Nat.reduceAdd, Nat.zero_add]) | refine nx ?_ | refine ns ?_ | refine ns' ?_ | ((first | refine na ?_ | refine nal ?_ | refine nan ?_); simp only [List.cons_append, List.nil_append, List.length_cons, List.length_nil, Nat.reduceAdd, Nat.zero_add]) | refine nu ?_) | ((first | refine codeE_cond rfl ?_ ?_ | refine st_if rfl rfl rfl rfl rfl ?_ ?_); all_goals (intro hc; (first | (exfalso; cases hc; done) | (simp only [decide_eq_true_eq, decide_eq_false_iff_not, beq_iff_eq, bne_iff_ne, beq_eq_false_iff_ne, bne_eq_false_iff_eq, Bool.not_true, Bool.not_false, Bool.and_eq_true, Bool.or_eq_true, Bool.and_eq_false_iff, Bool.or_eq_false_iff, Bool.not_eq_true', Bool.not_eq_false', Int.not_le, Int.not_lt, ne_eq, Decidable.not_not, eq_self, not_true_eq_false] at hc; (try (exfalso; omega))) | skip))))
  all_goals (simp only [resE, Try.results12, resOf, pack, AM.get, omap, ow_some, loadA, ofV, evO, blkOf, A1.one.injEq, Option.bind_some, Option.map_some, id, reduceIte, if_true, if_false, List.getElem?_cons_zero, List.getElem?_cons_succ, List.length_cons, List.length_nil, List.drop_zero, List.take_succ_cons, List.take_zero, Nat.reduceAdd, Nat.reduceLeDiff, Nat.reduceEqDiff, Nat.zero_add, Nat.le_refl, List.toList_toArray, reduceCtorEq, T0, T4, T8, T12, T16, T20]; (repeat' (first | (exact ExpCs.nil) | (exact Exp1s.nil) | (exact exp_val rfl) | (refine exp_val ?_; simp [*]; done) | (exact exp_same) | (exact .nilsl) | (refine ExpCs.cons _ _ _ _ ?_ ?_) | (refine Exp1s.cons _ _ _ _ ?_ ?_) | (refine exp_agg ?_) | (refine exp_one ?_) | (refine exp_tup ?_) | (refine exp_agg1 ?_) | (refine Exp1.one _ _ ?_))))

set_option maxHeartbeats 4000000 in
set_option maxRecDepth 100000 in
theorem am_laws_FnExactDescribePacket_fit (l : List PieceM) (size : Int) (cookie : Int) (hn_l : l.length ≤ 9223372036854775807)   (hs0 : (l.length : Int) ≤ 1048576) : Pure Try.prog true 12 [one (.p (.view 2 (l.map PieceM.pv))), I size, I cookie] (Bo true) := by
  have hR := descL_len l size cookie
  obtain ⟨T0, T1, T2, T3, T4, T5, T6, T7, T8, T9, T10, T11, T12, T13, T14, T15, T16, T17, T18, T19, T20, T21, T22, T23⟩ := tdt; refine pure_of_code' (by kernel_rfl) Try.func12 rfl Try.ntmps12 (by simp) ?_; intro K hK hKn; simp only [argS, Nat.reduceAdd, Nat.zero_add]
  repeat' (first | ((with_reducible show opsE _ _ _ ({ dst := _, op := Op.call { callee := Callee.value (Operand.func 63), args := _, argTypes := _ }, type := _, pos := _, after := _, guard := _ } :: _) _ _ _); first | (refine st_call' rfl rfl rfl rfl (.same true rfl (aw_laws_szPieceS_fit l _ hn_l (by omega) (by omega))) rfl ?_) | fail) | ((with_reducible show opsE _ _ _ ({ dst := _, op := Op.call { callee := Callee.value (Operand.func 64), args := _, argTypes := _ }, type := _, pos := _, after := _, guard := _ } :: _) _ _ _); first | (refine st_call' rfl rfl rfl rfl (.own _ eL (am_spec_Dp l size cookie (by omega))) rfl ?_) | fail) | ((with_reducible show opsE _ _ _ ({ dst := _, op := Op.call { callee := Callee.value (Operand.func 66), args := _, argTypes := _ }, type := _, pos := _, after := _, guard := _ } :: _) _ _ _); first | (refine st_frame [] rfl rfl rfl rfl (efc_impl_Dp l size cookie (by omega)) rfl aF aM (by rfl) aR aH ?_) | fail) | ((with_reducible show opsE _ _ _ ({ dst := _, op := Op.call { callee := Callee.value (Operand.func 65), args := _, argTypes := _ }, type := _, pos := _, after := _, guard := _ } :: _) _ _ _); first | (refine st_frame [] rfl rfl rfl rfl (efc_laws_toPieceS l (by omega)) rfl aF aM (by rfl) aR aH ?_) | (refine st_call' rfl rfl rfl rfl (.same true rfl (aw_laws_toPieceS l (by omega))) rfl ?_) | fail) | ((with_reducible show opsE _ _ _ ({ dst := _, op := Op.call { callee := Callee.value (Operand.func 58), args := _, argTypes := _ }, type := _, pos := _, after := _, guard := _ } :: _) _ _ _); first | (refine st_call' rfl rfl rfl rfl (.own _ eL (aw_laws_eqPieceS l (by omega))) rfl ?_) | fail) | ((with_reducible show opsE _ _ _ ({ dst := _, op := Op.call { callee := Callee.value (Operand.func 61), args := _, argTypes := _ }, type := _, pos := _, after := _, guard := _ } :: _) _ _ _); first | (refine st_frame [_] rfl rfl rfl rfl (efc_laws_markPieceS l 1 1 rfl (by omega) (by omega)) rfl aF aM (by rfl) aR aH ?_) | fail) | ((with_reducible show opsE _ _ _ ({ dst := _, op := Op.call { callee := Callee.value (Operand.func 59), args := _, argTypes := _ }, type := _, pos := _, after := _, guard := _ } :: _) _ _ _); first | (refine st_call' rfl rfl rfl rfl (.own _ eL (aw_laws_eqDescS (descL l size cookie) (by omega))) rfl ?_) | (refine st_call' rfl rfl rfl rfl (.same true rfl (aw_laws_eqDescS (descL l size cookie) (by omega))) rfl ?_) | fail) | ((with_reducible show opsE _ _ _ ({ dst := _, op := Op.call { callee := Callee.value (Operand.func 60), args := _, argTypes := _ }, type := _, pos := _, after := _, guard := _ } :: _) _ _ _); first | (refine st_frame [_] rfl rfl rfl rfl (efc_laws_markDescS (descL l size cookie) 1 1 rfl (by omega) (by omega)) rfl aF aM (by rfl) aR aH ?_) | fail) | ((with_reducible show opsE _ _ _ ({ dst := _, op := Op.call { callee := Callee.value (Operand.func 67), args := _, argTypes := _ }, type := _, pos := _, after := _, guard := _ } :: _) _ _ _); first | (refine st_call' rfl rfl rfl rfl (.own _ eL (aw_laws_heldDescS (descL l size cookie).length 1 1 rfl (by omega) (by omega))) rfl ?_) | fail) | (with_reducible first | refine opsE_nil ?_ | refine chainE_nil ?_ | refine codeE_ret ?_ | refine codeE_exit ?_ | refine codeE_skip ?_ | refine codeE_block ?_ | refine blockK_normal ?_ | refine blockK_ret ?_ | refine blockK_exit ?_ | refine roundK_ret ?_ | refine roundK_exit ?_) | (with_reducible refine codeE_seq_k ?_; intro Kq hq1 hq2 hq3 hq4) | (with_reducible refine codeE_region ?_; simp only [List.toList_toArray]) | (with_reducible refine blockK_far rfl ?_) | ((with_reducible first | refine hq1 _ _ ?_ | refine hq2 _ _ ?_ | refine hq3 _ _ _ ?_ | refine hq4 _ _ _ ?_); clear hq1 hq2 hq3 hq4 Kq) | ((with_reducible first | refine hK _ _ ?_ | refine hKn _ _ ?_); clear hK hKn K) | (with_reducible refine And.intro (by first | omega | assumption | rfl) ?_) | ((with_reducible show opsE _ _ _ (_ :: _) _ _ _); first | (refine nb ?_; simp only [List.cons_append, List.nil_append, List.length_cons, List.length_nil, Nat.reduceAdd, Nat.zero_add]) | refine nx ?_ | refine ns ?_ | refine ns' ?_ | ((first | refine na ?_ | refine nal ?_ | refine nan ?_); simp only [List.cons_append, List.nil_append, List.length_cons, List.length_nil, Nat.reduceAdd, Nat.zero_add]) | refine nu ?_) | ((first | refine codeE_cond rfl ?_ ?_ | refine st_if rfl rfl rfl rfl rfl ?_ ?_); all_goals (intro hc; (first | (exfalso; cases hc; done) | (simp only [decide_eq_true_eq, decide_eq_false_iff_not, beq_iff_eq, bne_iff_ne, beq_eq_false_iff_ne, bne_eq_false_iff_eq, Bool.not_true, Bool.not_false, Bool.and_eq_true, Bool.or_eq_true, Bool.and_eq_false_iff, Bool.or_eq_false_iff, Bool.not_eq_true', Bool.not_eq_false', Int.not_le, Int.not_lt, ne_eq, Decidable.not_not, eq_self, not_true_eq_false] at hc; (try (exfalso; omega))) | skip))))
  all_goals (simp only [resE, Try.results12, resOf, pack, AM.get, omap, ow_some, loadA, ofV, evO, blkOf, A1.one.injEq, Option.bind_some, Option.map_some, id, reduceIte, if_true, if_false, List.getElem?_cons_zero, List.getElem?_cons_succ, List.length_cons, List.length_nil, List.drop_zero, List.take_succ_cons, List.take_zero, Nat.reduceAdd, Nat.reduceLeDiff, Nat.reduceEqDiff, Nat.zero_add, Nat.le_refl, List.toList_toArray, reduceCtorEq, T0, T4, T8, T12, T16, T20]; (repeat' (first | (exact ExpCs.nil) | (exact Exp1s.nil) | (exact exp_val rfl) | (refine exp_val ?_; simp [*]; done) | (exact exp_same) | (exact .nilsl) | (refine ExpCs.cons _ _ _ _ ?_ ?_) | (refine Exp1s.cons _ _ _ _ ?_ ?_) | (refine exp_agg ?_) | (refine exp_one ?_) | (refine exp_tup ?_) | (refine exp_agg1 ?_) | (refine Exp1.one _ _ ?_))))

theorem am_laws_FnExactDescribePacket (l : List PieceM) (size : Int) (cookie : Int) (hn_l : l.length ≤ 9223372036854775807)  : Pure Try.prog true 12 [one (.p (.view 2 (l.map PieceM.pv))), I size, I cookie] (Bo true) := by
  by_cases hs0 : (l.length : Int) ≤ 1048576
  rotate_left
  · exact am_laws_FnExactDescribePacket_big0 l size cookie hn_l  (by omega)
  exact am_laws_FnExactDescribePacket_fit l size cookie hn_l hs0
end Go.Proofs.Ytfbnjemmmgobkaa
