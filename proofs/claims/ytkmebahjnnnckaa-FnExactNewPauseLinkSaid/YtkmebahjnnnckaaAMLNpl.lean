/- The law of NewPauseLink. -/
import Derived.Test.YtkmebahjnnnckaaAMNpl
import Derived.Test.YtkmebahjnnnckaaAMRepMPauseLink
namespace Go.Proofs.Ytkmebahjnnnckaa
open Go.RowKit AM
set_option linter.unusedVariables false
set_option linter.unusedSimpArgs false

theorem tlNpl : sizeL Try.prog 87 = some (10, true) ∧
    fieldsL Try.prog 87 = some [(0, 1, false), (1, 1, false), (2, 1, false), (3, 1, false), (4, 1, false), (5, 1, false), (6, 1, false), (7, 1, false), (8, 1, false), (9, 1, false)] ∧
    zeroL Try.prog 87 = some [.int .i64 0, .int .i64 0, .int .i64 0, .int .i64 0, .int .i64 0, .bool false, .slice none 0 0, .slice none 0 0, .bool false, .int .i64 0] ∧
    bytesL Try.prog 87 = some 112 ∧
    sizeL Try.prog 53 = some (1, false) ∧
    zeroL Try.prog 53 = some [.slice none 0 0] ∧
    elemL Try.prog 53 = some (3, 1) ∧
    bytesL Try.prog 53 = some 24 ∧
    sizeL Try.prog 85 = some (1, false) ∧
    zeroL Try.prog 85 = some [.slice none 0 0] ∧
    elemL Try.prog 85 = some (4, 1) ∧
    bytesL Try.prog 85 = some 24 ∧
    sizeL Try.prog 3 = some (1, false) ∧
    zeroL Try.prog 3 = some [.int .i64 0] ∧
    bytesL Try.prog 3 = some 8 ∧
    Try.prog.underlying 3 = some (.int .i64) ∧
    sizeL Try.prog 4 = some (1, false) ∧
    zeroL Try.prog 4 = some [.bool false] ∧
    bytesL Try.prog 4 = some 1 ∧
    Try.prog.underlying 4 = some (.bool) := ⟨by kernel_rfl, by kernel_rfl, by kernel_rfl, by kernel_rfl, by kernel_rfl, by kernel_rfl, by kernel_rfl, by kernel_rfl, by kernel_rfl, by kernel_rfl, by kernel_rfl, by kernel_rfl, by kernel_rfl, by kernel_rfl, by kernel_rfl, by kernel_rfl, by kernel_rfl, by kernel_rfl, by kernel_rfl, by kernel_rfl⟩

set_option maxHeartbeats 4000000 in
set_option maxRecDepth 100000 in
theorem am_laws_FnExactNewPauseLink_fit (cap : Int) (high : Int) (low : Int) (delay : Int)    : Pure Try.prog true 8 [I cap, I high, I low, I delay] (Bo true) := by
  have hR := nplL_len cap high low delay
  obtain ⟨T0, T1, T2, T3, T4, T5, T6, T7, T8, T9, T10, T11, T12, T13, T14, T15, T16, T17, T18, T19⟩ := tlNpl; refine pure_of_code' (by kernel_rfl) Try.func8 rfl Try.ntmps8 (by simp) ?_; intro K hK hKn; simp only [argS, Nat.reduceAdd, Nat.zero_add]
  repeat' (first | ((with_reducible show opsE _ _ _ ({ dst := _, op := Op.call { callee := Callee.value (Operand.func 48), args := _, argTypes := _ }, type := _, pos := _, after := _, guard := _ } :: _) _ _ _); first | (refine st_call' rfl rfl rfl rfl (.own _ eL (am_spec_NPL cap high low delay)) rfl ?_) | (refine st_call' rfl rfl rfl rfl (.same true rfl (am_spec_NPL cap high low delay)) rfl ?_) | fail) | ((with_reducible show opsE _ _ _ ({ dst := _, op := Op.call { callee := Callee.value (Operand.func 49), args := _, argTypes := _ }, type := _, pos := _, after := _, guard := _ } :: _) _ _ _); first | (refine st_frame [] rfl rfl rfl rfl (efc_impl_NPL cap high low delay) rfl aF aM (by rfl) aR aH ?_) | fail) | ((with_reducible show opsE _ _ _ ({ dst := _, op := Op.call { callee := Callee.value (Operand.func 50), args := _, argTypes := _ }, type := _, pos := _, after := _, guard := _ } :: _) _ _ _); first | (refine st_call' rfl rfl rfl rfl (.own _ eL (aw_laws_eqPauseLink (nplL cap high low delay) (by omega) (by omega))) rfl ?_) | (refine st_call' rfl rfl rfl rfl (.same true rfl (aw_laws_eqPauseLink (nplL cap high low delay) (by omega) (by omega))) rfl ?_) | fail) | ((with_reducible show opsE _ _ _ ({ dst := _, op := Op.call { callee := Callee.value (Operand.func 51), args := _, argTypes := _ }, type := _, pos := _, after := _, guard := _ } :: _) _ _ _); first | (refine st_frame [_, _] rfl rfl rfl rfl (efc_laws_markPauseLink (nplL cap high low delay) 1 1 rfl (by omega) (by omega) (by omega)) rfl aF aM (by rfl) aR aH ?_) | fail) | ((with_reducible show opsE _ _ _ ({ dst := _, op := Op.call { callee := Callee.value (Operand.func 52), args := _, argTypes := _ }, type := _, pos := _, after := _, guard := _ } :: _) _ _ _); first | (refine st_call' rfl rfl rfl rfl (.own _ eL (aw_laws_heldPauseLink (nplL cap high low delay) 1 1 rfl (by omega) (by omega) (by omega))) rfl ?_) | fail) | (with_reducible first | refine opsE_nil ?_ | refine chainE_nil ?_ | refine codeE_ret ?_ | refine codeE_exit ?_ | refine codeE_skip ?_ | refine codeE_block ?_ | refine blockK_normal ?_ | refine blockK_ret ?_ | refine blockK_exit ?_ | refine roundK_ret ?_ | refine roundK_exit ?_ | refine codeE_goto ?_ | refine codeE_label ?_ | refine firstK_ret ?_ | refine passK_ret ?_ | refine passK_normal ?_ | refine passK_exit ?_ | refine blockK_goto ?_) | (with_reducible refine codeE_seq_k ?_; intro Kq hq1 hq2 hq3 hq4) | (with_reducible refine codeE_region ?_; simp only [List.toList_toArray]) | (with_reducible refine blockK_far rfl ?_) | ((with_reducible first | refine hq1 _ _ ?_ | refine hq2 _ _ ?_ | refine hq3 _ _ _ ?_ | refine hq4 _ _ _ ?_); clear hq1 hq2 hq3 hq4 Kq) | ((with_reducible first | refine hK _ _ ?_ | refine hKn _ _ ?_); clear hK hKn K) | (with_reducible refine And.intro (by first | omega | assumption | rfl) ?_) | ((with_reducible show opsE _ _ _ (_ :: _) _ _ _); first | (refine nb ?_; simp only [List.cons_append, List.nil_append, List.length_cons, List.length_nil, Nat.reduceAdd, Nat.zero_add]) | refine nx ?_ | refine ns ?_ | refine ns' ?_ | ((first | refine na ?_ | refine nal ?_ | refine nan ?_); simp only [List.cons_append, List.nil_append, List.length_cons, List.length_nil, Nat.reduceAdd, Nat.zero_add]) | refine nu ?_) | ((first | refine codeE_cond rfl ?_ ?_ | refine st_if rfl rfl rfl rfl rfl ?_ ?_); all_goals (intro hc; (first | (exfalso; cases hc; done) | (simp only [decide_eq_true_eq, decide_eq_false_iff_not, beq_iff_eq, bne_iff_ne, beq_eq_false_iff_ne, bne_eq_false_iff_eq, Bool.not_true, Bool.not_false, Bool.and_eq_true, Bool.or_eq_true, Bool.and_eq_false_iff, Bool.or_eq_false_iff, Bool.not_eq_true', Bool.not_eq_false', Int.not_le, Int.not_lt, ne_eq, Decidable.not_not, eq_self, not_true_eq_false] at hc; (try (exfalso; omega))) | skip))))
  all_goals (simp only [resE, Try.results8, resOf, pack, AM.get, omap, ow_some, loadA, ofV, evO, blkOf, A1.one.injEq, Option.bind_some, Option.map_some, id, reduceIte, if_true, if_false, List.getElem?_cons_zero, List.getElem?_cons_succ, List.length_cons, List.length_nil, List.drop_zero, List.take_succ_cons, List.take_zero, Nat.reduceAdd, Nat.reduceLeDiff, Nat.reduceEqDiff, Nat.zero_add, Nat.le_refl, List.toList_toArray, reduceCtorEq, T0, T4, T8, T12, T16]; (repeat' (first | (exact ExpCs.nil) | (exact Exp1s.nil) | (exact exp_val rfl) | (refine exp_val ?_; simp [*]; done) | (exact exp_same) | (exact .nilsl) | (refine ExpCs.cons _ _ _ _ ?_ ?_) | (refine Exp1s.cons _ _ _ _ ?_ ?_) | (refine exp_agg ?_) | (refine exp_one ?_) | (refine exp_tup ?_) | (refine exp_agg1 ?_) | (refine Exp1.one _ _ ?_))))

theorem am_laws_FnExactNewPauseLink (cap : Int) (high : Int) (low : Int) (delay : Int)   : Pure Try.prog true 8 [I cap, I high, I low, I delay] (Bo true) := by
  exact am_laws_FnExactNewPauseLink_fit cap high low delay  
end Go.Proofs.Ytkmebahjnnnckaa
