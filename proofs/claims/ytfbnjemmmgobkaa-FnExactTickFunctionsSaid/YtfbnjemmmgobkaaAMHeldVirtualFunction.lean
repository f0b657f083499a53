/- Marks looked for in rows of VirtualFunction, by the abstract machine. -/
import Derived.Test.YtfbnjemmmgobkaaAMRowVirtualFunction
namespace Go.Proofs.Ytfbnjemmmgobkaa
open Go.RowKit AM
set_option linter.unusedVariables false
set_option linter.unusedSimpArgs false

theorem thVirtualFunction : sizeL Try.prog 135 = some (8, true) ∧
    fieldsL Try.prog 135 = some [(0, 1, false), (1, 1, false), (2, 3, true), (5, 1, false), (6, 1, false), (7, 1, false)] ∧
    zeroL Try.prog 135 = some [.int .i64 0, .int .i64 0, .int .i64 0, .int .i64 0, .int .i64 0, .bool false, .int .i64 0, .int .i64 0] ∧
    bytesL Try.prog 135 = some 64 ∧
    sizeL Try.prog 132 = some (3, true) ∧
    fieldsL Try.prog 132 = some [(0, 1, false), (1, 1, false), (2, 1, false)] ∧
    zeroL Try.prog 132 = some [.int .i64 0, .int .i64 0, .int .i64 0] ∧
    bytesL Try.prog 132 = some 24 ∧
    sizeL Try.prog 29 = some (1, false) ∧
    zeroL Try.prog 29 = some [.slice none 0 0] ∧
    elemL Try.prog 29 = some (135, 8) ∧
    bytesL Try.prog 29 = some 24 ∧
    sizeL Try.prog 3 = some (1, false) ∧
    zeroL Try.prog 3 = some [.int .i64 0] ∧
    bytesL Try.prog 3 = some 8 ∧
    Try.prog.underlying 3 = some (.int .i64) ∧
    sizeL Try.prog 4 = some (1, false) ∧
    zeroL Try.prog 4 = some [.bool false] ∧
    bytesL Try.prog 4 = some 1 ∧
    Try.prog.underlying 4 = some (.bool) := ⟨by kernel_rfl, by kernel_rfl, by kernel_rfl, by kernel_rfl, by kernel_rfl, by kernel_rfl, by kernel_rfl, by kernel_rfl, by kernel_rfl, by kernel_rfl, by kernel_rfl, by kernel_rfl, by kernel_rfl, by kernel_rfl, by kernel_rfl, by kernel_rfl, by kernel_rfl, by kernel_rfl, by kernel_rfl, by kernel_rfl⟩

set_option maxHeartbeats 4000000 in
set_option maxRecDepth 100000 in
theorem aw_laws_heldVirtualFunctionS (n q : Nat) (k : Int) (hk : k = (q : Int)) (hn : n ≤ 4194304) (hq : 1 ≤ q ∧ q ≤ 400000000) : Pure Try.prog true 27 [one (.p (.view 8 (VirtualFunctionM.mkV q n))), I k] (I ((q + 8 * n : Nat) : Int)) := by
  subst hk
  unfold VirtualFunctionM.mkV
  obtain ⟨T0, T1, T2, T3, T4, T5, T6, T7, T8, T9, T10, T11, T12, T13, T14, T15, T16, T17, T18, T19⟩ := thVirtualFunction; refine pure_of_code' (by kernel_rfl) Try.func27 rfl Try.ntmps27 (by simp) ?_; intro K hK hKn; simp only [argS, Nat.reduceAdd, Nat.zero_add]
  repeat' (first | ((with_reducible show codeE _ _ _ (.loop _) _ _ _); refine codeE_loop (fun m t h => ∃ (i : Nat), i ≤ n ∧ m + i = n ∧ t = [(0, one (.p (.view 8 ((List.range n).map fun i => VirtualFunctionM.mkp ((q + 8 * i : Nat) : Int))))), (1, I ((q + 8 * i : Nat) : Int)), (5, I i)] ∧ h = []) (n) ⟨_, _, ?W, 0, by first | omega | (simp; done) | assumption | (simp; omega), by first | omega | (simp; done) | assumption | (simp; omega), rfl, rfl⟩ ?_; (case W => (refine weakE_of [] rfl rfl rfl rfl ?_ ?_; (focus (exact sW)); (exact hW))); rintro m t h ⟨i, hf0, hm, rfl, rfl⟩; refine (Decidable.em (i < n)).elim (fun hlt => ?lpA) (fun hlt => ?lpB); (case' lpA => ((have he : (List.range n)[i]? = some i := by simp [hlt]))); (case' lpB => ((obtain rfl : i = n := by omega)))) | (with_reducible first | refine opsE_nil ?_ | refine chainE_nil ?_ | refine codeE_ret ?_ | refine codeE_exit ?_ | refine codeE_skip ?_ | refine codeE_block ?_ | refine blockK_normal ?_ | refine blockK_ret ?_ | refine blockK_exit ?_ | refine roundK_ret ?_ | refine roundK_exit ?_) | (with_reducible refine codeE_seq_k ?_; intro Kq hq1 hq2 hq3 hq4) | (with_reducible refine codeE_region ?_; simp only [List.toList_toArray]) | (with_reducible refine blockK_far rfl ?_) | ((with_reducible first | refine hq1 _ _ ?_ | refine hq2 _ _ ?_ | refine hq3 _ _ _ ?_ | refine hq4 _ _ _ ?_); clear hq1 hq2 hq3 hq4 Kq) | ((with_reducible first | refine hK _ _ ?_ | refine hKn _ _ ?_); clear hK hKn K) | (with_reducible refine And.intro (by first | omega | assumption | rfl) ?_) | ((with_reducible show opsE _ _ _ (_ :: _) _ _ _); first | (refine stN rfl rfl rfl rfl (fun K k => by first | exact f_len_map' rfl rfl (by with_reducible assumption) (by simp only [List.length_map, List.length_range]; rfl) k | exact f_load' rfl rfl (by with_reducible assumption) (by simp only [loadB, VirtualFunctionM.mkp, List.drop_succ_cons, List.drop_zero, over, fillA, List.map_cons, List.map_nil, List.length_cons, List.length_nil, List.set_cons_zero, List.set_cons_succ, List.getElem?_cons_zero, List.getElem?_cons_succ, List.getElem?_nil, Option.map_some, Option.map_none, Option.bind_some, if_true, reduceIte, Nat.reduceAdd, Nat.reduceLeDiff, Nat.reduceEqDiff, and_self, Nat.zero_add, Nat.add_zero, Nat.le_refl, and_true, true_and, List.take_succ_cons, List.take_zero, List.drop_succ_cons, List.drop_zero, List.cons_append, List.nil_append, Bool.false_eq_true]; rfl) k) ?_) | (refine nb ?_; simp only [List.cons_append, List.nil_append, List.length_cons, List.length_nil, Nat.reduceAdd, Nat.zero_add]) | refine nx ?_ | refine ns ?_ | refine ns' ?_ | ((first | refine na ?_ | refine nal ?_ | refine nan ?_); simp only [List.cons_append, List.nil_append, List.length_cons, List.length_nil, Nat.reduceAdd, Nat.zero_add]) | refine nu ?_) | ((first | refine codeE_cond rfl ?_ ?_ | refine st_if rfl rfl rfl rfl rfl ?_ ?_); all_goals (intro hc; (first | (exfalso; cases hc; done) | (simp only [decide_eq_true_eq, decide_eq_false_iff_not, beq_iff_eq, bne_iff_ne, beq_eq_false_iff_ne, bne_eq_false_iff_eq, Bool.not_true, Bool.not_false, Bool.and_eq_true, Bool.or_eq_true, Bool.and_eq_false_iff, Bool.or_eq_false_iff, Bool.not_eq_true', Bool.not_eq_false', Int.not_le, Int.not_lt, ne_eq, Decidable.not_not, eq_self, not_true_eq_false] at hc; (try (exfalso; omega))) | skip))))
  all_goals (first | (refine roundK_normal (m - 1) (by omega) _ _ ?W ⟨i + 1, by first | omega | (simp; done) | assumption | (simp; omega), by first | omega | (simp; done) | assumption | (simp; omega), rfl, rfl⟩; (case W => (refine weakE_of [] rfl rfl rfl rfl ?_ ?_; (focus (exact sW)); (exact hW)))) | (simp only [resE, Try.results27, resOf, pack, AM.get, omap, ow_some, loadA, ofV, evO, blkOf, A1.one.injEq, Option.bind_some, Option.map_some, id, reduceIte, if_true, if_false, List.getElem?_cons_zero, List.getElem?_cons_succ, List.length_cons, List.length_nil, List.drop_zero, List.take_succ_cons, List.take_zero, Nat.reduceAdd, Nat.reduceLeDiff, Nat.reduceEqDiff, Nat.zero_add, Nat.le_refl, List.toList_toArray, reduceCtorEq, T0, T4, T8, T12, T16]; (repeat' (first | (exact ExpCs.nil) | (exact Exp1s.nil) | (exact exp_val rfl) | (refine exp_val ?_; simp [*]; done) | (exact exp_same) | (exact .nilsl) | (refine ExpCs.cons _ _ _ _ ?_ ?_) | (refine Exp1s.cons _ _ _ _ ?_ ?_) | (refine exp_agg ?_) | (refine exp_one ?_) | (refine exp_tup ?_) | (refine exp_agg1 ?_) | (refine Exp1.one _ _ ?_))); done))
end Go.Proofs.Ytfbnjemmmgobkaa
