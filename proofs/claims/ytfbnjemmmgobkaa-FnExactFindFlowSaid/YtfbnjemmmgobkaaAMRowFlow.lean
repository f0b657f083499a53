/- Rows of Flow in the laws, by the abstract machine. -/
import Derived.Test.YtfbnjemmmgobkaaAMMarkText
import Derived.Test.YtfbnjemmmgobkaaPktMath
namespace Go.Proofs.Ytfbnjemmmgobkaa
open Go.RowKit AM
set_option linter.unusedVariables false
set_option linter.unusedSimpArgs false

theorem trFlow : sizeL Try.prog 105 = some (5, true) ∧
    fieldsL Try.prog 105 = some [(0, 1, false), (1, 1, false), (2, 1, false), (3, 1, false), (4, 1, false)] ∧
    zeroL Try.prog 105 = some [.int .i64 0, .int .i64 0, .int .i64 0, .int .i64 0, .int .i64 0] ∧
    bytesL Try.prog 105 = some 40 ∧
    sizeL Try.prog 107 = some (5, true) ∧
    fieldsL Try.prog 107 = some [(0, 1, false), (1, 1, false), (2, 1, false), (3, 1, false), (4, 1, false)] ∧
    zeroL Try.prog 107 = some [.int .i64 0, .int .i64 0, .int .i64 0, .int .i64 0, .int .i64 0] ∧
    bytesL Try.prog 107 = some 40 ∧
    sizeL Try.prog 3 = some (1, false) ∧
    zeroL Try.prog 3 = some [.int .i64 0] ∧
    bytesL Try.prog 3 = some 8 ∧
    Try.prog.underlying 3 = some (.int .i64) ∧
    sizeL Try.prog 4 = some (1, false) ∧
    zeroL Try.prog 4 = some [.bool false] ∧
    bytesL Try.prog 4 = some 1 ∧
    Try.prog.underlying 4 = some (.bool) := ⟨by kernel_rfl, by kernel_rfl, by kernel_rfl, by kernel_rfl, by kernel_rfl, by kernel_rfl, by kernel_rfl, by kernel_rfl, by kernel_rfl, by kernel_rfl, by kernel_rfl, by kernel_rfl, by kernel_rfl, by kernel_rfl, by kernel_rfl, by kernel_rfl⟩

def FlowM.cs (e : FlowM) : List CV := [cI (e.kind), cI (e.sip), cI (e.dip), cI (e.sport), cI (e.dport)]
def FlowM.pv (e : FlowM) : List PV := [pI (e.kind), pI (e.sip), pI (e.dip), pI (e.sport), pI (e.dport)]
theorem FlowM.cs_pv (e : FlowM) : e.cs = e.pv.map .p := rfl
theorem FlowM.cs_len (e : FlowM) : e.cs.length = 5 := rfl
theorem FlowM.cs_plain (e : FlowM) : e.cs.all plainC = true := rfl
def FlowM.sz (e : FlowM) : Nat := 0
def FlowM.sum : List FlowM → Nat
  | [] => 0
  | e :: r => e.sz + FlowM.sum r
theorem FlowM.sum_take : ∀ (l : List FlowM) (i : Nat) (e : FlowM), l[i]? = some e → FlowM.sum (l.take (i + 1)) = FlowM.sum (l.take i) + e.sz ∧ FlowM.sum (l.take (i + 1)) ≤ FlowM.sum l
  | [], i, e, h => by simp at h
  | x :: r, 0, e, h => by cases h; simp [FlowM.sum]
  | x :: r, i + 1, e, h => by
    have := FlowM.sum_take r i e (by simpa using h)
    simp only [List.take_succ_cons, FlowM.sum]
    omega
def FlowM.mkp (k : Int) : List PV := [pI (k), pI (k + 1), pI (k + 1 + 1), pI (k + 1 + 1 + 1), pI (k + 1 + 1 + 1 + 1)]
def FlowM.mkc (k : Int) : List CV := [cI (k), cI (k + 1), cI (k + 1 + 1), cI (k + 1 + 1 + 1), cI (k + 1 + 1 + 1 + 1)]
theorem FlowM.mk_eq (k : Int) : FlowM.mkc k = (FlowM.mkp k).map .p := rfl
def FlowM.mkR (q n : Nat) : List (List CV) := (List.range n).map fun i => FlowM.mkc ((q + 5 * i : Nat) : Int)
def FlowM.mkV (q n : Nat) : List (List PV) := (List.range n).map fun i => FlowM.mkp ((q + 5 * i : Nat) : Int)
theorem FlowM.mkR_succ (q n : Nat) : FlowM.mkR q (n + 1) = FlowM.mkR q n ++ [FlowM.mkc ((q + 5 * n : Nat) : Int)] := by simp [FlowM.mkR, List.range_succ]
theorem FlowM.mkR_plain (q n : Nat) : plainR (FlowM.mkR q n) := plainR_map (fun _ => rfl)
theorem FlowM.mkR_len (q n : Nat) : (FlowM.mkR q n).length = n := by simp [FlowM.mkR]

set_option maxHeartbeats 4000000 in
set_option maxRecDepth 100000 in
theorem aw_laws_toFlow (e : FlowM) : Pure Try.prog true 74 [.a (.agg [cI (e.kind), cI (e.sip), cI (e.dip), cI (e.sport), cI (e.dport)])] (.a (.agg [cI (e.kind), cI (e.sip), cI (e.dip), cI (e.sport), cI (e.dport)])) := by
  obtain ⟨T0, T1, T2, T3, T4, T5, T6, T7, T8, T9, T10, T11, T12, T13, T14, T15⟩ := trFlow; refine pure_of_code' (by kernel_rfl) Try.func74 rfl Try.ntmps74 (by simp) ?_; intro K hK hKn; simp only [argS, Nat.reduceAdd, Nat.zero_add]
  repeat' (first | (with_reducible first | refine opsE_nil ?_ | refine chainE_nil ?_ | refine codeE_ret ?_ | refine codeE_exit ?_ | refine codeE_skip ?_ | refine codeE_block ?_ | refine blockK_normal ?_ | refine blockK_ret ?_ | refine blockK_exit ?_ | refine roundK_ret ?_ | refine roundK_exit ?_ | refine codeE_goto ?_ | refine codeE_label ?_ | refine firstK_ret ?_ | refine passK_ret ?_ | refine passK_normal ?_ | refine passK_exit ?_ | refine blockK_goto ?_) | (with_reducible refine codeE_seq_k ?_; intro Kq hq1 hq2 hq3 hq4) | (with_reducible refine codeE_region ?_; simp only [List.toList_toArray]) | (with_reducible refine blockK_far rfl ?_) | ((with_reducible first | refine hq1 _ _ ?_ | refine hq2 _ _ ?_ | refine hq3 _ _ _ ?_ | refine hq4 _ _ _ ?_); clear hq1 hq2 hq3 hq4 Kq) | ((with_reducible first | refine hK _ _ ?_ | refine hKn _ _ ?_); clear hK hKn K) | (with_reducible refine And.intro (by first | omega | assumption | rfl) ?_) | ((with_reducible show opsE _ _ _ (_ :: _) _ _ _); first | (refine nb ?_; simp only [List.cons_append, List.nil_append, List.length_cons, List.length_nil, Nat.reduceAdd, Nat.zero_add]) | refine nx ?_ | refine ns ?_ | refine ns' ?_ | ((first | refine na ?_ | refine nal ?_ | refine nan ?_); simp only [List.cons_append, List.nil_append, List.length_cons, List.length_nil, Nat.reduceAdd, Nat.zero_add]) | refine nu ?_) | ((first | refine codeE_cond rfl ?_ ?_ | refine st_if rfl rfl rfl rfl rfl ?_ ?_); all_goals (intro hc; (first | (exfalso; cases hc; done) | (simp only [decide_eq_true_eq, decide_eq_false_iff_not, beq_iff_eq, bne_iff_ne, beq_eq_false_iff_ne, bne_eq_false_iff_eq, Bool.not_true, Bool.not_false, Bool.and_eq_true, Bool.or_eq_true, Bool.and_eq_false_iff, Bool.or_eq_false_iff, Bool.not_eq_true', Bool.not_eq_false', Int.not_le, Int.not_lt, ne_eq, Decidable.not_not, eq_self, not_true_eq_false] at hc; (try (exfalso; omega))) | skip))))
  all_goals (simp only [resE, Try.results74, resOf, pack, AM.get, omap, ow_some, loadA, ofV, evO, blkOf, A1.one.injEq, Option.bind_some, Option.map_some, id, reduceIte, if_true, if_false, List.getElem?_cons_zero, List.getElem?_cons_succ, List.length_cons, List.length_nil, List.drop_zero, List.take_succ_cons, List.take_zero, Nat.reduceAdd, Nat.reduceLeDiff, Nat.reduceEqDiff, Nat.zero_add, Nat.le_refl, List.toList_toArray, reduceCtorEq, T0, T4, T8, T12]; repeat' (first | (exact ExpCs.nil) | (exact Exp1s.nil) | (exact exp_val rfl) | (refine exp_val ?_; simp [*]; done) | (exact exp_same) | (exact .nilsl) | (refine ExpCs.cons _ _ _ _ ?_ ?_) | (refine Exp1s.cons _ _ _ _ ?_ ?_) | (refine exp_agg ?_) | (refine exp_one ?_) | (refine exp_tup ?_) | (refine exp_agg1 ?_) | (refine Exp1.one _ _ ?_)))

set_option maxHeartbeats 4000000 in
set_option maxRecDepth 100000 in
theorem aw_laws_eqFlow (e : FlowM) : Pure Try.prog true 187 [.a (.agg [cI (e.kind), cI (e.sip), cI (e.dip), cI (e.sport), cI (e.dport)]), .a (.agg [cI (e.kind), cI (e.sip), cI (e.dip), cI (e.sport), cI (e.dport)])] (Bo true) := by
  obtain ⟨T0, T1, T2, T3, T4, T5, T6, T7, T8, T9, T10, T11, T12, T13, T14, T15⟩ := trFlow; refine pure_of_code' (by kernel_rfl) Try.func187 rfl Try.ntmps187 (by simp) ?_; intro K hK hKn; simp only [argS, Nat.reduceAdd, Nat.zero_add]
  repeat' (first | (with_reducible first | refine opsE_nil ?_ | refine chainE_nil ?_ | refine codeE_ret ?_ | refine codeE_exit ?_ | refine codeE_skip ?_ | refine codeE_block ?_ | refine blockK_normal ?_ | refine blockK_ret ?_ | refine blockK_exit ?_ | refine roundK_ret ?_ | refine roundK_exit ?_ | refine codeE_goto ?_ | refine codeE_label ?_ | refine firstK_ret ?_ | refine passK_ret ?_ | refine passK_normal ?_ | refine passK_exit ?_ | refine blockK_goto ?_) | (with_reducible refine codeE_seq_k ?_; intro Kq hq1 hq2 hq3 hq4) | (with_reducible refine codeE_region ?_; simp only [List.toList_toArray]) | (with_reducible refine blockK_far rfl ?_) | ((with_reducible first | refine hq1 _ _ ?_ | refine hq2 _ _ ?_ | refine hq3 _ _ _ ?_ | refine hq4 _ _ _ ?_); clear hq1 hq2 hq3 hq4 Kq) | ((with_reducible first | refine hK _ _ ?_ | refine hKn _ _ ?_); clear hK hKn K) | (with_reducible refine And.intro (by first | omega | assumption | rfl) ?_) | ((with_reducible show opsE _ _ _ (_ :: _) _ _ _); first | (refine nb ?_; simp only [List.cons_append, List.nil_append, List.length_cons, List.length_nil, Nat.reduceAdd, Nat.zero_add]) | refine nx ?_ | refine ns ?_ | refine ns' ?_ | ((first | refine na ?_ | refine nal ?_ | refine nan ?_); simp only [List.cons_append, List.nil_append, List.length_cons, List.length_nil, Nat.reduceAdd, Nat.zero_add]) | refine nu ?_) | ((first | refine codeE_cond rfl ?_ ?_ | refine st_if rfl rfl rfl rfl rfl ?_ ?_); all_goals (intro hc; (first | (exfalso; cases hc; done) | (simp only [decide_eq_true_eq, decide_eq_false_iff_not, beq_iff_eq, bne_iff_ne, beq_eq_false_iff_ne, bne_eq_false_iff_eq, Bool.not_true, Bool.not_false, Bool.and_eq_true, Bool.or_eq_true, Bool.and_eq_false_iff, Bool.or_eq_false_iff, Bool.not_eq_true', Bool.not_eq_false', Int.not_le, Int.not_lt, ne_eq, Decidable.not_not, eq_self, not_true_eq_false] at hc; (try (exfalso; omega))) | skip))))
  all_goals (simp only [resE, Try.results187, resOf, pack, AM.get, omap, ow_some, loadA, ofV, evO, blkOf, A1.one.injEq, Option.bind_some, Option.map_some, id, reduceIte, if_true, if_false, List.getElem?_cons_zero, List.getElem?_cons_succ, List.length_cons, List.length_nil, List.drop_zero, List.take_succ_cons, List.take_zero, Nat.reduceAdd, Nat.reduceLeDiff, Nat.reduceEqDiff, Nat.zero_add, Nat.le_refl, List.toList_toArray, reduceCtorEq, T0, T4, T8, T12]; repeat' (first | (exact ExpCs.nil) | (exact Exp1s.nil) | (exact exp_val rfl) | (refine exp_val ?_; simp [*]; done) | (exact exp_same) | (exact .nilsl) | (refine ExpCs.cons _ _ _ _ ?_ ?_) | (refine Exp1s.cons _ _ _ _ ?_ ?_) | (refine exp_agg ?_) | (refine exp_one ?_) | (refine exp_tup ?_) | (refine exp_agg1 ?_) | (refine Exp1.one _ _ ?_)))
end Go.Proofs.Ytfbnjemmmgobkaa
