/- Rows of Bool in the laws, by the abstract machine. -/
import Derived.Test.YtkmebahjnnnckaaAMMarkText
namespace Go.Proofs.Ytkmebahjnnnckaa
open Go.RowKit AM
set_option linter.unusedVariables false
set_option linter.unusedSimpArgs false

theorem trBool : sizeL Try.prog 85 = some (1, false) ∧
    zeroL Try.prog 85 = some [.slice none 0 0] ∧
    elemL Try.prog 85 = some (4, 1) ∧
    bytesL Try.prog 85 = some 24 ∧
    sizeL Try.prog 3 = some (1, false) ∧
    zeroL Try.prog 3 = some [.int .i64 0] ∧
    bytesL Try.prog 3 = some 8 ∧
    Try.prog.underlying 3 = some (.int .i64) ∧
    sizeL Try.prog 4 = some (1, false) ∧
    zeroL Try.prog 4 = some [.bool false] ∧
    bytesL Try.prog 4 = some 1 ∧
    Try.prog.underlying 4 = some (.bool) := ⟨by kernel_rfl, by kernel_rfl, by kernel_rfl, by kernel_rfl, by kernel_rfl, by kernel_rfl, by kernel_rfl, by kernel_rfl, by kernel_rfl, by kernel_rfl, by kernel_rfl, by kernel_rfl⟩

abbrev BoolE := Bool
def BoolE.cs (e : BoolE) : List CV := [cB (e)]
def BoolE.pv (e : BoolE) : List PV := [.val (.bool (e))]
theorem BoolE.cs_pv (e : BoolE) : e.cs = e.pv.map .p := rfl
theorem BoolE.cs_len (e : BoolE) : e.cs.length = 1 := rfl
theorem BoolE.cs_plain (e : BoolE) : e.cs.all plainC = true := rfl
def BoolE.sz (e : BoolE) : Nat := 0
def BoolE.sum : List BoolE → Nat
  | [] => 0
  | e :: r => e.sz + BoolE.sum r
theorem BoolE.sum_take : ∀ (l : List BoolE) (i : Nat) (e : BoolE), l[i]? = some e → BoolE.sum (l.take (i + 1)) = BoolE.sum (l.take i) + e.sz ∧ BoolE.sum (l.take (i + 1)) ≤ BoolE.sum l
  | [], i, e, h => by simp at h
  | x :: r, 0, e, h => by cases h; simp [BoolE.sum]
  | x :: r, i + 1, e, h => by
    have := BoolE.sum_take r i e (by simpa using h)
    simp only [List.take_succ_cons, BoolE.sum]
    omega
def BoolE.mkp (k : Int) : List PV := [.val (.bool ((k) % 3 == 0))]
def BoolE.mkc (k : Int) : List CV := [cB ((k) % 3 == 0)]
theorem BoolE.mk_eq (k : Int) : BoolE.mkc k = (BoolE.mkp k).map .p := rfl
def BoolE.mkR (q n : Nat) : List (List CV) := (List.range n).map fun i => BoolE.mkc ((q + 1 * i : Nat) : Int)
def BoolE.mkV (q n : Nat) : List (List PV) := (List.range n).map fun i => BoolE.mkp ((q + 1 * i : Nat) : Int)
theorem BoolE.mkR_succ (q n : Nat) : BoolE.mkR q (n + 1) = BoolE.mkR q n ++ [BoolE.mkc ((q + 1 * n : Nat) : Int)] := by simp [BoolE.mkR, List.range_succ]
theorem BoolE.mkR_plain (q n : Nat) : plainR (BoolE.mkR q n) := plainR_map (fun _ => rfl)
theorem BoolE.mkR_len (q n : Nat) : (BoolE.mkR q n).length = n := by simp [BoolE.mkR]

set_option maxHeartbeats 4000000 in
set_option maxRecDepth 100000 in
theorem aw_laws_eqBoolS (l : List BoolE) (hn : l.length ≤ 2097152) : Pure Try.prog true 126 [one (.p (.view 1 (l.map BoolE.pv))), one (.p (.view 1 (l.map BoolE.pv)))] (Bo true) := by
  obtain ⟨T0, T1, T2, T3, T4, T5, T6, T7, T8, T9, T10, T11⟩ := trBool; refine pure_of_code' (by kernel_rfl) Try.func126 rfl Try.ntmps126 (by simp) ?_; intro K hK hKn; simp only [argS, Nat.reduceAdd, Nat.zero_add]
  repeat' (first | ((with_reducible show codeE _ _ _ (.loop _) _ _ _); refine codeE_loop (fun m t h => ∃ (i : Nat), i ≤ l.length ∧ m + i = l.length ∧ t = [(0, one (.p (.view 1 (l.map BoolE.pv)))), (1, one (.p (.view 1 (l.map BoolE.pv)))), (5, I i)] ∧ h = []) (l.length) ⟨_, _, ?W, 0, by first | omega | (simp; done) | assumption | (simp; omega), by first | omega | (simp; done) | assumption | (simp; omega), rfl, rfl⟩ ?_; (case W => (refine weakE_of [] rfl rfl rfl rfl ?_ ?_; (focus (exact sW)); ((repeat' (first | exact HeapW.nil | refine HeapW.none ?_ | refine HeapW.cons rfl ?_ ?_ | refine HeapW.new (by exact Nat.le_of_ble_eq_true rfl) ?_)); all_goals (first | (refine wkB_plain (plainR_B plR) ?_; (first | (rfl; done) | rfl)) | (refine wkB_row ?_; repeat' (first | exact WkCs.nil | refine WkCs.cons ?_ ?_ | (first | ((with_reducible refine wkC_pure ?_); rfl) | (refine wkC_sl (by exact iotb rfl) rfl ?_ ?_; all_goals (first | rfl | omega | (simp; done) | (simp; omega))) | (refine wkC_sl rfl rfl ?_ ?_; all_goals (first | rfl | omega | (simp; done) | (simp; omega))) | (refine wkC_ptr (by exact iotb rfl) rfl ?_; (first | rfl | omega | (simp; done) | (simp; omega))) | (refine wkC_clo rfl rfl) | (refine wkC_nilsl ?_; (first | rfl | omega | (simp; done) | (simp; omega))) | (refine wkC_nil0 ?_; (first | rfl | omega | (simp; done) | (simp; omega))) | exact wkC_nil1 | (refine wkC_eq rfl ?_; congr 3; omega)))))))); rintro m t h ⟨i, hf0, hm, rfl, rfl⟩; refine (Decidable.em (i < l.length)).elim (fun hlt => ?lpA) (fun hlt => ?lpB); (case' lpA => ((obtain ⟨e, he⟩ : ∃ e, l[i]? = some e := ⟨l[i]'(by omega), by (first | (simp; done) | (simp; omega))⟩))); (case' lpB => ((skip)))) | (with_reducible first | refine opsE_nil ?_ | refine chainE_nil ?_ | refine codeE_ret ?_ | refine codeE_exit ?_ | refine codeE_skip ?_ | refine codeE_block ?_ | refine blockK_normal ?_ | refine blockK_ret ?_ | refine blockK_exit ?_ | refine roundK_ret ?_ | refine roundK_exit ?_ | refine codeE_goto ?_ | refine codeE_label ?_ | refine firstK_ret ?_ | refine passK_ret ?_ | refine passK_normal ?_ | refine passK_exit ?_ | refine blockK_goto ?_) | (with_reducible refine codeE_seq_k ?_; intro Kq hq1 hq2 hq3 hq4) | (with_reducible refine codeE_region ?_; simp only [List.toList_toArray]) | (with_reducible refine blockK_far rfl ?_) | ((with_reducible first | refine hq1 _ _ ?_ | refine hq2 _ _ ?_ | refine hq3 _ _ _ ?_ | refine hq4 _ _ _ ?_); clear hq1 hq2 hq3 hq4 Kq) | ((with_reducible first | refine hK _ _ ?_ | refine hKn _ _ ?_); clear hK hKn K) | (with_reducible refine And.intro (by first | omega | assumption | rfl) ?_) | ((with_reducible show opsE _ _ _ (_ :: _) _ _ _); first | (refine st_call' rfl rfl rfl rfl (.same true rfl (aw_laws_eqBool e)) rfl ?_) | (refine stN rfl rfl rfl rfl (fun K k => by first | exact f_load' rfl rfl (by with_reducible assumption) (by simp only [loadB, BoolE.pv, over, fillA, List.map_cons, List.map_nil, List.length_cons, List.length_nil, List.set_cons_zero, List.set_cons_succ, List.getElem?_cons_zero, List.getElem?_cons_succ, List.getElem?_nil, Option.map_some, Option.map_none, Option.bind_some, if_true, reduceIte, Nat.reduceAdd, Nat.reduceLeDiff, Nat.reduceEqDiff, and_self, Nat.zero_add, Nat.add_zero, Nat.le_refl, and_true, true_and, List.take_succ_cons, List.take_zero, List.drop_succ_cons, List.drop_zero, List.cons_append, List.nil_append, Bool.false_eq_true]; rfl) k) ?_) | (refine nb ?_; simp only [List.cons_append, List.nil_append, List.length_cons, List.length_nil, Nat.reduceAdd, Nat.zero_add]) | refine nx ?_ | refine ns ?_ | refine ns' ?_ | ((first | refine na ?_ | refine nal ?_ | refine nan ?_); simp only [List.cons_append, List.nil_append, List.length_cons, List.length_nil, Nat.reduceAdd, Nat.zero_add]) | refine nu ?_) | ((with_reducible show chainE _ _ _ (_ :: _) _ _ _); (first | (refine sc_call' rfl rfl rfl rfl (.same true rfl (aw_laws_eqBool e)) rfl ?_) | (refine scN rfl rfl rfl (fun K k => by first | exact f_load' rfl rfl (by with_reducible assumption) (by simp only [loadB, BoolE.pv, over, fillA, List.map_cons, List.map_nil, List.length_cons, List.length_nil, List.set_cons_zero, List.set_cons_succ, List.getElem?_cons_zero, List.getElem?_cons_succ, List.getElem?_nil, Option.map_some, Option.map_none, Option.bind_some, if_true, reduceIte, Nat.reduceAdd, Nat.reduceLeDiff, Nat.reduceEqDiff, and_self, Nat.zero_add, Nat.add_zero, Nat.le_refl, and_true, true_and, List.take_succ_cons, List.take_zero, List.drop_succ_cons, List.drop_zero, List.cons_append, List.nil_append, Bool.false_eq_true]; rfl) k) ?_) | (refine nbc ?_; simp only [List.cons_append, List.nil_append, List.length_cons, List.length_nil, Nat.reduceAdd, Nat.zero_add]) | refine nxc ?_ | refine nuc ?_); (try simp only [List.cons_append, List.nil_append])) | ((first | refine codeE_draw (id := 6) 9 (by kernel_rfl) (by kernel_rfl) ?_); simp only [List.toList_toArray, List.take_succ_cons, List.take_zero, List.drop_succ_cons, List.drop_zero]) | ((first | refine codeE_cond rfl ?_ ?_ | refine st_if rfl rfl rfl rfl rfl ?_ ?_ | refine sc_if rfl rfl rfl rfl rfl ?_ ?_); all_goals (intro hc; (first | (exfalso; cases hc; done) | (simp only [decide_eq_true_eq, decide_eq_false_iff_not, beq_iff_eq, bne_iff_ne, beq_eq_false_iff_ne, bne_eq_false_iff_eq, Bool.not_true, Bool.not_false, Bool.and_eq_true, Bool.or_eq_true, Bool.and_eq_false_iff, Bool.or_eq_false_iff, Bool.not_eq_true', Bool.not_eq_false', Int.not_le, Int.not_lt, ne_eq, Decidable.not_not, eq_self, not_true_eq_false] at hc; (try (exfalso; omega))) | skip))))
  all_goals (first | (refine roundK_normal (m - 1) (by omega) _ _ ?W ⟨i + 1, by first | omega | (simp; done) | assumption | (simp; omega), by first | omega | (simp; done) | assumption | (simp; omega), rfl, rfl⟩; (case W => (refine weakE_of [] rfl rfl rfl rfl ?_ ?_; (focus (exact sW)); ((repeat' (first | exact HeapW.nil | refine HeapW.none ?_ | refine HeapW.cons rfl ?_ ?_ | refine HeapW.new (by exact Nat.le_of_ble_eq_true rfl) ?_)); all_goals (first | (refine wkB_plain (plainR_B plR) ?_; (first | (rfl; done) | rfl)) | (refine wkB_row ?_; repeat' (first | exact WkCs.nil | refine WkCs.cons ?_ ?_ | (first | ((with_reducible refine wkC_pure ?_); rfl) | (refine wkC_sl (by exact iotb rfl) rfl ?_ ?_; all_goals (first | rfl | omega | (simp; done) | (simp; omega))) | (refine wkC_sl rfl rfl ?_ ?_; all_goals (first | rfl | omega | (simp; done) | (simp; omega))) | (refine wkC_ptr (by exact iotb rfl) rfl ?_; (first | rfl | omega | (simp; done) | (simp; omega))) | (refine wkC_clo rfl rfl) | (refine wkC_nilsl ?_; (first | rfl | omega | (simp; done) | (simp; omega))) | (refine wkC_nil0 ?_; (first | rfl | omega | (simp; done) | (simp; omega))) | exact wkC_nil1 | (refine wkC_eq rfl ?_; congr 3; omega))))))))) | (simp only [resE, Try.results126, resOf, pack, AM.get, omap, ow_some, loadA, ofV, evO, blkOf, A1.one.injEq, Option.bind_some, Option.map_some, id, reduceIte, if_true, if_false, List.getElem?_cons_zero, List.getElem?_cons_succ, List.length_cons, List.length_nil, List.drop_zero, List.take_succ_cons, List.take_zero, Nat.reduceAdd, Nat.reduceLeDiff, Nat.reduceEqDiff, Nat.zero_add, Nat.le_refl, List.toList_toArray, reduceCtorEq, T0, T4, T8]; (repeat' (first | (exact ExpCs.nil) | (exact Exp1s.nil) | (exact exp_val rfl) | (refine exp_val ?_; simp [*]; done) | (exact exp_same) | (exact .nilsl) | (refine ExpCs.cons _ _ _ _ ?_ ?_) | (refine Exp1s.cons _ _ _ _ ?_ ?_) | (refine exp_agg ?_) | (refine exp_one ?_) | (refine exp_tup ?_) | (refine exp_agg1 ?_) | (refine Exp1.one _ _ ?_))); done))
end Go.Proofs.Ytkmebahjnnnckaa
