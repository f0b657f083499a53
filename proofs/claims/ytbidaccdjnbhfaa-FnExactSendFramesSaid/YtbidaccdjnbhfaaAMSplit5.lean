/- SendFrames of both sides, counts of pieces. -/
import Derived.Test.YtbidaccdjnbhfaaAMSplit3
import Derived.Test.YtbidaccdjnbhfaaAMSplit4
namespace Go.Proofs.Ytbidaccdjnbhfaa
open Go.RowKit AM
set_option linter.unusedVariables false
set_option linter.unusedSimpArgs false

theorem tss : sizeL Try.prog 41 = some (16, true) ∧
    fieldsL Try.prog 41 = some [(0, 1, false), (1, 1, false), (2, 1, false), (3, 1, false), (4, 1, false), (5, 1, false), (6, 1, false), (7, 1, false), (8, 8, true)] ∧
    zeroL Try.prog 41 = some [.int .i64 0, .int .i64 0, .int .i64 0, .int .i64 0, .int .i64 0, .int .i64 0, .int .i64 0, .int .i64 0, .int .i64 0, .int .i64 0, .int .i64 0, .int .i64 0, .int .i64 0, .int .i64 0, .int .i64 0, .string .empty] ∧
    bytesL Try.prog 41 = some 136 ∧
    sizeL Try.prog 26 = some (1, false) ∧
    zeroL Try.prog 26 = some [.slice none 0 0] ∧
    elemL Try.prog 26 = some (41, 16) ∧
    bytesL Try.prog 26 = some 24 ∧
    sizeL Try.prog 45 = some (1, false) ∧
    zeroL Try.prog 45 = some [.slice none 0 0] ∧
    elemL Try.prog 45 = some (9, 1) ∧
    bytesL Try.prog 45 = some 24 ∧
    sizeL Try.prog 9 = some (1, false) ∧
    zeroL Try.prog 9 = some [.string .empty] ∧
    bytesL Try.prog 9 = some 16 ∧
    Try.prog.underlying 9 = some (.string) ∧
    sizeL Try.prog 3 = some (1, false) ∧
    zeroL Try.prog 3 = some [.int .i64 0] ∧
    bytesL Try.prog 3 = some 8 ∧
    Try.prog.underlying 3 = some (.int .i64) ∧
    sizeL Try.prog 4 = some (1, false) ∧
    zeroL Try.prog 4 = some [.bool false] ∧
    bytesL Try.prog 4 = some 1 ∧
    Try.prog.underlying 4 = some (.bool) := ⟨by kernel_rfl, by kernel_rfl, by kernel_rfl, by kernel_rfl, by kernel_rfl, by kernel_rfl, by kernel_rfl, by kernel_rfl, by kernel_rfl, by kernel_rfl, by kernel_rfl, by kernel_rfl, by kernel_rfl, by kernel_rfl, by kernel_rfl, by kernel_rfl, by kernel_rfl, by kernel_rfl, by kernel_rfl, by kernel_rfl, by kernel_rfl, by kernel_rfl, by kernel_rfl, by kernel_rfl⟩

theorem splitL_len (p : PktM) (size : Int) : (splitL p size).length ≤ 1 + p.seg.body.size := by
  by_cases h : splitOk p size
  · by_cases h2 : p.seg.kind = 6 ∧ size < (p.seg.body.size : Int)
    · rw [splitL_many h h2, List.length_map, List.length_range]
      have := cnt_le (n := p.seg.body.size) h.2.1 (by omega)
      omega
    · rw [splitL_one h h2]; simp
  · rw [splitL_no h]; simp
theorem splitL_320 (p : PktM) (size : Int) : (splitL p size).length ≤ 321 := by
  by_cases h : splitOk p size
  · have := splitL_len p size
    have := (superok_lin h.1).2.2
    omega
  · rw [splitL_no h]; simp

set_option maxHeartbeats 4000000 in
set_option maxRecDepth 100000 in
theorem am_spec_SplitCount (p : PktM) (size : Int) : Pure Try.prog true 24 [.a (.agg [cI (p.dmac), cI (p.smac), cI (p.vlan), cI (p.tos), cI (p.id), cI (p.ttl), cI (p.sip), cI (p.dip), cI (p.seg.kind), cI (p.seg.sport), cI (p.seg.dport), cI (p.seg.seq), cI (p.seg.ack), cI (p.seg.flags), cI (p.seg.window), cS (p.seg.body)]), I size] (I (splitL p size).length) := by
  obtain ⟨T0, T1, T2, T3, T4, T5, T6, T7, T8, T9, T10, T11, T12, T13, T14, T15, T16, T17, T18, T19, T20, T21, T22, T23⟩ := tss; refine pure_of_code' (by kernel_rfl) Try.func24 rfl Try.ntmps24 (by simp) ?_; intro K hK hKn; simp only [argS, Nat.reduceAdd, Nat.zero_add]
  repeat' (first | (with_reducible first | refine opsE_nil ?_ | refine chainE_nil ?_ | refine codeE_ret ?_ | refine codeE_exit ?_ | refine codeE_skip ?_ | refine codeE_block ?_ | refine blockK_normal ?_ | refine blockK_ret ?_ | refine blockK_exit ?_ | refine roundK_ret ?_ | refine roundK_exit ?_) | (with_reducible refine codeE_seq_k ?_; intro Kq hq1 hq2 hq3 hq4) | (with_reducible refine codeE_region ?_; simp only [List.toList_toArray]) | (with_reducible refine blockK_far rfl ?_) | ((with_reducible first | refine hq1 _ _ ?_ | refine hq2 _ _ ?_ | refine hq3 _ _ _ ?_ | refine hq4 _ _ _ ?_); clear hq1 hq2 hq3 hq4 Kq) | ((with_reducible first | refine hK _ _ ?_ | refine hKn _ _ ?_); clear hK hKn K) | (with_reducible refine And.intro (by first | omega | assumption | rfl) ?_) | ((with_reducible show opsE _ _ _ (_ :: _) _ _ _); first | (refine st_call' rfl rfl rfl rfl (.own _ eL (am_spec_Split p size)) rfl ?_) | (refine nb ?_; simp only [List.cons_append, List.nil_append, List.length_cons, List.length_nil, Nat.reduceAdd, Nat.zero_add]) | refine nx ?_ | refine ns ?_ | refine ns' ?_ | ((first | refine na ?_ | refine nal ?_ | refine nan ?_); simp only [List.cons_append, List.nil_append, List.length_cons, List.length_nil, Nat.reduceAdd, Nat.zero_add]) | refine nu ?_) | ((first | refine codeE_cond rfl ?_ ?_ | refine st_if rfl rfl rfl rfl rfl ?_ ?_); all_goals (intro hc; (first | (exfalso; cases hc; done) | (simp only [decide_eq_true_eq, decide_eq_false_iff_not, beq_iff_eq, bne_iff_ne, beq_eq_false_iff_ne, bne_eq_false_iff_eq, Bool.not_true, Bool.not_false, Bool.and_eq_true, Bool.or_eq_true, Bool.and_eq_false_iff, Bool.or_eq_false_iff, Bool.not_eq_true', Bool.not_eq_false', Int.not_le, Int.not_lt, ne_eq, Decidable.not_not, eq_self, not_true_eq_false] at hc; (try (exfalso; omega))) | skip))))
  all_goals (simp only [resE, Try.results24, resOf, pack, AM.get, omap, ow_some, loadA, ofV, evO, blkOf, A1.one.injEq, Option.bind_some, Option.map_some, id, reduceIte, if_true, if_false, List.getElem?_cons_zero, List.getElem?_cons_succ, List.length_cons, List.length_nil, List.drop_zero, List.take_succ_cons, List.take_zero, Nat.reduceAdd, Nat.reduceLeDiff, Nat.reduceEqDiff, Nat.zero_add, Nat.le_refl, List.toList_toArray, reduceCtorEq, T0, T4, T8, T12, T16, T20]; repeat' (first | (exact ExpCs.nil) | (exact Exp1s.nil) | (exact exp_val rfl) | (refine exp_val ?_; simp [*]; done) | (exact exp_same) | (exact .nilsl) | (refine ExpCs.cons _ _ _ _ ?_ ?_) | (refine Exp1s.cons _ _ _ _ ?_ ?_) | (refine exp_agg ?_) | (refine exp_one ?_) | (refine exp_tup ?_) | (refine exp_agg1 ?_) | (refine Exp1.one _ _ ?_)))

theorem am_impl_SplitCount (p : PktM) (size : Int) : Pure Try.prog true 26 [.a (.agg [cI (p.dmac), cI (p.smac), cI (p.vlan), cI (p.tos), cI (p.id), cI (p.ttl), cI (p.sip), cI (p.dip), cI (p.seg.kind), cI (p.seg.sport), cI (p.seg.dport), cI (p.seg.seq), cI (p.seg.ack), cI (p.seg.flags), cI (p.seg.window), cS (p.seg.body)]), I size] (I (splitL p size).length) := by
  by_cases hs : p.SuperOk
  · by_cases hz : 1 ≤ size ∧ size ≤ 128
    · by_cases h : p.seg.kind = 6 ∧ size < (p.seg.body.size : Int)
      · rw [splitL_many ⟨hs, hz⟩ h, List.length_map, List.length_range]; exact am_impl_SplitCount_many p size hs hz.1 hz.2 h
      · rw [splitL_one ⟨hs, hz⟩ h]; exact am_impl_SplitCount_one p size hs hz.1 hz.2 h
    · rw [splitL_no (fun hh => hz hh.2)]; exact am_impl_SplitCount_no2 p size hs hz
  · rw [splitL_no (fun hh => hs hh.1)]; exact am_impl_SplitCount_no1 p size hs
end Go.Proofs.Ytbidaccdjnbhfaa
