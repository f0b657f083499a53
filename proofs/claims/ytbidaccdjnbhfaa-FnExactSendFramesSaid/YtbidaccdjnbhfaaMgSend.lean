/- Texts of one claim, merged. -/
import Derived.Test.YtbidaccdjnbhfaaAMJoin1
import Derived.Test.YtbidaccdjnbhfaaKit
import Derived.Test.YtbidaccdjnbhfaaPktMath
import Derived.Test.YtbidaccdjnbhfaaAMJoin2
import Derived.Test.YtbidaccdjnbhfaaAMSplit6
import Derived.Test.YtbidaccdjnbhfaaAMMarkString
import Derived.Test.YtbidaccdjnbhfaaAMHeldString
import Derived.Test.YtbidaccdjnbhfaaBase
import Derived.Lib.SmallJoins
import Derived.Deep.Fields
import Derived.OpenShut
import Derived.ShutString
import Derived.ChangeOld
import Derived.Test.YtbidaccdjnbhfaaAM23
import Derived.Deep.Slices
/- CanJoin of the program. -/
namespace Go.Proofs.Ytbidaccdjnbhfaa
open Go.RowKit AM
set_option linter.unusedVariables false
set_option linter.unusedSimpArgs false

set_option maxHeartbeats 4000000 in
set_option maxRecDepth 100000 in
theorem am_impl_CanJoin_yes (s : SupM) (p : PktM) (hs : s.pkt.SuperOk) (hp : p.Ok) (hm : samePath s.pkt p = true) : Pure Try.prog true 60 [.a (.agg [cI (s.pkt.dmac), cI (s.pkt.smac), cI (s.pkt.vlan), cI (s.pkt.tos), cI (s.pkt.id), cI (s.pkt.ttl), cI (s.pkt.sip), cI (s.pkt.dip), cI (s.pkt.seg.kind), cI (s.pkt.seg.sport), cI (s.pkt.seg.dport), cI (s.pkt.seg.seq), cI (s.pkt.seg.ack), cI (s.pkt.seg.flags), cI (s.pkt.seg.window), cS (s.pkt.seg.body), cI (s.size), cI (s.count)]), .a (.agg [cI (p.dmac), cI (p.smac), cI (p.vlan), cI (p.tos), cI (p.id), cI (p.ttl), cI (p.sip), cI (p.dip), cI (p.seg.kind), cI (p.seg.sport), cI (p.seg.dport), cI (p.seg.seq), cI (p.seg.ack), cI (p.seg.flags), cI (p.seg.window), cS (p.seg.body)])] (Bo (decide (joinF s p))) := by
  have hs' := hs
  have hp' := hp.1
  unfold PktM.SuperOk SegM.Ok at hs' hp'
  have hm' := kind_same hm
  obtain ⟨T0, T1, T2, T3, T4, T5, T6, T7, T8, T9, T10, T11, T12, T13, T14, T15, T16, T17, T18, T19, T20, T21, T22, T23, T24, T25, T26, T27⟩ := tj; refine pure_of_code' (by kernel_rfl) Try.func60 rfl Try.ntmps60 (by simp) ?_; intro K hK hKn; simp only [argS, Nat.reduceAdd, Nat.zero_add]
  repeat' (first | (with_reducible first | refine opsE_nil ?_ | refine chainE_nil ?_ | refine codeE_ret ?_ | refine codeE_exit ?_ | refine codeE_skip ?_ | refine codeE_block ?_ | refine blockK_normal ?_ | refine blockK_ret ?_ | refine blockK_exit ?_ | refine roundK_ret ?_ | refine roundK_exit ?_) | (with_reducible refine codeE_seq_k ?_; intro Kq hq1 hq2 hq3 hq4) | (with_reducible refine codeE_region ?_; simp only [List.toList_toArray]) | (with_reducible refine blockK_far rfl ?_) | ((with_reducible first | refine hq1 _ _ ?_ | refine hq2 _ _ ?_ | refine hq3 _ _ _ ?_ | refine hq4 _ _ _ ?_); clear hq1 hq2 hq3 hq4 Kq) | ((with_reducible first | refine hK _ _ ?_ | refine hKn _ _ ?_); clear hK hKn K) | (with_reducible refine And.intro (by first | omega | assumption | rfl) ?_) | ((with_reducible show opsE _ _ _ (_ :: _) _ _ _); first | (refine st_call' rfl rfl rfl rfl (.same true rfl (am_impl_superok_yes hs)) rfl ?_) | (refine st_call' rfl rfl rfl rfl (.same true rfl (am_impl_packetok_yes hp)) rfl ?_) | (refine st_call' rfl rfl rfl rfl (.same true rfl (am_impl_samepath_yes hm)) rfl ?_) | (refine st_call' rfl rfl rfl rfl (.same true rfl (am_impl_onlyData _)) rfl ?_) | (refine st_call' rfl rfl rfl rfl (.same true rfl (am_growing_full s)) rfl ?_) | (refine st_call' rfl rfl rfl rfl (.same true rfl (am_growing_fits s p (by omega) (by omega))) rfl ?_) | (refine st_call' rfl rfl rfl rfl (.same true rfl (am_growing_isNext s p (by omega) (by omega) (by omega) (full_bd (by assumption)))) rfl ?_) | (refine nb ?_; simp only [List.cons_append, List.nil_append, List.length_cons, List.length_nil, Nat.reduceAdd, Nat.zero_add]) | refine nx ?_ | refine ns ?_ | refine ns' ?_ | ((first | refine na ?_ | refine nal ?_ | refine nan ?_); simp only [List.cons_append, List.nil_append, List.length_cons, List.length_nil, Nat.reduceAdd, Nat.zero_add]) | refine nu ?_) | ((first | refine codeE_cond rfl ?_ ?_ | refine st_if rfl rfl rfl rfl rfl ?_ ?_); all_goals (intro hc; (first | (exfalso; cases hc; done) | (simp only [decide_eq_true_eq, decide_eq_false_iff_not, beq_iff_eq, bne_iff_ne, beq_eq_false_iff_ne, bne_eq_false_iff_eq, Bool.not_true, Bool.not_false, Bool.and_eq_true, Bool.or_eq_true, Bool.and_eq_false_iff, Bool.or_eq_false_iff, Bool.not_eq_true', Bool.not_eq_false', Int.not_le, Int.not_lt, ne_eq, Decidable.not_not, eq_self, not_true_eq_false] at hc; (try (exfalso; omega))) | skip))))
  all_goals (simp only [resE, Try.results60, resOf, pack, AM.get, omap, ow_some, loadA, ofV, evO, blkOf, A1.one.injEq, Option.bind_some, Option.map_some, id, reduceIte, if_true, if_false, List.getElem?_cons_zero, List.getElem?_cons_succ, List.length_cons, List.length_nil, List.drop_zero, List.take_succ_cons, List.take_zero, Nat.reduceAdd, Nat.reduceLeDiff, Nat.reduceEqDiff, Nat.zero_add, Nat.le_refl, List.toList_toArray, reduceCtorEq, T0, T4, T8, T12, T16, T20, T24]; repeat' (first | (refine exp_val (congrArg Value.bool ?_); rw [Bool.eq_iff_iff]; simp only [beq_iff_eq, bne_iff_ne, ne_eq, decide_eq_true_eq, Bool.false_eq_true, false_iff, true_iff, Bool.and_eq_true, Bool.not_eq_true', decide_eq_false_iff_not]; (try simp only [joinF, fullF, fitsF, nextF] at *); omega) | (exact ExpCs.nil) | (exact Exp1s.nil) | (exact exp_val rfl) | (refine exp_val ?_; simp [*]; done) | (exact exp_same) | (exact .nilsl) | (refine ExpCs.cons _ _ _ _ ?_ ?_) | (refine Exp1s.cons _ _ _ _ ?_ ?_) | (refine exp_agg ?_) | (refine exp_one ?_) | (refine exp_tup ?_) | (refine exp_agg1 ?_) | (refine Exp1.one _ _ ?_)))

set_option maxHeartbeats 4000000 in
set_option maxRecDepth 100000 in
theorem am_impl_CanJoin_no1 (s : SupM) (p : PktM) (hs : ¬ s.pkt.SuperOk) : Pure Try.prog true 60 [.a (.agg [cI (s.pkt.dmac), cI (s.pkt.smac), cI (s.pkt.vlan), cI (s.pkt.tos), cI (s.pkt.id), cI (s.pkt.ttl), cI (s.pkt.sip), cI (s.pkt.dip), cI (s.pkt.seg.kind), cI (s.pkt.seg.sport), cI (s.pkt.seg.dport), cI (s.pkt.seg.seq), cI (s.pkt.seg.ack), cI (s.pkt.seg.flags), cI (s.pkt.seg.window), cS (s.pkt.seg.body), cI (s.size), cI (s.count)]), .a (.agg [cI (p.dmac), cI (p.smac), cI (p.vlan), cI (p.tos), cI (p.id), cI (p.ttl), cI (p.sip), cI (p.dip), cI (p.seg.kind), cI (p.seg.sport), cI (p.seg.dport), cI (p.seg.seq), cI (p.seg.ack), cI (p.seg.flags), cI (p.seg.window), cS (p.seg.body)])] (Bo false) := by
  obtain ⟨T0, T1, T2, T3, T4, T5, T6, T7, T8, T9, T10, T11, T12, T13, T14, T15, T16, T17, T18, T19, T20, T21, T22, T23, T24, T25, T26, T27⟩ := tj; refine pure_of_code' (by kernel_rfl) Try.func60 rfl Try.ntmps60 (by simp) ?_; intro K hK hKn; simp only [argS, Nat.reduceAdd, Nat.zero_add]
  repeat' (first | (with_reducible first | refine opsE_nil ?_ | refine chainE_nil ?_ | refine codeE_ret ?_ | refine codeE_exit ?_ | refine codeE_skip ?_ | refine codeE_block ?_ | refine blockK_normal ?_ | refine blockK_ret ?_ | refine blockK_exit ?_ | refine roundK_ret ?_ | refine roundK_exit ?_) | (with_reducible refine codeE_seq_k ?_; intro Kq hq1 hq2 hq3 hq4) | (with_reducible refine codeE_region ?_; simp only [List.toList_toArray]) | (with_reducible refine blockK_far rfl ?_) | ((with_reducible first | refine hq1 _ _ ?_ | refine hq2 _ _ ?_ | refine hq3 _ _ _ ?_ | refine hq4 _ _ _ ?_); clear hq1 hq2 hq3 hq4 Kq) | ((with_reducible first | refine hK _ _ ?_ | refine hKn _ _ ?_); clear hK hKn K) | (with_reducible refine And.intro (by first | omega | assumption | rfl) ?_) | ((with_reducible show opsE _ _ _ (_ :: _) _ _ _); first | (refine st_call' rfl rfl rfl rfl (.same true rfl (am_impl_superok_no hs)) rfl ?_) | (refine nb ?_; simp only [List.cons_append, List.nil_append, List.length_cons, List.length_nil, Nat.reduceAdd, Nat.zero_add]) | refine nx ?_ | refine ns ?_ | refine ns' ?_ | ((first | refine na ?_ | refine nal ?_ | refine nan ?_); simp only [List.cons_append, List.nil_append, List.length_cons, List.length_nil, Nat.reduceAdd, Nat.zero_add]) | refine nu ?_) | ((first | refine codeE_cond rfl ?_ ?_ | refine st_if rfl rfl rfl rfl rfl ?_ ?_); all_goals (intro hc; (first | (exfalso; cases hc; done) | (simp only [decide_eq_true_eq, decide_eq_false_iff_not, beq_iff_eq, bne_iff_ne, beq_eq_false_iff_ne, bne_eq_false_iff_eq, Bool.not_true, Bool.not_false, Bool.and_eq_true, Bool.or_eq_true, Bool.and_eq_false_iff, Bool.or_eq_false_iff, Bool.not_eq_true', Bool.not_eq_false', Int.not_le, Int.not_lt, ne_eq, Decidable.not_not, eq_self, not_true_eq_false] at hc; (try (exfalso; omega))) | skip))))
  all_goals (simp only [resE, Try.results60, resOf, pack, AM.get, omap, ow_some, loadA, ofV, evO, blkOf, A1.one.injEq, Option.bind_some, Option.map_some, id, reduceIte, if_true, if_false, List.getElem?_cons_zero, List.getElem?_cons_succ, List.length_cons, List.length_nil, List.drop_zero, List.take_succ_cons, List.take_zero, Nat.reduceAdd, Nat.reduceLeDiff, Nat.reduceEqDiff, Nat.zero_add, Nat.le_refl, List.toList_toArray, reduceCtorEq, T0, T4, T8, T12, T16, T20, T24]; repeat' (first | (exact ExpCs.nil) | (exact Exp1s.nil) | (exact exp_val rfl) | (refine exp_val ?_; simp [*]; done) | (exact exp_same) | (exact .nilsl) | (refine ExpCs.cons _ _ _ _ ?_ ?_) | (refine Exp1s.cons _ _ _ _ ?_ ?_) | (refine exp_agg ?_) | (refine exp_one ?_) | (refine exp_tup ?_) | (refine exp_agg1 ?_) | (refine Exp1.one _ _ ?_)))

set_option maxHeartbeats 4000000 in
set_option maxRecDepth 100000 in
theorem am_impl_CanJoin_no2 (s : SupM) (p : PktM) (hs : s.pkt.SuperOk) (hp : ¬ p.Ok) : Pure Try.prog true 60 [.a (.agg [cI (s.pkt.dmac), cI (s.pkt.smac), cI (s.pkt.vlan), cI (s.pkt.tos), cI (s.pkt.id), cI (s.pkt.ttl), cI (s.pkt.sip), cI (s.pkt.dip), cI (s.pkt.seg.kind), cI (s.pkt.seg.sport), cI (s.pkt.seg.dport), cI (s.pkt.seg.seq), cI (s.pkt.seg.ack), cI (s.pkt.seg.flags), cI (s.pkt.seg.window), cS (s.pkt.seg.body), cI (s.size), cI (s.count)]), .a (.agg [cI (p.dmac), cI (p.smac), cI (p.vlan), cI (p.tos), cI (p.id), cI (p.ttl), cI (p.sip), cI (p.dip), cI (p.seg.kind), cI (p.seg.sport), cI (p.seg.dport), cI (p.seg.seq), cI (p.seg.ack), cI (p.seg.flags), cI (p.seg.window), cS (p.seg.body)])] (Bo false) := by
  obtain ⟨T0, T1, T2, T3, T4, T5, T6, T7, T8, T9, T10, T11, T12, T13, T14, T15, T16, T17, T18, T19, T20, T21, T22, T23, T24, T25, T26, T27⟩ := tj; refine pure_of_code' (by kernel_rfl) Try.func60 rfl Try.ntmps60 (by simp) ?_; intro K hK hKn; simp only [argS, Nat.reduceAdd, Nat.zero_add]
  repeat' (first | (with_reducible first | refine opsE_nil ?_ | refine chainE_nil ?_ | refine codeE_ret ?_ | refine codeE_exit ?_ | refine codeE_skip ?_ | refine codeE_block ?_ | refine blockK_normal ?_ | refine blockK_ret ?_ | refine blockK_exit ?_ | refine roundK_ret ?_ | refine roundK_exit ?_) | (with_reducible refine codeE_seq_k ?_; intro Kq hq1 hq2 hq3 hq4) | (with_reducible refine codeE_region ?_; simp only [List.toList_toArray]) | (with_reducible refine blockK_far rfl ?_) | ((with_reducible first | refine hq1 _ _ ?_ | refine hq2 _ _ ?_ | refine hq3 _ _ _ ?_ | refine hq4 _ _ _ ?_); clear hq1 hq2 hq3 hq4 Kq) | ((with_reducible first | refine hK _ _ ?_ | refine hKn _ _ ?_); clear hK hKn K) | (with_reducible refine And.intro (by first | omega | assumption | rfl) ?_) | ((with_reducible show opsE _ _ _ (_ :: _) _ _ _); first | (refine st_call' rfl rfl rfl rfl (.same true rfl (am_impl_superok_yes hs)) rfl ?_) | (refine st_call' rfl rfl rfl rfl (.same true rfl (am_impl_packetok_no hp)) rfl ?_) | (refine nb ?_; simp only [List.cons_append, List.nil_append, List.length_cons, List.length_nil, Nat.reduceAdd, Nat.zero_add]) | refine nx ?_ | refine ns ?_ | refine ns' ?_ | ((first | refine na ?_ | refine nal ?_ | refine nan ?_); simp only [List.cons_append, List.nil_append, List.length_cons, List.length_nil, Nat.reduceAdd, Nat.zero_add]) | refine nu ?_) | ((first | refine codeE_cond rfl ?_ ?_ | refine st_if rfl rfl rfl rfl rfl ?_ ?_); all_goals (intro hc; (first | (exfalso; cases hc; done) | (simp only [decide_eq_true_eq, decide_eq_false_iff_not, beq_iff_eq, bne_iff_ne, beq_eq_false_iff_ne, bne_eq_false_iff_eq, Bool.not_true, Bool.not_false, Bool.and_eq_true, Bool.or_eq_true, Bool.and_eq_false_iff, Bool.or_eq_false_iff, Bool.not_eq_true', Bool.not_eq_false', Int.not_le, Int.not_lt, ne_eq, Decidable.not_not, eq_self, not_true_eq_false] at hc; (try (exfalso; omega))) | skip))))
  all_goals (simp only [resE, Try.results60, resOf, pack, AM.get, omap, ow_some, loadA, ofV, evO, blkOf, A1.one.injEq, Option.bind_some, Option.map_some, id, reduceIte, if_true, if_false, List.getElem?_cons_zero, List.getElem?_cons_succ, List.length_cons, List.length_nil, List.drop_zero, List.take_succ_cons, List.take_zero, Nat.reduceAdd, Nat.reduceLeDiff, Nat.reduceEqDiff, Nat.zero_add, Nat.le_refl, List.toList_toArray, reduceCtorEq, T0, T4, T8, T12, T16, T20, T24]; repeat' (first | (exact ExpCs.nil) | (exact Exp1s.nil) | (exact exp_val rfl) | (refine exp_val ?_; simp [*]; done) | (exact exp_same) | (exact .nilsl) | (refine ExpCs.cons _ _ _ _ ?_ ?_) | (refine Exp1s.cons _ _ _ _ ?_ ?_) | (refine exp_agg ?_) | (refine exp_one ?_) | (refine exp_tup ?_) | (refine exp_agg1 ?_) | (refine Exp1.one _ _ ?_)))

set_option maxHeartbeats 4000000 in
set_option maxRecDepth 100000 in
theorem am_impl_CanJoin_no3 (s : SupM) (p : PktM) (hs : s.pkt.SuperOk) (hp : p.Ok) (hm : samePath s.pkt p = false) : Pure Try.prog true 60 [.a (.agg [cI (s.pkt.dmac), cI (s.pkt.smac), cI (s.pkt.vlan), cI (s.pkt.tos), cI (s.pkt.id), cI (s.pkt.ttl), cI (s.pkt.sip), cI (s.pkt.dip), cI (s.pkt.seg.kind), cI (s.pkt.seg.sport), cI (s.pkt.seg.dport), cI (s.pkt.seg.seq), cI (s.pkt.seg.ack), cI (s.pkt.seg.flags), cI (s.pkt.seg.window), cS (s.pkt.seg.body), cI (s.size), cI (s.count)]), .a (.agg [cI (p.dmac), cI (p.smac), cI (p.vlan), cI (p.tos), cI (p.id), cI (p.ttl), cI (p.sip), cI (p.dip), cI (p.seg.kind), cI (p.seg.sport), cI (p.seg.dport), cI (p.seg.seq), cI (p.seg.ack), cI (p.seg.flags), cI (p.seg.window), cS (p.seg.body)])] (Bo false) := by
  obtain ⟨T0, T1, T2, T3, T4, T5, T6, T7, T8, T9, T10, T11, T12, T13, T14, T15, T16, T17, T18, T19, T20, T21, T22, T23, T24, T25, T26, T27⟩ := tj; refine pure_of_code' (by kernel_rfl) Try.func60 rfl Try.ntmps60 (by simp) ?_; intro K hK hKn; simp only [argS, Nat.reduceAdd, Nat.zero_add]
  repeat' (first | (with_reducible first | refine opsE_nil ?_ | refine chainE_nil ?_ | refine codeE_ret ?_ | refine codeE_exit ?_ | refine codeE_skip ?_ | refine codeE_block ?_ | refine blockK_normal ?_ | refine blockK_ret ?_ | refine blockK_exit ?_ | refine roundK_ret ?_ | refine roundK_exit ?_) | (with_reducible refine codeE_seq_k ?_; intro Kq hq1 hq2 hq3 hq4) | (with_reducible refine codeE_region ?_; simp only [List.toList_toArray]) | (with_reducible refine blockK_far rfl ?_) | ((with_reducible first | refine hq1 _ _ ?_ | refine hq2 _ _ ?_ | refine hq3 _ _ _ ?_ | refine hq4 _ _ _ ?_); clear hq1 hq2 hq3 hq4 Kq) | ((with_reducible first | refine hK _ _ ?_ | refine hKn _ _ ?_); clear hK hKn K) | (with_reducible refine And.intro (by first | omega | assumption | rfl) ?_) | ((with_reducible show opsE _ _ _ (_ :: _) _ _ _); first | (refine st_call' rfl rfl rfl rfl (.same true rfl (am_impl_superok_yes hs)) rfl ?_) | (refine st_call' rfl rfl rfl rfl (.same true rfl (am_impl_packetok_yes hp)) rfl ?_) | (refine st_call' rfl rfl rfl rfl (.same true rfl (am_impl_samepath_no hm)) rfl ?_) | (refine nb ?_; simp only [List.cons_append, List.nil_append, List.length_cons, List.length_nil, Nat.reduceAdd, Nat.zero_add]) | refine nx ?_ | refine ns ?_ | refine ns' ?_ | ((first | refine na ?_ | refine nal ?_ | refine nan ?_); simp only [List.cons_append, List.nil_append, List.length_cons, List.length_nil, Nat.reduceAdd, Nat.zero_add]) | refine nu ?_) | ((first | refine codeE_cond rfl ?_ ?_ | refine st_if rfl rfl rfl rfl rfl ?_ ?_); all_goals (intro hc; (first | (exfalso; cases hc; done) | (simp only [decide_eq_true_eq, decide_eq_false_iff_not, beq_iff_eq, bne_iff_ne, beq_eq_false_iff_ne, bne_eq_false_iff_eq, Bool.not_true, Bool.not_false, Bool.and_eq_true, Bool.or_eq_true, Bool.and_eq_false_iff, Bool.or_eq_false_iff, Bool.not_eq_true', Bool.not_eq_false', Int.not_le, Int.not_lt, ne_eq, Decidable.not_not, eq_self, not_true_eq_false] at hc; (try (exfalso; omega))) | skip))))
  all_goals (simp only [resE, Try.results60, resOf, pack, AM.get, omap, ow_some, loadA, ofV, evO, blkOf, A1.one.injEq, Option.bind_some, Option.map_some, id, reduceIte, if_true, if_false, List.getElem?_cons_zero, List.getElem?_cons_succ, List.length_cons, List.length_nil, List.drop_zero, List.take_succ_cons, List.take_zero, Nat.reduceAdd, Nat.reduceLeDiff, Nat.reduceEqDiff, Nat.zero_add, Nat.le_refl, List.toList_toArray, reduceCtorEq, T0, T4, T8, T12, T16, T20, T24]; repeat' (first | (exact ExpCs.nil) | (exact Exp1s.nil) | (exact exp_val rfl) | (refine exp_val ?_; simp [*]; done) | (exact exp_same) | (exact .nilsl) | (refine ExpCs.cons _ _ _ _ ?_ ?_) | (refine Exp1s.cons _ _ _ _ ?_ ?_) | (refine exp_agg ?_) | (refine exp_one ?_) | (refine exp_tup ?_) | (refine exp_agg1 ?_) | (refine Exp1.one _ _ ?_)))
end Go.Proofs.Ytbidaccdjnbhfaa

/- The laws' own help for Segment: toSegment, szSegment. -/
namespace Go.Proofs.Ytbidaccdjnbhfaa
open Go.RowKit
set_option linter.unusedSimpArgs false
set_option maxHeartbeats 2000000 in
set_option maxRecDepth 100000 in
theorem to_segment (e : SegM) (w : World) :
    Calls Try.prog 67 #[e.val] w fun r w' => r = .returned e.val ∧ Below w.heap.size w w' := by
  obtain ⟨k, sp, dp, q, c, f, n, b⟩ := e
  unfold SegM.val
  dsimp only
  go_enter Try.func67, Try.ntmps67
  go_wp2
  refine bodyPost_ret (v := .agg #[.int .i64 k, .int .i64 sp, .int .i64 dp, .int .i64 q, .int .i64 c, .int .i64 f, .int .i64 n, .string b]) (by simp [results, Try.results67, go_sem]) rfl ⟨rfl, ?_⟩
  exact below_comp (below_comp (below_new _) (below_new _)) (below_new _)
theorem sz_segment (e : SegM) (left : Int) (w : World) (hw : e.Wf) (h : 0 ≤ left ∧ left ≤ 4194304) :
    Calls Try.prog 66 #[e.val, .int .i64 left] w fun r w' => r = .returned (.int .i64 (if left < e.body.size then -1 else left - e.body.size)) ∧ Below w.heap.size w w' := by
  obtain ⟨k, sp, dp, q, c, f, n, b⟩ := e
  have hb : b.size ≤ 9223372036854775807 := hw.2.2.2.2.2.2.2
  unfold SegM.val
  dsimp only
  by_cases hl : left < b.size
  all_goals
    try have h1 : left - b.size < 0 := by omega
    go_enter Try.func66, Try.ntmps66
    go_wp2
    go_ret
    exact ⟨rfl, below_new _⟩
end Go.Proofs.Ytbidaccdjnbhfaa

/- The laws' own help for packets: toPacket, szPacket. -/
namespace Go.Proofs.Ytbidaccdjnbhfaa
open Go.RowKit
set_option linter.unusedSimpArgs false
set_option linter.unusedVariables false
set_option maxHeartbeats 4000000 in
set_option maxRecDepth 100000 in
theorem to_packet (p : PktM) (w : World) :
    Calls Try.prog 25 #[p.val] w fun r w' => r = .returned p.val ∧ Below w.heap.size w w' := by
  have HT := Lib.hid fun W => to_segment p.seg W
  obtain ⟨dm, sm, vl, ts, id, tl, si, di, ⟨k, sp, dp, q, c, f, n, b⟩⟩ := p
  unfold PktM.val
  unfold SegM.val at HT
  dsimp only at *
  go_enter Try.func25, Try.ntmps25
  go_wp2_with fail
  refine (HT.out _).mono ?_
  rintro e w1 ⟨rfl, hb1⟩
  obtain ⟨hc, hf, _⟩ := bcell hb1
  have hz := hb1.size
  simp at hz
  have hg0 : w.heap.size < w1.heap.size := by omega
  have hg1 : w.heap.size + 1 < w1.heap.size := by omega
  have hg2 : w.heap.size + 1 + 1 < w1.heap.size := by omega
  go_wp2
  refine bodyPost_ret (v := .agg #[.int .i64 dm, .int .i64 sm, .int .i64 vl, .int .i64 ts, .int .i64 id, .int .i64 tl, .int .i64 si, .int .i64 di, .int .i64 k, .int .i64 sp, .int .i64 dp, .int .i64 q, .int .i64 c, .int .i64 f, .int .i64 n, .string b]) (by simp [results, Try.results25, go_sem, hc, hg0, hg1, hg2]) rfl ⟨rfl, ?_⟩
  have hb3 : Below w.heap.size w w1 := below_comp (below_comp (below_comp (below_new _) (below_new _)) (below_new _)) hb1
  repeat (with_reducible refine Below.setCell ?_ (by dsimp only; omega) _)
  exact hb3
theorem sz_packet (p : PktM) (left : Int) (w : World) (hw : p.Wf) (h : 0 ≤ left ∧ left ≤ 4194304) :
    Calls Try.prog 23 #[p.val, .int .i64 left] w fun r w' => r = .returned (.int .i64 (if left < p.seg.body.size then -1 else left - p.seg.body.size)) ∧ Below w.heap.size w w' := by
  have HZ := Lib.hid fun W => sz_segment p.seg left W hw.2.2.2.2.2.2.2.2 h
  obtain ⟨dm, sm, vl, ts, id, tl, si, di, ⟨k, sp, dp, q, c, f, n, b⟩⟩ := p
  have hb : b.size ≤ 9223372036854775807 := hw.2.2.2.2.2.2.2.2.2.2.2.2.2.2.2
  unfold PktM.val
  unfold SegM.val at HZ
  dsimp only at *
  by_cases hl : left < b.size
  case' pos =>
    rw [if_pos hl] at HZ ⊢
    have h1 : left - b.size < 0 := by omega
  case' neg =>
    rw [if_neg hl] at HZ ⊢
    have h1 : ¬ left - b.size < 0 := by omega
  all_goals
    go_enter Try.func23, Try.ntmps23
    go_wp2_with (go_at_call 66; refine (HZ.out _).mono ?_; rintro e w1 ⟨rfl, hb1⟩)
    go_ret
    exact ⟨rfl, below_comp (below_new _) hb1⟩
end Go.Proofs.Ytbidaccdjnbhfaa

/- The law of CanJoin. -/
namespace Go.Proofs.Ytbidaccdjnbhfaa
open Go.RowKit AM
set_option linter.unusedVariables false
set_option linter.unusedSimpArgs false

theorem tk : sizeL Try.prog 92 = some (18, true) ∧
    fieldsL Try.prog 92 = some [(0, 16, true), (16, 1, false), (17, 1, false)] ∧
    zeroL Try.prog 92 = some [.int .i64 0, .int .i64 0, .int .i64 0, .int .i64 0, .int .i64 0, .int .i64 0, .int .i64 0, .int .i64 0, .int .i64 0, .int .i64 0, .int .i64 0, .int .i64 0, .int .i64 0, .int .i64 0, .int .i64 0, .string .empty, .int .i64 0, .int .i64 0] ∧
    bytesL Try.prog 92 = some 152 ∧
    sizeL Try.prog 36 = some (16, true) ∧
    fieldsL Try.prog 36 = some [(0, 1, false), (1, 1, false), (2, 1, false), (3, 1, false), (4, 1, false), (5, 1, false), (6, 1, false), (7, 1, false), (8, 8, true)] ∧
    zeroL Try.prog 36 = some [.int .i64 0, .int .i64 0, .int .i64 0, .int .i64 0, .int .i64 0, .int .i64 0, .int .i64 0, .int .i64 0, .int .i64 0, .int .i64 0, .int .i64 0, .int .i64 0, .int .i64 0, .int .i64 0, .int .i64 0, .string .empty] ∧
    bytesL Try.prog 36 = some 136 ∧
    sizeL Try.prog 76 = some (18, true) ∧
    fieldsL Try.prog 76 = some [(0, 16, true), (16, 1, false), (17, 1, false)] ∧
    zeroL Try.prog 76 = some [.int .i64 0, .int .i64 0, .int .i64 0, .int .i64 0, .int .i64 0, .int .i64 0, .int .i64 0, .int .i64 0, .int .i64 0, .int .i64 0, .int .i64 0, .int .i64 0, .int .i64 0, .int .i64 0, .int .i64 0, .string .empty, .int .i64 0, .int .i64 0] ∧
    bytesL Try.prog 76 = some 152 ∧
    sizeL Try.prog 41 = some (16, true) ∧
    fieldsL Try.prog 41 = some [(0, 1, false), (1, 1, false), (2, 1, false), (3, 1, false), (4, 1, false), (5, 1, false), (6, 1, false), (7, 1, false), (8, 8, true)] ∧
    zeroL Try.prog 41 = some [.int .i64 0, .int .i64 0, .int .i64 0, .int .i64 0, .int .i64 0, .int .i64 0, .int .i64 0, .int .i64 0, .int .i64 0, .int .i64 0, .int .i64 0, .int .i64 0, .int .i64 0, .int .i64 0, .int .i64 0, .string .empty] ∧
    bytesL Try.prog 41 = some 136 ∧
    sizeL Try.prog 3 = some (1, false) ∧
    zeroL Try.prog 3 = some [.int .i64 0] ∧
    bytesL Try.prog 3 = some 8 ∧
    Try.prog.underlying 3 = some (.int .i64) ∧
    sizeL Try.prog 4 = some (1, false) ∧
    zeroL Try.prog 4 = some [.bool false] ∧
    bytesL Try.prog 4 = some 1 ∧
    Try.prog.underlying 4 = some (.bool) := ⟨by kernel_rfl, by kernel_rfl, by kernel_rfl, by kernel_rfl, by kernel_rfl, by kernel_rfl, by kernel_rfl, by kernel_rfl, by kernel_rfl, by kernel_rfl, by kernel_rfl, by kernel_rfl, by kernel_rfl, by kernel_rfl, by kernel_rfl, by kernel_rfl, by kernel_rfl, by kernel_rfl, by kernel_rfl, by kernel_rfl, by kernel_rfl, by kernel_rfl, by kernel_rfl, by kernel_rfl⟩

theorem am_impl_CanJoin (s : SupM) (p : PktM) : Pure Try.prog true 60 [.a (.agg [cI (s.pkt.dmac), cI (s.pkt.smac), cI (s.pkt.vlan), cI (s.pkt.tos), cI (s.pkt.id), cI (s.pkt.ttl), cI (s.pkt.sip), cI (s.pkt.dip), cI (s.pkt.seg.kind), cI (s.pkt.seg.sport), cI (s.pkt.seg.dport), cI (s.pkt.seg.seq), cI (s.pkt.seg.ack), cI (s.pkt.seg.flags), cI (s.pkt.seg.window), cS (s.pkt.seg.body), cI (s.size), cI (s.count)]), .a (.agg [cI (p.dmac), cI (p.smac), cI (p.vlan), cI (p.tos), cI (p.id), cI (p.ttl), cI (p.sip), cI (p.dip), cI (p.seg.kind), cI (p.seg.sport), cI (p.seg.dport), cI (p.seg.seq), cI (p.seg.ack), cI (p.seg.flags), cI (p.seg.window), cS (p.seg.body)])] (Bo (canJ s p)) := by
  unfold canJ
  by_cases hs : s.pkt.SuperOk
  · rw [if_pos hs]
    by_cases hp : p.Ok
    · rw [if_pos hp]
      by_cases hm : samePath s.pkt p = true
      · rw [if_pos hm]; exact am_impl_CanJoin_yes s p hs hp hm
      · rw [if_neg hm]; exact am_impl_CanJoin_no3 s p hs hp (by simpa using hm)
    · rw [if_neg hp]; exact am_impl_CanJoin_no2 s p hs hp
  · rw [if_neg hs]; exact am_impl_CanJoin_no1 s p hs

theorem pkt_of (p : PktM) : ofVt p.val = some (.a (.agg [cI (p.dmac), cI (p.smac), cI (p.vlan), cI (p.tos), cI (p.id), cI (p.ttl), cI (p.sip), cI (p.dip), cI (p.seg.kind), cI (p.seg.sport), cI (p.seg.dport), cI (p.seg.seq), cI (p.seg.ack), cI (p.seg.flags), cI (p.seg.window), cS (p.seg.body)])) := by simp [ofVt, ofV1, PktM.val, Value.oneCell']
theorem sup_of (s : SupM) : ofVt s.val = some (.a (.agg [cI (s.pkt.dmac), cI (s.pkt.smac), cI (s.pkt.vlan), cI (s.pkt.tos), cI (s.pkt.id), cI (s.pkt.ttl), cI (s.pkt.sip), cI (s.pkt.dip), cI (s.pkt.seg.kind), cI (s.pkt.seg.sport), cI (s.pkt.seg.dport), cI (s.pkt.seg.seq), cI (s.pkt.seg.ack), cI (s.pkt.seg.flags), cI (s.pkt.seg.window), cS (s.pkt.seg.body), cI (s.size), cI (s.count)])) := by simp [ofVt, ofV1, SupM.val, Value.oneCell']

theorem am_szpacket_big {p : PktM} {left : Int} (hw : p.Wf) (hl : 0 ≤ left ∧ left ≤ 4194304) (h : left < (p.seg.body.size : Int)) : Pure Try.prog true 23 [.a (.agg [cI (p.dmac), cI (p.smac), cI (p.vlan), cI (p.tos), cI (p.id), cI (p.ttl), cI (p.sip), cI (p.dip), cI (p.seg.kind), cI (p.seg.sport), cI (p.seg.dport), cI (p.seg.seq), cI (p.seg.ack), cI (p.seg.flags), cI (p.seg.window), cS (p.seg.body)]), I left] (I (-1)) :=
  pure_of_calls (by kernel_rfl) rfl rfl (fun w => by have h2 := sz_packet p left w hw hl; rw [if_pos h] at h2; exact h2)

theorem am_szpacket_fit {p : PktM} {left : Int} (hw : p.Wf) (hl : 0 ≤ left ∧ left ≤ 4194304) (h : ¬ left < (p.seg.body.size : Int)) : Pure Try.prog true 23 [.a (.agg [cI (p.dmac), cI (p.smac), cI (p.vlan), cI (p.tos), cI (p.id), cI (p.ttl), cI (p.sip), cI (p.dip), cI (p.seg.kind), cI (p.seg.sport), cI (p.seg.dport), cI (p.seg.seq), cI (p.seg.ack), cI (p.seg.flags), cI (p.seg.window), cS (p.seg.body)]), I left] (I (left - p.seg.body.size)) :=
  pure_of_calls (by kernel_rfl) rfl rfl (fun w => by have h2 := sz_packet p left w hw hl; rw [if_neg h] at h2; exact h2)

theorem am_topacket (p : PktM) : Pure Try.prog true 25 [.a (.agg [cI (p.dmac), cI (p.smac), cI (p.vlan), cI (p.tos), cI (p.id), cI (p.ttl), cI (p.sip), cI (p.dip), cI (p.seg.kind), cI (p.seg.sport), cI (p.seg.dport), cI (p.seg.seq), cI (p.seg.ack), cI (p.seg.flags), cI (p.seg.window), cS (p.seg.body)])] (.a (.agg [cI (p.dmac), cI (p.smac), cI (p.vlan), cI (p.tos), cI (p.id), cI (p.ttl), cI (p.sip), cI (p.dip), cI (p.seg.kind), cI (p.seg.sport), cI (p.seg.dport), cI (p.seg.seq), cI (p.seg.ack), cI (p.seg.flags), cI (p.seg.window), cS (p.seg.body)])) :=
  pure_of_calls (by kernel_rfl) rfl (pkt_of p) (fun w => to_packet p w)

set_option maxHeartbeats 4000000 in
set_option maxRecDepth 100000 in
theorem am_laws_toSuper (s : SupM) : Pure Try.prog true 76 [.a (.agg [cI (s.pkt.dmac), cI (s.pkt.smac), cI (s.pkt.vlan), cI (s.pkt.tos), cI (s.pkt.id), cI (s.pkt.ttl), cI (s.pkt.sip), cI (s.pkt.dip), cI (s.pkt.seg.kind), cI (s.pkt.seg.sport), cI (s.pkt.seg.dport), cI (s.pkt.seg.seq), cI (s.pkt.seg.ack), cI (s.pkt.seg.flags), cI (s.pkt.seg.window), cS (s.pkt.seg.body), cI (s.size), cI (s.count)])] (.a (.agg [cI (s.pkt.dmac), cI (s.pkt.smac), cI (s.pkt.vlan), cI (s.pkt.tos), cI (s.pkt.id), cI (s.pkt.ttl), cI (s.pkt.sip), cI (s.pkt.dip), cI (s.pkt.seg.kind), cI (s.pkt.seg.sport), cI (s.pkt.seg.dport), cI (s.pkt.seg.seq), cI (s.pkt.seg.ack), cI (s.pkt.seg.flags), cI (s.pkt.seg.window), cS (s.pkt.seg.body), cI (s.size), cI (s.count)])) := by
  obtain ⟨T0, T1, T2, T3, T4, T5, T6, T7, T8, T9, T10, T11, T12, T13, T14, T15, T16, T17, T18, T19, T20, T21, T22, T23⟩ := tk; refine pure_of_code' (by kernel_rfl) Try.func76 rfl Try.ntmps76 (by simp) ?_; intro K hK hKn; simp only [argS, Nat.reduceAdd, Nat.zero_add]
  repeat' (first | (with_reducible first | refine opsE_nil ?_ | refine chainE_nil ?_ | refine codeE_ret ?_ | refine codeE_exit ?_ | refine codeE_skip ?_ | refine codeE_block ?_ | refine blockK_normal ?_ | refine blockK_ret ?_ | refine blockK_exit ?_ | refine roundK_ret ?_ | refine roundK_exit ?_) | (with_reducible refine codeE_seq_k ?_; intro Kq hq1 hq2 hq3 hq4) | (with_reducible refine codeE_region ?_; simp only [List.toList_toArray]) | (with_reducible refine blockK_far rfl ?_) | ((with_reducible first | refine hq1 _ _ ?_ | refine hq2 _ _ ?_ | refine hq3 _ _ _ ?_ | refine hq4 _ _ _ ?_); clear hq1 hq2 hq3 hq4 Kq) | ((with_reducible first | refine hK _ _ ?_ | refine hKn _ _ ?_); clear hK hKn K) | (with_reducible refine And.intro (by first | omega | assumption | rfl) ?_) | ((with_reducible show opsE _ _ _ (_ :: _) _ _ _); first | (refine st_call' rfl rfl rfl rfl (.same true rfl (am_topacket s.pkt)) rfl ?_) | (refine nb ?_; simp only [List.cons_append, List.nil_append, List.length_cons, List.length_nil, Nat.reduceAdd, Nat.zero_add]) | refine nx ?_ | refine ns ?_ | refine ns' ?_ | ((first | refine na ?_ | refine nal ?_ | refine nan ?_); simp only [List.cons_append, List.nil_append, List.length_cons, List.length_nil, Nat.reduceAdd, Nat.zero_add]) | refine nu ?_) | ((first | refine codeE_cond rfl ?_ ?_ | refine st_if rfl rfl rfl rfl rfl ?_ ?_); all_goals (intro hc; (first | (exfalso; cases hc; done) | (simp only [decide_eq_true_eq, decide_eq_false_iff_not, beq_iff_eq, bne_iff_ne, beq_eq_false_iff_ne, bne_eq_false_iff_eq, Bool.not_true, Bool.not_false, Bool.and_eq_true, Bool.or_eq_true, Bool.and_eq_false_iff, Bool.or_eq_false_iff, Bool.not_eq_true', Bool.not_eq_false', Int.not_le, Int.not_lt, ne_eq, Decidable.not_not, eq_self, not_true_eq_false] at hc; (try (exfalso; omega))) | skip))))
  all_goals (simp only [resE, Try.results76, resOf, pack, AM.get, omap, ow_some, loadA, ofV, evO, blkOf, A1.one.injEq, Option.bind_some, Option.map_some, id, reduceIte, if_true, if_false, List.getElem?_cons_zero, List.getElem?_cons_succ, List.length_cons, List.length_nil, List.drop_zero, List.take_succ_cons, List.take_zero, Nat.reduceAdd, Nat.reduceLeDiff, Nat.reduceEqDiff, Nat.zero_add, Nat.le_refl, List.toList_toArray, reduceCtorEq, T0, T4, T8, T12, T16, T20]; repeat' (first | (exact ExpCs.nil) | (exact Exp1s.nil) | (exact exp_val rfl) | (refine exp_val ?_; simp [*]; done) | (exact exp_same) | (exact .nilsl) | (refine ExpCs.cons _ _ _ _ ?_ ?_) | (refine Exp1s.cons _ _ _ _ ?_ ?_) | (refine exp_agg ?_) | (refine exp_one ?_) | (refine exp_tup ?_) | (refine exp_agg1 ?_) | (refine Exp1.one _ _ ?_)))

set_option maxHeartbeats 4000000 in
set_option maxRecDepth 100000 in
theorem am_laws_szSuper_big (s : SupM) (left : Int) (hw : s.pkt.Wf) (hl : 0 ≤ left ∧ left ≤ 4194304) (h : left < (s.pkt.seg.body.size : Int)) : Pure Try.prog true 75 [.a (.agg [cI (s.pkt.dmac), cI (s.pkt.smac), cI (s.pkt.vlan), cI (s.pkt.tos), cI (s.pkt.id), cI (s.pkt.ttl), cI (s.pkt.sip), cI (s.pkt.dip), cI (s.pkt.seg.kind), cI (s.pkt.seg.sport), cI (s.pkt.seg.dport), cI (s.pkt.seg.seq), cI (s.pkt.seg.ack), cI (s.pkt.seg.flags), cI (s.pkt.seg.window), cS (s.pkt.seg.body), cI (s.size), cI (s.count)]), I left] (I (-1)) := by
  obtain ⟨T0, T1, T2, T3, T4, T5, T6, T7, T8, T9, T10, T11, T12, T13, T14, T15, T16, T17, T18, T19, T20, T21, T22, T23⟩ := tk; refine pure_of_code' (by kernel_rfl) Try.func75 rfl Try.ntmps75 (by simp) ?_; intro K hK hKn; simp only [argS, Nat.reduceAdd, Nat.zero_add]
  repeat' (first | (with_reducible first | refine opsE_nil ?_ | refine chainE_nil ?_ | refine codeE_ret ?_ | refine codeE_exit ?_ | refine codeE_skip ?_ | refine codeE_block ?_ | refine blockK_normal ?_ | refine blockK_ret ?_ | refine blockK_exit ?_ | refine roundK_ret ?_ | refine roundK_exit ?_) | (with_reducible refine codeE_seq_k ?_; intro Kq hq1 hq2 hq3 hq4) | (with_reducible refine codeE_region ?_; simp only [List.toList_toArray]) | (with_reducible refine blockK_far rfl ?_) | ((with_reducible first | refine hq1 _ _ ?_ | refine hq2 _ _ ?_ | refine hq3 _ _ _ ?_ | refine hq4 _ _ _ ?_); clear hq1 hq2 hq3 hq4 Kq) | ((with_reducible first | refine hK _ _ ?_ | refine hKn _ _ ?_); clear hK hKn K) | (with_reducible refine And.intro (by first | omega | assumption | rfl) ?_) | ((with_reducible show opsE _ _ _ (_ :: _) _ _ _); first | (refine st_call' rfl rfl rfl rfl (.same true rfl (am_szpacket_big (p := s.pkt) hw hl h)) rfl ?_) | (refine nb ?_; simp only [List.cons_append, List.nil_append, List.length_cons, List.length_nil, Nat.reduceAdd, Nat.zero_add]) | refine nx ?_ | refine ns ?_ | refine ns' ?_ | ((first | refine na ?_ | refine nal ?_ | refine nan ?_); simp only [List.cons_append, List.nil_append, List.length_cons, List.length_nil, Nat.reduceAdd, Nat.zero_add]) | refine nu ?_) | ((first | refine codeE_cond rfl ?_ ?_ | refine st_if rfl rfl rfl rfl rfl ?_ ?_); all_goals (intro hc; (first | (exfalso; cases hc; done) | (simp only [decide_eq_true_eq, decide_eq_false_iff_not, beq_iff_eq, bne_iff_ne, beq_eq_false_iff_ne, bne_eq_false_iff_eq, Bool.not_true, Bool.not_false, Bool.and_eq_true, Bool.or_eq_true, Bool.and_eq_false_iff, Bool.or_eq_false_iff, Bool.not_eq_true', Bool.not_eq_false', Int.not_le, Int.not_lt, ne_eq, Decidable.not_not, eq_self, not_true_eq_false] at hc; (try (exfalso; omega))) | skip))))
  all_goals (simp only [resE, Try.results75, resOf, pack, AM.get, omap, ow_some, loadA, ofV, evO, blkOf, A1.one.injEq, Option.bind_some, Option.map_some, id, reduceIte, if_true, if_false, List.getElem?_cons_zero, List.getElem?_cons_succ, List.length_cons, List.length_nil, List.drop_zero, List.take_succ_cons, List.take_zero, Nat.reduceAdd, Nat.reduceLeDiff, Nat.reduceEqDiff, Nat.zero_add, Nat.le_refl, List.toList_toArray, reduceCtorEq, T0, T4, T8, T12, T16, T20]; repeat' (first | (exact ExpCs.nil) | (exact Exp1s.nil) | (exact exp_val rfl) | (refine exp_val ?_; simp [*]; done) | (exact exp_same) | (exact .nilsl) | (refine ExpCs.cons _ _ _ _ ?_ ?_) | (refine Exp1s.cons _ _ _ _ ?_ ?_) | (refine exp_agg ?_) | (refine exp_one ?_) | (refine exp_tup ?_) | (refine exp_agg1 ?_) | (refine Exp1.one _ _ ?_)))

set_option maxHeartbeats 4000000 in
set_option maxRecDepth 100000 in
theorem am_laws_szSuper_fit (s : SupM) (left : Int) (hw : s.pkt.Wf) (hl : 0 ≤ left ∧ left ≤ 4194304) (h : ¬ left < (s.pkt.seg.body.size : Int)) : Pure Try.prog true 75 [.a (.agg [cI (s.pkt.dmac), cI (s.pkt.smac), cI (s.pkt.vlan), cI (s.pkt.tos), cI (s.pkt.id), cI (s.pkt.ttl), cI (s.pkt.sip), cI (s.pkt.dip), cI (s.pkt.seg.kind), cI (s.pkt.seg.sport), cI (s.pkt.seg.dport), cI (s.pkt.seg.seq), cI (s.pkt.seg.ack), cI (s.pkt.seg.flags), cI (s.pkt.seg.window), cS (s.pkt.seg.body), cI (s.size), cI (s.count)]), I left] (I (left - s.pkt.seg.body.size)) := by
  obtain ⟨T0, T1, T2, T3, T4, T5, T6, T7, T8, T9, T10, T11, T12, T13, T14, T15, T16, T17, T18, T19, T20, T21, T22, T23⟩ := tk; refine pure_of_code' (by kernel_rfl) Try.func75 rfl Try.ntmps75 (by simp) ?_; intro K hK hKn; simp only [argS, Nat.reduceAdd, Nat.zero_add]
  repeat' (first | (with_reducible first | refine opsE_nil ?_ | refine chainE_nil ?_ | refine codeE_ret ?_ | refine codeE_exit ?_ | refine codeE_skip ?_ | refine codeE_block ?_ | refine blockK_normal ?_ | refine blockK_ret ?_ | refine blockK_exit ?_ | refine roundK_ret ?_ | refine roundK_exit ?_) | (with_reducible refine codeE_seq_k ?_; intro Kq hq1 hq2 hq3 hq4) | (with_reducible refine codeE_region ?_; simp only [List.toList_toArray]) | (with_reducible refine blockK_far rfl ?_) | ((with_reducible first | refine hq1 _ _ ?_ | refine hq2 _ _ ?_ | refine hq3 _ _ _ ?_ | refine hq4 _ _ _ ?_); clear hq1 hq2 hq3 hq4 Kq) | ((with_reducible first | refine hK _ _ ?_ | refine hKn _ _ ?_); clear hK hKn K) | (with_reducible refine And.intro (by first | omega | assumption | rfl) ?_) | ((with_reducible show opsE _ _ _ (_ :: _) _ _ _); first | (refine st_call' rfl rfl rfl rfl (.same true rfl (am_szpacket_fit (p := s.pkt) hw hl h)) rfl ?_) | (refine nb ?_; simp only [List.cons_append, List.nil_append, List.length_cons, List.length_nil, Nat.reduceAdd, Nat.zero_add]) | refine nx ?_ | refine ns ?_ | refine ns' ?_ | ((first | refine na ?_ | refine nal ?_ | refine nan ?_); simp only [List.cons_append, List.nil_append, List.length_cons, List.length_nil, Nat.reduceAdd, Nat.zero_add]) | refine nu ?_) | ((first | refine codeE_cond rfl ?_ ?_ | refine st_if rfl rfl rfl rfl rfl ?_ ?_); all_goals (intro hc; (first | (exfalso; cases hc; done) | (simp only [decide_eq_true_eq, decide_eq_false_iff_not, beq_iff_eq, bne_iff_ne, beq_eq_false_iff_ne, bne_eq_false_iff_eq, Bool.not_true, Bool.not_false, Bool.and_eq_true, Bool.or_eq_true, Bool.and_eq_false_iff, Bool.or_eq_false_iff, Bool.not_eq_true', Bool.not_eq_false', Int.not_le, Int.not_lt, ne_eq, Decidable.not_not, eq_self, not_true_eq_false] at hc; (try (exfalso; omega))) | skip))))
  all_goals (simp only [resE, Try.results75, resOf, pack, AM.get, omap, ow_some, loadA, ofV, evO, blkOf, A1.one.injEq, Option.bind_some, Option.map_some, id, reduceIte, if_true, if_false, List.getElem?_cons_zero, List.getElem?_cons_succ, List.length_cons, List.length_nil, List.drop_zero, List.take_succ_cons, List.take_zero, Nat.reduceAdd, Nat.reduceLeDiff, Nat.reduceEqDiff, Nat.zero_add, Nat.le_refl, List.toList_toArray, reduceCtorEq, T0, T4, T8, T12, T16, T20]; repeat' (first | (exact ExpCs.nil) | (exact Exp1s.nil) | (exact exp_val rfl) | (refine exp_val ?_; simp [*]; done) | (exact exp_same) | (exact .nilsl) | (refine ExpCs.cons _ _ _ _ ?_ ?_) | (refine Exp1s.cons _ _ _ _ ?_ ?_) | (refine exp_agg ?_) | (refine exp_one ?_) | (refine exp_tup ?_) | (refine exp_agg1 ?_) | (refine Exp1.one _ _ ?_)))

end Go.Proofs.Ytbidaccdjnbhfaa

/- The law of SendFrames. -/
namespace Go.Proofs.Ytbidaccdjnbhfaa
open Go.RowKit AM
set_option linter.unusedVariables false
set_option linter.unusedSimpArgs false

theorem tlSendFrames : sizeL Try.prog 36 = some (16, true) ∧
    fieldsL Try.prog 36 = some [(0, 1, false), (1, 1, false), (2, 1, false), (3, 1, false), (4, 1, false), (5, 1, false), (6, 1, false), (7, 1, false), (8, 8, true)] ∧
    zeroL Try.prog 36 = some [.int .i64 0, .int .i64 0, .int .i64 0, .int .i64 0, .int .i64 0, .int .i64 0, .int .i64 0, .int .i64 0, .int .i64 0, .int .i64 0, .int .i64 0, .int .i64 0, .int .i64 0, .int .i64 0, .int .i64 0, .string .empty] ∧
    bytesL Try.prog 36 = some 136 ∧
    sizeL Try.prog 41 = some (16, true) ∧
    fieldsL Try.prog 41 = some [(0, 1, false), (1, 1, false), (2, 1, false), (3, 1, false), (4, 1, false), (5, 1, false), (6, 1, false), (7, 1, false), (8, 8, true)] ∧
    zeroL Try.prog 41 = some [.int .i64 0, .int .i64 0, .int .i64 0, .int .i64 0, .int .i64 0, .int .i64 0, .int .i64 0, .int .i64 0, .int .i64 0, .int .i64 0, .int .i64 0, .int .i64 0, .int .i64 0, .int .i64 0, .int .i64 0, .string .empty] ∧
    bytesL Try.prog 41 = some 136 ∧
    sizeL Try.prog 45 = some (1, false) ∧
    zeroL Try.prog 45 = some [.slice none 0 0] ∧
    elemL Try.prog 45 = some (9, 1) ∧
    bytesL Try.prog 45 = some 24 ∧
    sizeL Try.prog 9 = some (1, false) ∧
    zeroL Try.prog 9 = some [.string .empty] ∧
    bytesL Try.prog 9 = some 16 ∧
    Try.prog.underlying 9 = some (.string) ∧
    sizeL Try.prog 3 = some (1, false) ∧
    zeroL Try.prog 3 = some [.int .i64 0] ∧
    bytesL Try.prog 3 = some 8 ∧
    Try.prog.underlying 3 = some (.int .i64) ∧
    sizeL Try.prog 4 = some (1, false) ∧
    zeroL Try.prog 4 = some [.bool false] ∧
    bytesL Try.prog 4 = some 1 ∧
    Try.prog.underlying 4 = some (.bool) := ⟨by kernel_rfl, by kernel_rfl, by kernel_rfl, by kernel_rfl, by kernel_rfl, by kernel_rfl, by kernel_rfl, by kernel_rfl, by kernel_rfl, by kernel_rfl, by kernel_rfl, by kernel_rfl, by kernel_rfl, by kernel_rfl, by kernel_rfl, by kernel_rfl, by kernel_rfl, by kernel_rfl, by kernel_rfl, by kernel_rfl, by kernel_rfl, by kernel_rfl, by kernel_rfl, by kernel_rfl⟩

set_option maxHeartbeats 4000000 in
set_option maxRecDepth 100000 in
theorem am_laws_FnExactSendFrames_big0 (p : PktM) (size : Int) (hw_p : p.seg.body.size ≤ 9223372036854775807)   (hb : 1048576 < ((p.seg.body.size : Int) : Int)) : Pure Try.prog true 7 [.a (.agg [cI (p.dmac), cI (p.smac), cI (p.vlan), cI (p.tos), cI (p.id), cI (p.ttl), cI (p.sip), cI (p.dip), cI (p.seg.kind), cI (p.seg.sport), cI (p.seg.dport), cI (p.seg.seq), cI (p.seg.ack), cI (p.seg.flags), cI (p.seg.window), cS (p.seg.body)]), I size] (Bo true) := by
  obtain ⟨T0, T1, T2, T3, T4, T5, T6, T7, T8, T9, T10, T11, T12, T13, T14, T15, T16, T17, T18, T19, T20, T21, T22, T23⟩ := tlSendFrames; refine pure_of_code' (by kernel_rfl) Try.func7 rfl Try.ntmps7 (by simp) ?_; intro K hK hKn; simp only [argS, Nat.reduceAdd, Nat.zero_add]
  repeat' (first | ((with_reducible show opsE _ _ _ ({ dst := _, op := Op.call { callee := Callee.value (Operand.func 23), args := _, argTypes := _ }, type := _, pos := _, after := _, guard := _ } :: _) _ _ _); first | (refine st_call' rfl rfl rfl rfl (.same true rfl (aw_laws_szPacket_big p _ (by omega) hw_p (by omega))) rfl ?_) | fail) | (with_reducible first | refine opsE_nil ?_ | refine chainE_nil ?_ | refine codeE_ret ?_ | refine codeE_exit ?_ | refine codeE_skip ?_ | refine codeE_block ?_ | refine blockK_normal ?_ | refine blockK_ret ?_ | refine blockK_exit ?_ | refine roundK_ret ?_ | refine roundK_exit ?_) | (with_reducible refine codeE_seq_k ?_; intro Kq hq1 hq2 hq3 hq4) | (with_reducible refine codeE_region ?_; simp only [List.toList_toArray]) | (with_reducible refine blockK_far rfl ?_) | ((with_reducible first | refine hq1 _ _ ?_ | refine hq2 _ _ ?_ | refine hq3 _ _ _ ?_ | refine hq4 _ _ _ ?_); clear hq1 hq2 hq3 hq4 Kq) | ((with_reducible first | refine hK _ _ ?_ | refine hKn _ _ ?_); clear hK hKn K) | (with_reducible refine And.intro (by first | omega | assumption | rfl) ?_) | ((with_reducible show opsE _ _ _ (_ :: _) _ _ _); first | (refine nb ?_; simp only [List.cons_append, List.nil_append, List.length_cons, List.length_nil, Nat.reduceAdd, Nat.zero_add]) | refine nx ?_ | refine ns ?_ | refine ns' ?_ | ((first | refine na ?_ | refine nal ?_ | refine nan ?_); simp only [List.cons_append, List.nil_append, List.length_cons, List.length_nil, Nat.reduceAdd, Nat.zero_add]) | refine nu ?_) | ((first | refine codeE_cond rfl ?_ ?_ | refine st_if rfl rfl rfl rfl rfl ?_ ?_); all_goals (intro hc; (first | (exfalso; cases hc; done) | (simp only [decide_eq_true_eq, decide_eq_false_iff_not, beq_iff_eq, bne_iff_ne, beq_eq_false_iff_ne, bne_eq_false_iff_eq, Bool.not_true, Bool.not_false, Bool.and_eq_true, Bool.or_eq_true, Bool.and_eq_false_iff, Bool.or_eq_false_iff, Bool.not_eq_true', Bool.not_eq_false', Int.not_le, Int.not_lt, ne_eq, Decidable.not_not, eq_self, not_true_eq_false] at hc; (try (exfalso; omega))) | skip))))
  all_goals (simp only [resE, Try.results7, resOf, pack, AM.get, omap, ow_some, loadA, ofV, evO, blkOf, A1.one.injEq, Option.bind_some, Option.map_some, id, reduceIte, if_true, if_false, List.getElem?_cons_zero, List.getElem?_cons_succ, List.length_cons, List.length_nil, List.drop_zero, List.take_succ_cons, List.take_zero, Nat.reduceAdd, Nat.reduceLeDiff, Nat.reduceEqDiff, Nat.zero_add, Nat.le_refl, List.toList_toArray, reduceCtorEq, T0, T4, T8, T12, T16, T20]; (repeat' (first | (exact ExpCs.nil) | (exact Exp1s.nil) | (exact exp_val rfl) | (refine exp_val ?_; simp [*]; done) | (exact exp_same) | (exact .nilsl) | (refine ExpCs.cons _ _ _ _ ?_ ?_) | (refine Exp1s.cons _ _ _ _ ?_ ?_) | (refine exp_agg ?_) | (refine exp_one ?_) | (refine exp_tup ?_) | (refine exp_agg1 ?_) | (refine Exp1.one _ _ ?_))))

set_option maxHeartbeats 4000000 in
set_option maxRecDepth 100000 in
theorem am_laws_FnExactSendFrames_fit (p : PktM) (size : Int) (hw_p : p.seg.body.size ≤ 9223372036854775807)   (hs0 : ((p.seg.body.size : Int) : Int) ≤ 1048576) : Pure Try.prog true 7 [.a (.agg [cI (p.dmac), cI (p.smac), cI (p.vlan), cI (p.tos), cI (p.id), cI (p.ttl), cI (p.sip), cI (p.dip), cI (p.seg.kind), cI (p.seg.sport), cI (p.seg.dport), cI (p.seg.seq), cI (p.seg.ack), cI (p.seg.flags), cI (p.seg.window), cS (p.seg.body)]), I size] (Bo true) := by
  have hR0 := splitL_320 p size
  have hR := framesL_len (splitL p size)
  obtain ⟨T0, T1, T2, T3, T4, T5, T6, T7, T8, T9, T10, T11, T12, T13, T14, T15, T16, T17, T18, T19, T20, T21, T22, T23⟩ := tlSendFrames; refine pure_of_code' (by kernel_rfl) Try.func7 rfl Try.ntmps7 (by simp) ?_; intro K hK hKn; simp only [argS, Nat.reduceAdd, Nat.zero_add]
  repeat' (first | ((with_reducible show opsE _ _ _ ({ dst := _, op := Op.call { callee := Callee.value (Operand.func 23), args := _, argTypes := _ }, type := _, pos := _, after := _, guard := _ } :: _) _ _ _); first | (refine st_call' rfl rfl rfl rfl (.same true rfl (aw_laws_szPacket_fit p _ (by omega) hw_p (by omega))) rfl ?_) | fail) | ((with_reducible show opsE _ _ _ ({ dst := _, op := Op.call { callee := Callee.value (Operand.func 35), args := _, argTypes := _ }, type := _, pos := _, after := _, guard := _ } :: _) _ _ _); first | (refine st_call' rfl rfl rfl rfl (.own _ eL (am_spec_SendFrames p size)) rfl ?_) | fail) | ((with_reducible show opsE _ _ _ ({ dst := _, op := Op.call { callee := Callee.value (Operand.func 36), args := _, argTypes := _ }, type := _, pos := _, after := _, guard := _ } :: _) _ _ _); first | (refine st_frame [] rfl rfl rfl rfl (efc_impl_SendFrames p size) rfl aF aM (by rfl) aR aH ?_) | fail) | ((with_reducible show opsE _ _ _ ({ dst := _, op := Op.call { callee := Callee.value (Operand.func 25), args := _, argTypes := _ }, type := _, pos := _, after := _, guard := _ } :: _) _ _ _); first | (refine st_call' rfl rfl rfl rfl (.same true rfl (aw_laws_toPacket p)) rfl ?_) | fail) | ((with_reducible show opsE _ _ _ ({ dst := _, op := Op.call { callee := Callee.value (Operand.func 32), args := _, argTypes := _ }, type := _, pos := _, after := _, guard := _ } :: _) _ _ _); first | (refine st_call' rfl rfl rfl rfl (.own _ eL (aw_laws_eqStringS (framesL (splitL p size)) (by omega))) rfl ?_) | (refine st_call' rfl rfl rfl rfl (.same true rfl (aw_laws_eqStringS (framesL (splitL p size)) (by omega))) rfl ?_) | fail) | ((with_reducible show opsE _ _ _ ({ dst := _, op := Op.call { callee := Callee.value (Operand.func 33), args := _, argTypes := _ }, type := _, pos := _, after := _, guard := _ } :: _) _ _ _); first | (refine st_frame [_] rfl rfl rfl rfl (efc_laws_markStringS (framesL (splitL p size)) 1 1 rfl (by omega) (by omega)) rfl aF aM (by rfl) aR aH ?_) | fail) | ((with_reducible show opsE _ _ _ ({ dst := _, op := Op.call { callee := Callee.value (Operand.func 34), args := _, argTypes := _ }, type := _, pos := _, after := _, guard := _ } :: _) _ _ _); first | (refine st_call' rfl rfl rfl rfl (.own _ eL (aw_laws_heldStringS (framesL (splitL p size)).length 1 1 rfl (by omega) (by omega))) rfl ?_) | fail) | (with_reducible first | refine opsE_nil ?_ | refine chainE_nil ?_ | refine codeE_ret ?_ | refine codeE_exit ?_ | refine codeE_skip ?_ | refine codeE_block ?_ | refine blockK_normal ?_ | refine blockK_ret ?_ | refine blockK_exit ?_ | refine roundK_ret ?_ | refine roundK_exit ?_) | (with_reducible refine codeE_seq_k ?_; intro Kq hq1 hq2 hq3 hq4) | (with_reducible refine codeE_region ?_; simp only [List.toList_toArray]) | (with_reducible refine blockK_far rfl ?_) | ((with_reducible first | refine hq1 _ _ ?_ | refine hq2 _ _ ?_ | refine hq3 _ _ _ ?_ | refine hq4 _ _ _ ?_); clear hq1 hq2 hq3 hq4 Kq) | ((with_reducible first | refine hK _ _ ?_ | refine hKn _ _ ?_); clear hK hKn K) | (with_reducible refine And.intro (by first | omega | assumption | rfl) ?_) | ((with_reducible show opsE _ _ _ (_ :: _) _ _ _); first | (refine nb ?_; simp only [List.cons_append, List.nil_append, List.length_cons, List.length_nil, Nat.reduceAdd, Nat.zero_add]) | refine nx ?_ | refine ns ?_ | refine ns' ?_ | ((first | refine na ?_ | refine nal ?_ | refine nan ?_); simp only [List.cons_append, List.nil_append, List.length_cons, List.length_nil, Nat.reduceAdd, Nat.zero_add]) | refine nu ?_) | ((first | refine codeE_cond rfl ?_ ?_ | refine st_if rfl rfl rfl rfl rfl ?_ ?_); all_goals (intro hc; (first | (exfalso; cases hc; done) | (simp only [decide_eq_true_eq, decide_eq_false_iff_not, beq_iff_eq, bne_iff_ne, beq_eq_false_iff_ne, bne_eq_false_iff_eq, Bool.not_true, Bool.not_false, Bool.and_eq_true, Bool.or_eq_true, Bool.and_eq_false_iff, Bool.or_eq_false_iff, Bool.not_eq_true', Bool.not_eq_false', Int.not_le, Int.not_lt, ne_eq, Decidable.not_not, eq_self, not_true_eq_false] at hc; (try (exfalso; omega))) | skip))))
  all_goals (simp only [resE, Try.results7, resOf, pack, AM.get, omap, ow_some, loadA, ofV, evO, blkOf, A1.one.injEq, Option.bind_some, Option.map_some, id, reduceIte, if_true, if_false, List.getElem?_cons_zero, List.getElem?_cons_succ, List.length_cons, List.length_nil, List.drop_zero, List.take_succ_cons, List.take_zero, Nat.reduceAdd, Nat.reduceLeDiff, Nat.reduceEqDiff, Nat.zero_add, Nat.le_refl, List.toList_toArray, reduceCtorEq, T0, T4, T8, T12, T16, T20]; (repeat' (first | (exact ExpCs.nil) | (exact Exp1s.nil) | (exact exp_val rfl) | (refine exp_val ?_; simp [*]; done) | (exact exp_same) | (exact .nilsl) | (refine ExpCs.cons _ _ _ _ ?_ ?_) | (refine Exp1s.cons _ _ _ _ ?_ ?_) | (refine exp_agg ?_) | (refine exp_one ?_) | (refine exp_tup ?_) | (refine exp_agg1 ?_) | (refine Exp1.one _ _ ?_))))

theorem am_laws_FnExactSendFrames (p : PktM) (size : Int) (hw_p : p.seg.body.size ≤ 9223372036854775807)  : Pure Try.prog true 7 [.a (.agg [cI (p.dmac), cI (p.smac), cI (p.vlan), cI (p.tos), cI (p.id), cI (p.ttl), cI (p.sip), cI (p.dip), cI (p.seg.kind), cI (p.seg.sport), cI (p.seg.dport), cI (p.seg.seq), cI (p.seg.ack), cI (p.seg.flags), cI (p.seg.window), cS (p.seg.body)]), I size] (Bo true) := by
  by_cases hs0 : ((p.seg.body.size : Int) : Int) ≤ 1048576
  rotate_left
  · exact am_laws_FnExactSendFrames_big0 p size hw_p  (by omega)
  exact am_laws_FnExactSendFrames_fit p size hw_p hs0
end Go.Proofs.Ytbidaccdjnbhfaa

/- Struct arguments opened to their cells. -/
namespace Go.Proofs.Ytbidaccdjnbhfaa
open Go.Joins Go.ChangeShapes Go.WideShapes Go.RowKit Go.Deep
set_option linter.unusedVariables false
section
variable {H : Type} {enc : TypeId × Value → H} {P : Program} {w : World} {base : Nat} {spare : Nat → Bool} {held : Bool}

/-- The cells of a struct, each field by its offset and size. -/
theorem open_parts {t : TypeId} {fs : Array Field} {fuel : Nat} {cs : List Value} {x : DataW H × List MemPlace} (hs : P.underlying t = some (.struct fs)) (h : DataW.trod enc P w base spare held fuel t cs = some x) :
    ∀ (j : Nat) (f : Field), fs[j]? = some f → ∃ (y : DataW H × List MemPlace) (n : Nat), DataW.trod enc P w base spare held n f.type ((cs.drop f.offset).take (P.cellsOf f.type)) = some y := by
  obtain ⟨xs, n, _, _, _, hlen, hg⟩ := DataW.trod_struct hs h
  intro j f hj
  have hj' : j < fs.size := (Array.getElem?_eq_some_iff.1 hj).1
  have h1 := hg j f hj
  exact ⟨xs[j]'(by omega), n, h1.trans (List.getElem?_eq_getElem (by omega))⟩
/-- A field of one cell that is an int. -/
theorem part_int {t : TypeId} {k : IntKind} {n : Nat} {x : Value} {y : DataW H × List MemPlace} (ht : P.underlying t = some (.int k)) (h : DataW.trod enc P w base spare held n t [x] = some y) : ∃ a : Int, x = .int k a ∧ (Lit.int k a).wf = true := by
  obtain ⟨a, h1, _, h3⟩ := DataW.trod_int ht h
  exact ⟨a, by simpa using h1, h3⟩
theorem part_string {t : TypeId} {n : Nat} {x : Value} {y : DataW H × List MemPlace} (ht : P.underlying t = some .string) (h : DataW.trod enc P w base spare held n t [x] = some y) : ∃ s : ByteArray, x = .string s ∧ s.size ≤ maxLen := by
  obtain ⟨a, h1, _, h3⟩ := DataW.trod_string ht h
  exact ⟨a, by simpa using h1, h3⟩
theorem part_bool {t : TypeId} {n : Nat} {x : Value} {y : DataW H × List MemPlace} (ht : P.underlying t = some .bool) (h : DataW.trod enc P w base spare held n t [x] = some y) : ∃ b : Bool, x = .bool b := by
  obtain ⟨a, h1, _⟩ := DataW.trod_bool ht h
  exact ⟨a, by simpa using h1⟩
end

end Go.Proofs.Ytbidaccdjnbhfaa

/- Arguments that came in, as memory that is read alone: rows, and a law's walk over them. -/
namespace Go.Proofs.Ytbidaccdjnbhfaa
open Go.Joins Go.ChangeShapes Go.WideShapes Go.RowKit Go.Deep AM
set_option linter.unusedVariables false
set_option linter.unusedSimpArgs false
/-- The cells of an element. -/
def ElPV (w : World) (cs : List Value) (ps : List PV) : Prop := cs.length = ps.length ∧ ∀ (j : Nat) v p, cs[j]? = some v → ps[j]? = some p → PR (Lt w) w p v ∧ v.oneCell' = true
theorem elPV_nil {w : World} : ElPV w [] [] := ⟨rfl, fun j v p h => by simp at h⟩
theorem elPV_val {w : World} {v : Value} {cs : List Value} {ps : List PV} (ho : v.oneCell' = true) (hr : ElPV w cs ps) : ElPV w (v :: cs) (.val v :: ps) := by
  refine ⟨by simp [hr.1], fun j u p h1 h2 => ?_⟩
  cases j with
  | zero => cases h1; cases h2; exact ⟨.val _, ho⟩
  | succ j => exact hr.2 j u p (by simpa using h1) (by simpa using h2)
theorem elPV_cons {w : World} {v : Value} {p : PV} {cs : List Value} {ps : List PV} (hp : PR (Lt w) w p v) (ho : v.oneCell' = true) (hr : ElPV w cs ps) : ElPV w (v :: cs) (p :: ps) := by
  refine ⟨by simp [hr.1], fun j u p h1 h2 => ?_⟩
  cases j with
  | zero => cases h1; cases h2; exact ⟨hp, ho⟩
  | succ j => exact hr.2 j u p (by simpa using h1) (by simpa using h2)
section
variable {P : Program} {H : Type} {enc : TypeId × Value → H} {w : World} {base : Nat} {spare : Nat → Bool} {held : Bool}
/-- A slice, its elements opened by hel. -/
theorem open_view {α : Type} {pv : α → List PV} {Wf : α → Prop} {t e : TypeId} {m fuel : Nat} {c : Value} {x : DataW H × List MemPlace} (ht : P.underlying t = some (.slice e)) (hm : P.cellsOf e = m) (hm0 : 0 < m) (hlen : ∀ z, (pv z).length = m)
    (hel : ∀ n cs y, DataW.trod enc P w base spare held n e cs = some y → ∃ z : α, ElPV w cs (pv z) ∧ Wf z)
    (h : DataW.trod enc P w base spare held fuel t [c] = some x) :
    ∃ l : List α, PR (Lt w) w (.view m (l.map pv)) c ∧ c.oneCell' = true ∧ l.length ≤ maxLen ∧ ∀ z ∈ l, Wf z := by
  rcases open_slice ht h with ⟨hcs, _⟩ | ⟨a, len, cap, q, n, D, Pl, hcs, hb, hl, hmx, hq, _, hx⟩
  · obtain rfl : c = .slice none 0 0 := by simpa using hcs
    exact ⟨[], .nil m none 0, rfl, Nat.zero_le _, fun z hz => by simp at hz⟩
  obtain rfl : c = .slice (some a) len cap := by simpa using hcs
  have hql : len ≤ q := by rw [hq]; split <;> omega
  have key : ∀ k, k ≤ len → ∃ l : List α, l.length = k ∧ ∀ (i : Nat) z, l[i]? = some z → Wf z ∧ ∃ cs, ElPV w cs (pv z) ∧ cs.length = m ∧ ∀ j, j < m → w.cell? ((a.add (i * m)).add j) = cs[j]? := by
    intro k
    induction k with
    | zero => intro _; exact ⟨[], rfl, fun i z hz => by simp at hz⟩
    | succ k ih =>
      intro hk
      obtain ⟨l, hlen', hE⟩ := ih (by omega)
      obtain ⟨cs', h1, h2⟩ := hx k (by omega)
      obtain ⟨z, hz, hwf⟩ := hel n cs' _ h2
      obtain ⟨_, hsz, hc⟩ := World.cells?_some h1
      rw [hm] at hsz hc
      refine ⟨l ++ [z], by simp [hlen'], fun i z' hi => ?_⟩
      by_cases hlt : i < l.length
      · rw [List.getElem?_append_left hlt] at hi
        exact hE i z' hi
      · have hil : i = l.length := by
          have := (List.getElem?_eq_some_iff.1 hi).1
          simp at this; omega
        subst hil
        obtain rfl : z = z' := by simpa using hi
        refine ⟨hwf, cs', hz, hsz, fun j hj => ?_⟩
        rw [hlen']
        exact hc j hj
  obtain ⟨l, hlen', hE⟩ := key len (Nat.le_refl _)
  refine ⟨l, ?_, rfl, by omega, fun z hz => ?_⟩
  · by_cases hl0 : l = []
    · subst hl0
      have : len = 0 := by simpa using hlen'.symm
      subst this
      exact .nil m _ _
    · have hsome : ∀ (i j : Nat) (row : List PV) (p : PV), (l.map pv)[i]? = some row → row[j]? = some p → ∃ v, w.cell? ((a.add (i * m)).add j) = some v ∧ PR (Lt w) w p v ∧ v.oneCell' = true := fun i j row p hi hj => by
        rw [List.getElem?_map, Option.map_eq_some_iff] at hi
        obtain ⟨z, hi, rfl⟩ := hi
        obtain ⟨_, cs, h1, h2, h3⟩ := hE i z hi
        have hjm : j < m := by rw [← hlen z]; exact (List.getElem?_eq_some_iff.1 hj).1
        have hv : cs[j]? = some cs[j] := List.getElem?_eq_getElem (by omega)
        exact ⟨_, (h3 j hjm).trans hv, h1.2 j _ p hv hj⟩
      obtain ⟨z0, hz0⟩ : ∃ z0, l[0]? = some z0 := ⟨l[0]'(by rw [List.length_pos_iff]; exact hl0), by simp⟩
      obtain ⟨p0, hp0⟩ : ∃ p0, (pv z0)[0]? = some p0 := ⟨(pv z0)[0]'(by rw [hlen]; exact hm0), by simp⟩
      obtain ⟨v0, hv0, _⟩ := hsome 0 0 (pv z0) p0 (by simp [hz0]) hp0
      have hspot : a.spot = none ∧ a.block < w.heap.size := by
        unfold World.cell? at hv0
        split at hv0
        · rename_i c' T fr hc'
          split at hv0
          · cases hv0
          · rename_i hs
            exact ⟨by simpa [Addr.add] using hs, by have := (Array.getElem?_eq_some_iff.1 hc').1; simpa [Addr.add] using this⟩
        · cases hv0
      have ha : ∀ i j, (a.add (i * m)).add j = ⟨a.block, a.off + (i * m + j), none⟩ := fun i j => by
        have := hspot.1
        cases a; dsimp only at this; subst this
        rw [Addr.add_mid, Addr.add_mid, Nat.add_assoc]
      have hae : a = ⟨a.block, a.off, none⟩ := by
        have := hspot.1
        cases a; dsimp only at this; subst this; rfl
      rw [hae, ← hlen']
      have hll : l.length = (l.map pv).length := by simp
      rw [hll]
      refine .view m (l.map pv) a.block a.off cap (fun i j => (w.cell? ⟨a.block, a.off + (i * m + j), none⟩).getD undef) (by simpa using hl0) hspot.2 (by simp; omega) (fun i row hi => ?_) (fun i j row p hi hj => ?_) (fun i j row p hi hj => ?_) (fun i j row p hi hj => ?_)
      · rw [List.getElem?_map, Option.map_eq_some_iff] at hi
        obtain ⟨z, _, rfl⟩ := hi
        exact hlen z
      · obtain ⟨v, h1, h2, h3⟩ := hsome i j row p hi hj
        rw [ha] at h1
        rw [h1]; rfl
      · obtain ⟨v, h1, h2, h3⟩ := hsome i j row p hi hj
        rw [ha] at h1
        rw [h1]; exact h3
      · obtain ⟨v, h1, h2, h3⟩ := hsome i j row p hi hj
        rw [ha] at h1
        rw [h1]; exact h2
  · obtain ⟨i, hi⟩ := List.getElem?_of_mem hz
    exact (hE i z hi).1
end
/-- The arguments of a law's call. -/
inductive ArgsP (w : World) : List AV → List Value → Prop
  | nil : ArgsP w [] []
  | cons {x : AV} {v : Value} {xs : List AV} {vs : List Value} (hx : PA (Lt w) w x v) (hr : ArgsP w xs vs) : ArgsP w (x :: xs) (v :: vs)
theorem ArgsP.at {w : World} {xs : List AV} {vs : List Value} (h : ArgsP w xs vs) : vs.length = xs.length ∧ ∀ (j : Nat) x, xs[j]? = some x → ∃ u, vs[j]? = some u ∧ PA (Lt w) w x u := by
  induction h with
  | nil => exact ⟨rfl, fun j x hj => by simp at hj⟩
  | cons hx hr ih =>
    refine ⟨by simp [ih.1], fun j x hj => ?_⟩
    cases j with
    | zero => cases hj; exact ⟨_, rfl, hx⟩
    | succ j => exact ih.2 j x (by simpa using hj)
theorem argP_lit {w : World} {x : AV} {v : Value} (h : ofVt v = some x) : PA (Lt w) w x v := ofVt_P h
theorem argP_view {w : World} {m : Nat} {rows : List (List PV)} {v : Value} (h : PR (Lt w) w (.view m rows) v) (ho : v.oneCell' = true) : PA (Lt w) w (one (.p (.view m rows))) v := ⟨h, ho⟩
/-- A struct whose cells are told one by one. -/
theorem argP_agg {w : World} {cs : List Value} {ps : List PV} (h : ElPV w cs ps) : PA (Lt w) w (.a (.agg (ps.map .p))) (.agg cs.toArray) := by
  refine ⟨cs.toArray, rfl, by simp [h.1], fun j c hj => ?_⟩
  rw [List.getElem?_map, Option.map_eq_some_iff] at hj
  obtain ⟨p, hj, rfl⟩ := hj
  have hl : j < cs.length := by rw [h.1]; exact (List.getElem?_eq_some_iff.1 hj).1
  have hv : cs[j]? = some cs[j] := List.getElem?_eq_getElem hl
  obtain ⟨h1, h2⟩ := h.2 j _ p hv hj
  exact ⟨cs[j], by rw [List.getElem?_toArray]; exact hv, h1, h2⟩
theorem walk_of_args {P : Program} {fr : Bool} {f : FuncId} {xs : List AV} {vs : Array Value} (hp : Pure P fr f xs (Bo true)) {w : World} (ha : ArgsP w xs vs.toList) : Calls P f vs w fun e w' => e = .returned (.bool true) ∧ Below w.heap.size w w' := by
  obtain ⟨h1, h2⟩ := ha.at
  refine (hp.calls w (Lt w) vs (fun g hg => hg) (by simpa using h1) (fun j x hj => ?_)).mono ?_
  · obtain ⟨u, h4, h5⟩ := h2 j x hj
    exact ⟨u, by simpa using h4, h5⟩
  · rintro e w' ⟨v, rfl, hb, hr⟩
    exact ⟨by rw [hr.1.val_eq], hb⟩
end Go.Proofs.Ytbidaccdjnbhfaa

/- A struct argument (Packet) opened to its fields. -/
namespace Go.Proofs.Ytbidaccdjnbhfaa
open Go.Joins Go.ChangeShapes Go.WideShapes Go.RowKit Go.Deep
set_option linter.unusedVariables false
namespace OpPacket
section
variable {H : Type} {enc : TypeId × Value → H} {w : World} {base : Nat} {spare : Nat → Bool} {held : Bool}
theorem cells_Segment : Try.prog.cellsOf 34 = 8 := by kernel_rfl
theorem cells_int : Try.prog.cellsOf 3 = 1 := by kernel_rfl
theorem cells_string : Try.prog.cellsOf 9 = 1 := by kernel_rfl
theorem cells_all : Try.prog.cellsOf 36 = 16 := by kernel_rfl
set_option maxRecDepth 100000 in
theorem opened {r : Reach} {b0 : Nat} {v : Value} {d : DataW H} {p : List MemPlace} (hv : Value.okWide Try.prog w r b0 36 v) (h : DataW.Trod enc Try.prog w base spare held 36 v d p) :
    ∃ e : PktM, v = e.val ∧ e.Wf := by
  obtain ⟨cs, rfl, hsz⟩ := okWide_struct Try.underlying36 hv
  obtain ⟨l⟩ := cs
  match l, hsz.trans cells_all with
  | [c0, c1, c2, c3, c4, c5, c6, c7, c8, c9, c10, c11, c12, c13, c14, c15], _ =>
    obtain ⟨fuel, hf0⟩ := h
    have hf : DataW.trod enc Try.prog w base spare held fuel 36 [c0, c1, c2, c3, c4, c5, c6, c7, c8, c9, c10, c11, c12, c13, c14, c15] = some _ := hf0
    obtain ⟨y0, n0, g0⟩ := open_parts Try.underlying36 hf 0 _ rfl
    have h0 : DataW.trod enc Try.prog w base spare held n0 3 [c0] = some y0 := by simpa [Value.cells, cells_int] using g0
    obtain ⟨a0, rfl, w0⟩ := part_int Try.underlying3 h0
    obtain ⟨y1, n1, g1⟩ := open_parts Try.underlying36 hf 1 _ rfl
    have h1 : DataW.trod enc Try.prog w base spare held n1 3 [c1] = some y1 := by simpa [Value.cells, cells_int] using g1
    obtain ⟨a1, rfl, w1⟩ := part_int Try.underlying3 h1
    obtain ⟨y2, n2, g2⟩ := open_parts Try.underlying36 hf 2 _ rfl
    have h2 : DataW.trod enc Try.prog w base spare held n2 3 [c2] = some y2 := by simpa [Value.cells, cells_int] using g2
    obtain ⟨a2, rfl, w2⟩ := part_int Try.underlying3 h2
    obtain ⟨y3, n3, g3⟩ := open_parts Try.underlying36 hf 3 _ rfl
    have h3 : DataW.trod enc Try.prog w base spare held n3 3 [c3] = some y3 := by simpa [Value.cells, cells_int] using g3
    obtain ⟨a3, rfl, w3⟩ := part_int Try.underlying3 h3
    obtain ⟨y4, n4, g4⟩ := open_parts Try.underlying36 hf 4 _ rfl
    have h4 : DataW.trod enc Try.prog w base spare held n4 3 [c4] = some y4 := by simpa [Value.cells, cells_int] using g4
    obtain ⟨a4, rfl, w4⟩ := part_int Try.underlying3 h4
    obtain ⟨y5, n5, g5⟩ := open_parts Try.underlying36 hf 5 _ rfl
    have h5 : DataW.trod enc Try.prog w base spare held n5 3 [c5] = some y5 := by simpa [Value.cells, cells_int] using g5
    obtain ⟨a5, rfl, w5⟩ := part_int Try.underlying3 h5
    obtain ⟨y6, n6, g6⟩ := open_parts Try.underlying36 hf 6 _ rfl
    have h6 : DataW.trod enc Try.prog w base spare held n6 3 [c6] = some y6 := by simpa [Value.cells, cells_int] using g6
    obtain ⟨a6, rfl, w6⟩ := part_int Try.underlying3 h6
    obtain ⟨y7, n7, g7⟩ := open_parts Try.underlying36 hf 7 _ rfl
    have h7 : DataW.trod enc Try.prog w base spare held n7 3 [c7] = some y7 := by simpa [Value.cells, cells_int] using g7
    obtain ⟨a7, rfl, w7⟩ := part_int Try.underlying3 h7
    obtain ⟨y8, n8, g8⟩ := open_parts Try.underlying36 hf 8 _ rfl
    have h8 : DataW.trod enc Try.prog w base spare held n8 34 [c8, c9, c10, c11, c12, c13, c14, c15] = some y8 := by simpa [Value.cells, cells_Segment] using g8
    obtain ⟨y8_0, n8_0, g8_0⟩ := open_parts Try.underlying34 h8 0 _ rfl
    have h8_0 : DataW.trod enc Try.prog w base spare held n8_0 3 [c8] = some y8_0 := by simpa [Value.cells, cells_int] using g8_0
    obtain ⟨a8, rfl, w8⟩ := part_int Try.underlying3 h8_0
    obtain ⟨y8_1, n8_1, g8_1⟩ := open_parts Try.underlying34 h8 1 _ rfl
    have h8_1 : DataW.trod enc Try.prog w base spare held n8_1 3 [c9] = some y8_1 := by simpa [Value.cells, cells_int] using g8_1
    obtain ⟨a9, rfl, w9⟩ := part_int Try.underlying3 h8_1
    obtain ⟨y8_2, n8_2, g8_2⟩ := open_parts Try.underlying34 h8 2 _ rfl
    have h8_2 : DataW.trod enc Try.prog w base spare held n8_2 3 [c10] = some y8_2 := by simpa [Value.cells, cells_int] using g8_2
    obtain ⟨a10, rfl, w10⟩ := part_int Try.underlying3 h8_2
    obtain ⟨y8_3, n8_3, g8_3⟩ := open_parts Try.underlying34 h8 3 _ rfl
    have h8_3 : DataW.trod enc Try.prog w base spare held n8_3 3 [c11] = some y8_3 := by simpa [Value.cells, cells_int] using g8_3
    obtain ⟨a11, rfl, w11⟩ := part_int Try.underlying3 h8_3
    obtain ⟨y8_4, n8_4, g8_4⟩ := open_parts Try.underlying34 h8 4 _ rfl
    have h8_4 : DataW.trod enc Try.prog w base spare held n8_4 3 [c12] = some y8_4 := by simpa [Value.cells, cells_int] using g8_4
    obtain ⟨a12, rfl, w12⟩ := part_int Try.underlying3 h8_4
    obtain ⟨y8_5, n8_5, g8_5⟩ := open_parts Try.underlying34 h8 5 _ rfl
    have h8_5 : DataW.trod enc Try.prog w base spare held n8_5 3 [c13] = some y8_5 := by simpa [Value.cells, cells_int] using g8_5
    obtain ⟨a13, rfl, w13⟩ := part_int Try.underlying3 h8_5
    obtain ⟨y8_6, n8_6, g8_6⟩ := open_parts Try.underlying34 h8 6 _ rfl
    have h8_6 : DataW.trod enc Try.prog w base spare held n8_6 3 [c14] = some y8_6 := by simpa [Value.cells, cells_int] using g8_6
    obtain ⟨a14, rfl, w14⟩ := part_int Try.underlying3 h8_6
    obtain ⟨y8_7, n8_7, g8_7⟩ := open_parts Try.underlying34 h8 7 _ rfl
    have h8_7 : DataW.trod enc Try.prog w base spare held n8_7 9 [c15] = some y8_7 := by simpa [Value.cells, cells_string] using g8_7
    obtain ⟨a15, rfl, w15⟩ := part_string Try.underlying9 h8_7
    exact ⟨⟨a0, a1, a2, a3, a4, a5, a6, a7, ⟨a8, a9, a10, a11, a12, a13, a14, a15⟩⟩, rfl, ⟨i64_bd w0, i64_bd w1, i64_bd w2, i64_bd w3, i64_bd w4, i64_bd w5, i64_bd w6, i64_bd w7, ⟨i64_bd w8, i64_bd w9, i64_bd w10, i64_bd w11, i64_bd w12, i64_bd w13, i64_bd w14, w15⟩⟩⟩
end
end OpPacket
end Go.Proofs.Ytbidaccdjnbhfaa
