/- DescribePacket of the program. -/
import Derived.Test.YtfbnjemmmgobkaaAMDp2
namespace Go.Proofs.Ytfbnjemmmgobkaa
open Go.RowKit AM
set_option linter.unusedVariables false
set_option linter.unusedSimpArgs false

theorem tdr : sizeL Try.prog 163 = some (2, true) ∧
    fieldsL Try.prog 163 = some [(0, 1, false), (1, 1, false)] ∧
    zeroL Try.prog 163 = some [.int .i64 0, .int .i64 0] ∧
    bytesL Try.prog 163 = some 16 ∧
    sizeL Try.prog 161 = some (6, true) ∧
    fieldsL Try.prog 161 = some [(0, 1, false), (1, 1, false), (2, 1, false), (3, 1, false), (4, 1, false), (5, 1, false)] ∧
    zeroL Try.prog 161 = some [.int .i64 0, .int .i64 0, .int .i64 0, .int .i64 0, .int .i64 0, .int .i64 0] ∧
    bytesL Try.prog 161 = some 48 ∧
    sizeL Try.prog 78 = some (1, false) ∧
    zeroL Try.prog 78 = some [.slice none 0 0] ∧
    elemL Try.prog 78 = some (163, 2) ∧
    bytesL Try.prog 78 = some 24 ∧
    sizeL Try.prog 81 = some (1, false) ∧
    zeroL Try.prog 81 = some [.slice none 0 0] ∧
    elemL Try.prog 81 = some (161, 6) ∧
    bytesL Try.prog 81 = some 24 ∧
    sizeL Try.prog 3 = some (1, false) ∧
    zeroL Try.prog 3 = some [.int .i64 0] ∧
    bytesL Try.prog 3 = some 8 ∧
    Try.prog.underlying 3 = some (.int .i64) ∧
    sizeL Try.prog 4 = some (1, false) ∧
    zeroL Try.prog 4 = some [.bool false] ∧
    bytesL Try.prog 4 = some 1 ∧
    Try.prog.underlying 4 = some (.bool) := ⟨by kernel_rfl, by kernel_rfl, by kernel_rfl, by kernel_rfl, by kernel_rfl, by kernel_rfl, by kernel_rfl, by kernel_rfl, by kernel_rfl, by kernel_rfl, by kernel_rfl, by kernel_rfl, by kernel_rfl, by kernel_rfl, by kernel_rfl, by kernel_rfl, by kernel_rfl, by kernel_rfl, by kernel_rfl, by kernel_rfl, by kernel_rfl, by kernel_rfl, by kernel_rfl, by kernel_rfl⟩

def dscBad (e : DescM) : Bool := !dscOk e
theorem dscOk_iff (e : DescM) : dscOk e = true ↔ ((0 ≤ e.xOp ∧ e.xOp ≤ 3) ∧ (0 ≤ e.xFlags ∧ e.xFlags ≤ 3) ∧ (0 ≤ e.xLen ∧ e.xLen ≤ 65535) ∧ (0 ≤ e.xSize ∧ e.xSize ≤ 65535) ∧ (0 ≤ e.xCookie ∧ e.xCookie ≤ 65535) ∧ (0 ≤ e.xAt ∧ e.xAt ≤ 4294967295)) := by unfold dscOk; exact decide_eq_true_iff
theorem part_get (f : Nat → Int) (c : Int) (l : List PieceM) (n j : Nat) (e : PieceM) (hj : j < n) (he : l[j]? = some e) : (part f c l n)[j]? = some (dat c (f j) e) := by
  unfold part
  rw [List.getElem?_map, List.getElem?_range hj]
  simp [he]
theorem idx_desc (l : List PieceM) (size cookie : Int) (hp : idxI pcBad l = -1) (hs : 1 ≤ size ∧ size ≤ 128) : idxI dscBad ((⟨2, 0, 0, 0, size, cookie⟩ : DescM) :: part (endF l.length) cookie l l.length) = -1 ↔ ((0 ≤ cookie ∧ cookie ≤ 65535) ∧ idxI atBad l = -1) := by
  have hE : ∀ n k, 0 ≤ endF n k ∧ endF n k ≤ 1 := fun n k => by unfold endF; split <;> omega
  have hd : ∀ (e : PieceM) (k : Nat), pcBad e = false → (dscBad (dat cookie (endF l.length k) e) = false ↔ ((0 ≤ cookie ∧ cookie ≤ 65535) ∧ atBad e = false)) := fun e k he => by
    have := hE l.length k
    simp only [pcBad, decide_eq_false_iff_not] at he
    rw [show dscBad (dat cookie (endF l.length k) e) = !decide ((0 ≤ cookie ∧ cookie ≤ 65535) ∧ e.xAt ≤ 4294967295) from by
      unfold dscBad; congr 1; rw [Bool.eq_iff_iff]; refine (dscOk_iff _).trans ⟨fun h => decide_eq_true ⟨h.2.2.2.2.1, h.2.2.2.2.2.2⟩, fun h => ?_⟩
      have h := of_decide_eq_true h
      exact ⟨by show 0 ≤ (1 : Int) ∧ (1 : Int) ≤ 3; omega, by show 0 ≤ endF l.length k ∧ endF l.length k ≤ 3; omega, by show 0 ≤ e.xLen ∧ e.xLen ≤ 65535; omega, by show 0 ≤ (0 : Int) ∧ (0 : Int) ≤ 65535; omega, h.1, by show 0 ≤ e.xAt ∧ e.xAt ≤ 4294967295; omega⟩]
    simp only [atBad, Bool.not_eq_false', decide_eq_true_eq, decide_eq_false_iff_not]
    constructor
    · rintro ⟨a, b⟩; exact ⟨a, by omega⟩
    · rintro ⟨a, b⟩; exact ⟨a, by omega⟩
  have hc : dscBad (⟨2, 0, 0, 0, size, cookie⟩ : DescM) = false ↔ (0 ≤ cookie ∧ cookie ≤ 65535) := by
    rw [show dscBad (⟨2, 0, 0, 0, size, cookie⟩ : DescM) = !decide (0 ≤ cookie ∧ cookie ≤ 65535) from by
      unfold dscBad; congr 1; rw [Bool.eq_iff_iff]; refine (dscOk_iff _).trans ⟨fun h => decide_eq_true h.2.2.2.2.1, fun h => ?_⟩
      have h := of_decide_eq_true h
      exact ⟨by show 0 ≤ (2 : Int) ∧ (2 : Int) ≤ 3; omega, by show 0 ≤ (0 : Int) ∧ (0 : Int) ≤ 3; omega, by show 0 ≤ (0 : Int) ∧ (0 : Int) ≤ 65535; omega, by show 0 ≤ size ∧ size ≤ 65535; omega, h, by show 0 ≤ (0 : Int) ∧ (0 : Int) ≤ 4294967295; omega⟩]
    simp only [Bool.not_eq_false', decide_eq_true_eq]
  constructor
  · intro h
    have h0 := hc.1 (idxI_no dscBad _ h 0 _ rfl)
    refine ⟨h0, idxI_none atBad l fun j e hj he => ?_⟩
    have h1 := idxI_no dscBad _ h (j + 1) _ (by rw [List.getElem?_cons_succ]; exact part_get (endF l.length) cookie l l.length j e hj he)
    exact ((hd e j (idxI_no pcBad l hp j e he)).1 h1).2
  · rintro ⟨h0, h⟩
    refine idxI_none dscBad _ fun j x hj hx => ?_
    cases j with
    | zero => simp at hx; subst hx; exact hc.2 h0
    | succ j =>
      rw [List.getElem?_cons_succ] at hx
      have hj2 : j < l.length := by simp [part_len] at hj; exact hj
      obtain ⟨e, he⟩ : ∃ e, l[j]? = some e := ⟨l[j]'hj2, by simp⟩
      rw [part_get (endF l.length) cookie l l.length j e hj2 he] at hx
      cases hx
      exact (hd e j (idxI_no pcBad l hp j e he)).2 ⟨h0, idxI_no atBad l h j e he⟩
theorem part_split (c : Int) (l : List PieceM) (m : Nat) (e : PieceM) (hm : m + 1 = l.length) (he : l[m]? = some e) : part (endF l.length) c l l.length = part (fun _ => 0) c l m ++ [dat c 1 e] ∧ part (fun _ => 0) c l l.length = part (fun _ => 0) c l m ++ [dat c 0 e] := by
  have h0 : part (endF l.length) c l m = part (fun _ => 0) c l m := by
    unfold part
    refine List.map_congr_left fun k hk => ?_
    have := List.mem_range.1 hk
    rw [show endF l.length k = 0 from by unfold endF; rw [if_neg (by omega)]]
  have h1 := part_next (endF l.length) c l m e he
  have h2 := part_next (fun _ => 0) c l m e he
  rw [hm] at h1 h2
  rw [h1, h2, h0, show endF l.length m = 1 from by unfold endF; rw [if_pos hm]]
  exact ⟨rfl, rfl⟩

set_option maxHeartbeats 4000000 in
set_option maxRecDepth 100000 in
theorem am_impl_Dp_S1 (e : DescM) : Pure Try.prog true 121 [.a (.agg [cI (e.xOp), cI (e.xFlags), cI (e.xLen), cI (e.xAt), cI (e.xSize), cI (e.xCookie)])] (Bo (dscBad e)) := by
  obtain ⟨T0, T1, T2, T3, T4, T5, T6, T7, T8, T9, T10, T11, T12, T13, T14, T15, T16, T17, T18, T19, T20, T21, T22, T23⟩ := tdr; refine pure_of_code' (by kernel_rfl) Try.func121 rfl Try.ntmps121 (by simp) ?_; intro K hK hKn; simp only [argS, Nat.reduceAdd, Nat.zero_add]
  repeat' (first | (with_reducible first | refine opsE_nil ?_ | refine chainE_nil ?_ | refine codeE_ret ?_ | refine codeE_exit ?_ | refine codeE_skip ?_ | refine codeE_block ?_ | refine blockK_normal ?_ | refine blockK_ret ?_ | refine blockK_exit ?_ | refine roundK_ret ?_ | refine roundK_exit ?_ | refine codeE_goto ?_ | refine codeE_label ?_ | refine firstK_ret ?_ | refine passK_ret ?_ | refine passK_normal ?_ | refine passK_exit ?_ | refine blockK_goto ?_) | (with_reducible refine codeE_seq_k ?_; intro Kq hq1 hq2 hq3 hq4) | (with_reducible refine codeE_region ?_; simp only [List.toList_toArray]) | (with_reducible refine blockK_far rfl ?_) | ((with_reducible first | refine hq1 _ _ ?_ | refine hq2 _ _ ?_ | refine hq3 _ _ _ ?_ | refine hq4 _ _ _ ?_); clear hq1 hq2 hq3 hq4 Kq) | ((with_reducible first | refine hK _ _ ?_ | refine hKn _ _ ?_); clear hK hKn K) | (with_reducible refine And.intro (by first | omega | assumption | rfl) ?_) | ((with_reducible show opsE _ _ _ (_ :: _) _ _ _); first | (refine st_call' rfl rfl rfl rfl (.same true rfl (am_impl_DescOk e)) rfl ?_) | (refine nb ?_; simp only [List.cons_append, List.nil_append, List.length_cons, List.length_nil, Nat.reduceAdd, Nat.zero_add]) | refine nx ?_ | refine ns ?_ | refine ns' ?_ | ((first | refine na ?_ | refine nal ?_ | refine nan ?_); simp only [List.cons_append, List.nil_append, List.length_cons, List.length_nil, Nat.reduceAdd, Nat.zero_add]) | refine nu ?_) | ((first | refine codeE_cond rfl ?_ ?_ | refine st_if rfl rfl rfl rfl rfl ?_ ?_); all_goals (intro hc; (first | (exfalso; cases hc; done) | (simp only [decide_eq_true_eq, decide_eq_false_iff_not, beq_iff_eq, bne_iff_ne, beq_eq_false_iff_ne, bne_eq_false_iff_eq, Bool.not_true, Bool.not_false, Bool.and_eq_true, Bool.or_eq_true, Bool.and_eq_false_iff, Bool.or_eq_false_iff, Bool.not_eq_true', Bool.not_eq_false', Int.not_le, Int.not_lt, ne_eq, Decidable.not_not, eq_self, not_true_eq_false] at hc; (try (exfalso; omega))) | skip))))
  all_goals (simp only [resE, Try.results121, resOf, pack, AM.get, omap, ow_some, loadA, ofV, evO, blkOf, A1.one.injEq, Option.bind_some, Option.map_some, id, reduceIte, if_true, if_false, List.getElem?_cons_zero, List.getElem?_cons_succ, List.length_cons, List.length_nil, List.drop_zero, List.take_succ_cons, List.take_zero, Nat.reduceAdd, Nat.reduceLeDiff, Nat.reduceEqDiff, Nat.zero_add, Nat.le_refl, List.toList_toArray, reduceCtorEq, T0, T4, T8, T12, T16, T20]; repeat' (first | (refine exp_val ?_; rfl) | (exact ExpCs.nil) | (exact Exp1s.nil) | (exact exp_val rfl) | (refine exp_val ?_; simp [*]; done) | (exact exp_same) | (exact .nilsl) | (refine ExpCs.cons _ _ _ _ ?_ ?_) | (refine Exp1s.cons _ _ _ _ ?_ ?_) | (refine exp_agg ?_) | (refine exp_one ?_) | (refine exp_tup ?_) | (refine exp_agg1 ?_) | (refine Exp1.one _ _ ?_)))

theorem am_dsc_lit_at {e : DescM} {b : Bool} (hq : dscBad e = b) : Pure Try.prog true 121 [.a (.agg [cI (e.xOp), cI (e.xFlags), cI (e.xLen), cI (e.xAt), cI (e.xSize), cI (e.xCookie)])] (Bo b) := by subst hq; exact am_impl_Dp_S1 e

set_option maxHeartbeats 4000000 in
set_option maxRecDepth 100000 in
theorem am_IndexDesc (l : List DescM) (hn : l.length ≤ 9223372036854775807) : Pure Try.prog true 161 [one (.p (.view 6 (l.map DescM.pv))), one (.p (.val (.func (.func 121) #[] #[])))] (I (idxI dscBad l)) := by
  obtain ⟨T0, T1, T2, T3, T4, T5, T6, T7, T8, T9, T10, T11, T12, T13, T14, T15, T16, T17, T18, T19, T20, T21, T22, T23⟩ := tdr; refine pure_of_code' (by kernel_rfl) Try.func161 rfl Try.ntmps161 (by simp) ?_; intro K hK hKn; simp only [argS, Nat.reduceAdd, Nat.zero_add]
  repeat' (first | ((with_reducible show codeE _ _ _ (.loop _) _ _ _); refine codeE_loop (fun m t h => ∃ (i : Nat), i ≤ l.length ∧ (∀ (j : Nat) (x : DescM), j < i → l[j]? = some x → dscBad x = false) ∧ m + i = l.length ∧ t = [(0, one (.p (.view 6 (l.map DescM.pv)))), (1, one (.p (.val (.func (.func 121) #[] #[])))), (7, I l.length), (8, I i)] ∧ h = []) (l.length) ⟨_, _, ?W, 0, by first | omega | (simp; done) | assumption | (simp; omega), by first | omega | (simp; done) | assumption | (simp; omega), by first | omega | (simp; done) | assumption | (simp; omega), rfl, rfl⟩ ?_; (case W => (refine weakE_of [] rfl rfl rfl rfl ?_ ?_; (focus (exact sW)); ((repeat' (first | exact HeapW.nil | refine HeapW.none ?_ | refine HeapW.cons rfl ?_ ?_ | refine HeapW.new (by exact Nat.le_of_ble_eq_true rfl) ?_)); all_goals (first | (refine wkB_plain (plainR_B plR) ?_; (first | (rfl; done) | rfl)) | (refine wkB_row ?_; repeat' (first | exact WkCs.nil | refine WkCs.cons ?_ ?_ | (first | ((with_reducible refine wkC_pure ?_); rfl) | (refine wkC_sl (by exact iotb rfl) rfl ?_ ?_; all_goals (first | rfl | omega | (simp; done) | (simp; omega))) | (refine wkC_sl rfl rfl ?_ ?_; all_goals (first | rfl | omega | (simp; done) | (simp; omega))) | (refine wkC_ptr (by exact iotb rfl) rfl ?_; (first | rfl | omega | (simp; done) | (simp; omega))) | (refine wkC_clo rfl rfl) | (refine wkC_nilsl ?_; (first | rfl | omega | (simp; done) | (simp; omega))) | (refine wkC_nil0 ?_; (first | rfl | omega | (simp; done) | (simp; omega))) | exact wkC_nil1 | (refine wkC_eq rfl ?_; congr 3; omega)))))))); rintro m t h ⟨i, hf0, hf1, hm, rfl, rfl⟩; refine (Decidable.em (i < l.length)).elim (fun hlt => ?lpA) (fun hlt => ?lpB); (case' lpA => ((obtain ⟨e, he⟩ : ∃ e, l[i]? = some e := ⟨l[i]'(by omega), by (first | (simp; done) | (simp; omega))⟩); (have hfd0 : dscBad e = true → idxI dscBad l = i := fun hq => idxI_found _ l i e he hq hf1); (have hnx0 : dscBad e = false → ∀ (j : Nat) (x : DescM), j < i + 1 → l[j]? = some x → dscBad x = false := fun hq j x hj hx => (by rcases Nat.lt_succ_iff_lt_or_eq.1 hj with h | h; exact hf1 j x h hx; subst h; rw [he] at hx; cases hx; exact hq)); (cases hq : dscBad e); all_goals (try (have hfd := hfd0 hq)); all_goals (try (have hnx := hnx0 hq)))); (case' lpB => ((obtain rfl : i = l.length := by omega); (have hno := idxI_none dscBad l hf1)))) | (with_reducible first | refine opsE_nil ?_ | refine chainE_nil ?_ | refine codeE_ret ?_ | refine codeE_exit ?_ | refine codeE_skip ?_ | refine codeE_block ?_ | refine blockK_normal ?_ | refine blockK_ret ?_ | refine blockK_exit ?_ | refine roundK_ret ?_ | refine roundK_exit ?_ | refine codeE_goto ?_ | refine codeE_label ?_ | refine firstK_ret ?_ | refine passK_ret ?_ | refine passK_normal ?_ | refine passK_exit ?_ | refine blockK_goto ?_) | (with_reducible refine codeE_seq_k ?_; intro Kq hq1 hq2 hq3 hq4) | (with_reducible refine codeE_region ?_; simp only [List.toList_toArray]) | (with_reducible refine blockK_far rfl ?_) | ((with_reducible first | refine hq1 _ _ ?_ | refine hq2 _ _ ?_ | refine hq3 _ _ _ ?_ | refine hq4 _ _ _ ?_); clear hq1 hq2 hq3 hq4 Kq) | ((with_reducible first | refine hK _ _ ?_ | refine hKn _ _ ?_); clear hK hKn K) | (with_reducible refine And.intro (by first | omega | assumption | rfl) ?_) | ((with_reducible show opsE _ _ _ (_ :: _) _ _ _); first | (refine st_clo_pure rfl rfl rfl rfl rfl rfl (.same true rfl ((am_dsc_lit_at hq))) rfl rfl ?_) | (refine stN rfl rfl rfl rfl (fun K k => by first | exact f_ldm (show e.pv = [pI (e.xOp), pI (e.xFlags), pI (e.xLen), pI (e.xAt), pI (e.xSize), pI (e.xCookie)] from rfl) rfl rfl k) ?_) | (refine nb ?_; simp only [List.cons_append, List.nil_append, List.length_cons, List.length_nil, Nat.reduceAdd, Nat.zero_add]) | refine nx ?_ | refine ns ?_ | refine ns' ?_ | ((first | refine na ?_ | refine nal ?_ | refine nan ?_); simp only [List.cons_append, List.nil_append, List.length_cons, List.length_nil, Nat.reduceAdd, Nat.zero_add]) | refine nu ?_) | ((first | refine codeE_cond rfl ?_ ?_ | refine st_if rfl rfl rfl rfl rfl ?_ ?_); all_goals (intro hc; (first | (exfalso; cases hc; done) | (simp only [decide_eq_true_eq, decide_eq_false_iff_not, beq_iff_eq, bne_iff_ne, beq_eq_false_iff_ne, bne_eq_false_iff_eq, Bool.not_true, Bool.not_false, Bool.and_eq_true, Bool.or_eq_true, Bool.and_eq_false_iff, Bool.or_eq_false_iff, Bool.not_eq_true', Bool.not_eq_false', Int.not_le, Int.not_lt, ne_eq, Decidable.not_not, eq_self, not_true_eq_false] at hc; (try (exfalso; omega))) | skip))))
  all_goals (first | (refine roundK_normal (m - 1) (by omega) _ _ ?W ⟨i + 1, by first | omega | (simp; done) | assumption | (simp; omega), by first | omega | (simp; done) | assumption | (simp; omega), by first | omega | (simp; done) | assumption | (simp; omega), rfl, rfl⟩; (case W => (refine weakE_of [] rfl rfl rfl rfl ?_ ?_; (focus (exact sW)); ((repeat' (first | exact HeapW.nil | refine HeapW.none ?_ | refine HeapW.cons rfl ?_ ?_ | refine HeapW.new (by exact Nat.le_of_ble_eq_true rfl) ?_)); all_goals (first | (refine wkB_plain (plainR_B plR) ?_; (first | (rfl; done) | rfl)) | (refine wkB_row ?_; repeat' (first | exact WkCs.nil | refine WkCs.cons ?_ ?_ | (first | ((with_reducible refine wkC_pure ?_); rfl) | (refine wkC_sl (by exact iotb rfl) rfl ?_ ?_; all_goals (first | rfl | omega | (simp; done) | (simp; omega))) | (refine wkC_sl rfl rfl ?_ ?_; all_goals (first | rfl | omega | (simp; done) | (simp; omega))) | (refine wkC_ptr (by exact iotb rfl) rfl ?_; (first | rfl | omega | (simp; done) | (simp; omega))) | (refine wkC_clo rfl rfl) | (refine wkC_nilsl ?_; (first | rfl | omega | (simp; done) | (simp; omega))) | (refine wkC_nil0 ?_; (first | rfl | omega | (simp; done) | (simp; omega))) | exact wkC_nil1 | (refine wkC_eq rfl ?_; congr 3; omega))))))))) | (simp only [resE, Try.results161, resOf, pack, AM.get, omap, ow_some, loadA, ofV, evO, blkOf, A1.one.injEq, Option.bind_some, Option.map_some, id, reduceIte, if_true, if_false, List.getElem?_cons_zero, List.getElem?_cons_succ, List.length_cons, List.length_nil, List.drop_zero, List.take_succ_cons, List.take_zero, Nat.reduceAdd, Nat.reduceLeDiff, Nat.reduceEqDiff, Nat.zero_add, Nat.le_refl, List.toList_toArray, reduceCtorEq, T0, T4, T8, T12, T16, T20]; (repeat' (first | (refine exp_val ?_; rw [hfd]) | (refine exp_val ?_; rw [hno]) | (exact ExpCs.nil) | (exact Exp1s.nil) | (exact exp_val rfl) | (refine exp_val ?_; simp [*]; done) | (exact exp_same) | (exact .nilsl) | (refine ExpCs.cons _ _ _ _ ?_ ?_) | (refine Exp1s.cons _ _ _ _ ?_ ?_) | (refine exp_agg ?_) | (refine exp_one ?_) | (refine exp_tup ?_) | (refine exp_agg1 ?_) | (refine Exp1.one _ _ ?_))); done))

set_option maxHeartbeats 4000000 in
set_option maxRecDepth 100000 in
theorem am_ContainsDesc (l : List DescM) (hn : l.length ≤ 9223372036854775807) : Pure Try.prog true 120 [one (.p (.view 6 (l.map DescM.pv))), one (.p (.val (.func (.func 121) #[] #[])))] (Bo (decide (0 ≤ idxI dscBad l))) := by
  obtain ⟨T0, T1, T2, T3, T4, T5, T6, T7, T8, T9, T10, T11, T12, T13, T14, T15, T16, T17, T18, T19, T20, T21, T22, T23⟩ := tdr; refine pure_of_code' (by kernel_rfl) Try.func120 rfl Try.ntmps120 (by simp) ?_; intro K hK hKn; simp only [argS, Nat.reduceAdd, Nat.zero_add]
  repeat' (first | (with_reducible first | refine opsE_nil ?_ | refine chainE_nil ?_ | refine codeE_ret ?_ | refine codeE_exit ?_ | refine codeE_skip ?_ | refine codeE_block ?_ | refine blockK_normal ?_ | refine blockK_ret ?_ | refine blockK_exit ?_ | refine roundK_ret ?_ | refine roundK_exit ?_ | refine codeE_goto ?_ | refine codeE_label ?_ | refine firstK_ret ?_ | refine passK_ret ?_ | refine passK_normal ?_ | refine passK_exit ?_ | refine blockK_goto ?_) | (with_reducible refine codeE_seq_k ?_; intro Kq hq1 hq2 hq3 hq4) | (with_reducible refine codeE_region ?_; simp only [List.toList_toArray]) | (with_reducible refine blockK_far rfl ?_) | ((with_reducible first | refine hq1 _ _ ?_ | refine hq2 _ _ ?_ | refine hq3 _ _ _ ?_ | refine hq4 _ _ _ ?_); clear hq1 hq2 hq3 hq4 Kq) | ((with_reducible first | refine hK _ _ ?_ | refine hKn _ _ ?_); clear hK hKn K) | (with_reducible refine And.intro (by first | omega | assumption | rfl) ?_) | ((with_reducible show opsE _ _ _ (_ :: _) _ _ _); first | (refine st_call' rfl rfl rfl rfl (.same true rfl (am_IndexDesc l hn)) rfl ?_) | (refine nb ?_; simp only [List.cons_append, List.nil_append, List.length_cons, List.length_nil, Nat.reduceAdd, Nat.zero_add]) | refine nx ?_ | refine ns ?_ | refine ns' ?_ | ((first | refine na ?_ | refine nal ?_ | refine nan ?_); simp only [List.cons_append, List.nil_append, List.length_cons, List.length_nil, Nat.reduceAdd, Nat.zero_add]) | refine nu ?_) | ((first | refine codeE_cond rfl ?_ ?_ | refine st_if rfl rfl rfl rfl rfl ?_ ?_); all_goals (intro hc; (first | (exfalso; cases hc; done) | (simp only [decide_eq_true_eq, decide_eq_false_iff_not, beq_iff_eq, bne_iff_ne, beq_eq_false_iff_ne, bne_eq_false_iff_eq, Bool.not_true, Bool.not_false, Bool.and_eq_true, Bool.or_eq_true, Bool.and_eq_false_iff, Bool.or_eq_false_iff, Bool.not_eq_true', Bool.not_eq_false', Int.not_le, Int.not_lt, ne_eq, Decidable.not_not, eq_self, not_true_eq_false] at hc; (try (exfalso; omega))) | skip))))
  all_goals (simp only [resE, Try.results120, resOf, pack, AM.get, omap, ow_some, loadA, ofV, evO, blkOf, A1.one.injEq, Option.bind_some, Option.map_some, id, reduceIte, if_true, if_false, List.getElem?_cons_zero, List.getElem?_cons_succ, List.length_cons, List.length_nil, List.drop_zero, List.take_succ_cons, List.take_zero, Nat.reduceAdd, Nat.reduceLeDiff, Nat.reduceEqDiff, Nat.zero_add, Nat.le_refl, List.toList_toArray, reduceCtorEq, T0, T4, T8, T12, T16, T20]; repeat' (first | (exact ExpCs.nil) | (exact Exp1s.nil) | (exact exp_val rfl) | (refine exp_val ?_; simp [*]; done) | (exact exp_same) | (exact .nilsl) | (refine ExpCs.cons _ _ _ _ ?_ ?_) | (refine Exp1s.cons _ _ _ _ ?_ ?_) | (refine exp_agg ?_) | (refine exp_one ?_) | (refine exp_tup ?_) | (refine exp_agg1 ?_) | (refine Exp1.one _ _ ?_)))
end Go.Proofs.Ytfbnjemmmgobkaa
