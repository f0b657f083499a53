/- CutPieces of both sides. -/
import Derived.Test.YthjajgpejfoghabRowPieceEq
import Derived.Test.YthjajgpejfoghabRowPieceMark
import Derived.Test.YthjajgpejfoghabOwnRow
import Derived.Test.YthjajgpejfoghabInYN
namespace Go.Proofs.Ythjajgpejfoghab
open Go.RowKit
set_option linter.unusedSimpArgs false
set_option linter.unusedVariables false

theorem Try.infoPiece : (Try.prog.info? 118).map (fun i => (i.zero, i.size, i.bytes)) = some (some (.agg #[.int .i64 0, .int .i64 0]), 2, 16) := by kernel_rfl
theorem elemPiece : Elem Try.prog 78 118 (.agg #[.int .i64 0, .int .i64 0]) 2 16 := ⟨Try.underlying78, info_parts Try.infoPiece, by decide, by decide⟩
def cutOk (at_ n size : Int) : Prop := (0 ≤ at_ ∧ at_ ≤ 130944) ∧ (1 ≤ n ∧ n ≤ 4096) ∧ (1 ≤ size ∧ size ≤ 4096) ∧ n ≤ 16 * size
instance (a n s : Int) : Decidable (cutOk a n s) := by unfold cutOk; infer_instance
def cutAt (at_ : Int) (n size i : Nat) : PieceM := ⟨at_ + (i * size : Nat), min (size : Int) ((n : Int) - (i * size : Nat))⟩
def cutL (at_ : Int) (n size k : Nat) : List PieceM := (List.range k).map (cutAt at_ n size)
def cutM (at_ n size : Int) : List PieceM := if cutOk at_ n size then cutL at_ n.toNat size.toNat ((n.toNat + size.toNat - 1) / size.toNat) else []
theorem cutL_succ (a : Int) (n s k : Nat) : cutL a n s (k + 1) = cutL a n s k ++ [cutAt a n s k] := by simp [cutL, List.range_succ]
theorem cutL_length (a : Int) (n s k : Nat) : (cutL a n s k).length = k := by simp [cutL]
theorem cut_count {n s i : Nat} (hs : 1 ≤ s) (h1 : n ≤ i * s) (h2 : (i = 0 ∧ n = 0) ∨ (1 ≤ i ∧ (i - 1) * s < n)) : (n + s - 1) / s = i := by
  rcases h2 with ⟨rfl, rfl⟩ | ⟨h2, h3⟩
  · rw [Nat.zero_add]; exact Nat.div_eq_of_lt (by omega)
  · obtain ⟨j, rfl⟩ : ∃ j, i = j + 1 := ⟨i - 1, by omega⟩
    rw [Nat.add_sub_cancel] at h3
    rw [Nat.succ_mul] at h1
    refine Nat.le_antisymm (Nat.lt_succ_iff.1 ((Nat.div_lt_iff_lt_mul (by omega)).2 ?_)) ((Nat.le_div_iff_mul_le (by omega)).2 ?_)
    · rw [Nat.succ_mul, Nat.succ_mul]; omega
    · rw [Nat.succ_mul]; omega
theorem cutM_len (a n s : Int) : (cutM a n s).length ≤ 65536 := by
  unfold cutM
  split
  · rename_i h
    rw [cutL_length]
    have h2 := h.2.1
    have h3 := h.2.2.1
    exact Nat.le_trans (Nat.div_le_self _ _) (by omega)
  · exact Nat.zero_le _
def OwnPieces (w : World) (l : List PieceM) (e : Ending) (w' : World) : Prop := ∃ v, e = .returned v ∧ Row w' (Rng w.heap.size w'.heap.size) 118 2 v (l.map PieceM.arr) ∧ Below w.heap.size w w'
theorem spec_cond {n s : Nat} (hs : 1 ≤ s) : (¬ ((16 : Int) < (((n + s - 1) / s : Nat) : Int))) ↔ n ≤ 16 * s := by
  have h : ((n + s - 1) / s ≤ 16) ↔ n ≤ 16 * s := by
    rw [show (n + s - 1) / s ≤ 16 ↔ (n + s - 1) / s < 17 from Nat.lt_succ_iff.symm, Nat.div_lt_iff_lt_mul (by omega)]
    omega
  omega

set_option maxHeartbeats 4000000 in
set_option maxRecDepth 100000 in
theorem spec_cut_no (a n s : Int) (w : World) (hn : ¬ cutOk a n s) (bn : -9223372036854775808 ≤ n ∧ n ≤ 9223372036854775807) (bs : -9223372036854775808 ≤ s ∧ s ≤ 9223372036854775807) : Calls Try.prog 51 #[.int .i64 a, .int .i64 n, .int .i64 s] w (OwnPieces w []) := by
  have H1 := Lib.hid fun W => spec_in a 0 130944 W
  have H2 := Lib.hid fun W => spec_in n 1 4096 W
  have H3 := Lib.hid fun W => spec_in s 1 4096 W
  have HN := Lib.hid hn
  clear hn
  by_cases c1 : 0 ≤ a ∧ a ≤ 130944
  case neg =>
    rw [decide_eq_false c1] at H1
    clear c1
    go_enter Try.func51, Try.ntmps51
    go_wp2_with (first | (go_at_call_of 71 (Value.int IntKind.i64 a); refine (H1.out _).mono ?_; rintro e w' ⟨rfl, rfl⟩) | (go_at_call_of 71 (Value.int IntKind.i64 n); refine (H2.out _).mono ?_; rintro e w' ⟨rfl, rfl⟩) | (go_at_call_of 71 (Value.int IntKind.i64 s); refine (H3.out _).mono ?_; rintro e w' ⟨rfl, rfl⟩))
    refine bodyPost_ret (v := .slice (some ⟨w.heap.size, 0, none⟩) 0 0) (by simp [results, Try.results51, go_sem]) rfl ⟨_, rfl, Row.nil _ _ _ _ _ _, by exact below_new _⟩
  rw [decide_eq_true c1] at H1
  by_cases c2 : 1 ≤ n ∧ n ≤ 4096
  case neg =>
    rw [decide_eq_false c2] at H2
    clear c1 c2
    go_enter Try.func51, Try.ntmps51
    go_wp2_with (first | (go_at_call_of 71 (Value.int IntKind.i64 a); refine (H1.out _).mono ?_; rintro e w' ⟨rfl, rfl⟩) | (go_at_call_of 71 (Value.int IntKind.i64 n); refine (H2.out _).mono ?_; rintro e w' ⟨rfl, rfl⟩) | (go_at_call_of 71 (Value.int IntKind.i64 s); refine (H3.out _).mono ?_; rintro e w' ⟨rfl, rfl⟩))
    refine bodyPost_ret (v := .slice (some ⟨w.heap.size, 0, none⟩) 0 0) (by simp [results, Try.results51, go_sem]) rfl ⟨_, rfl, Row.nil _ _ _ _ _ _, by exact below_new _⟩
  rw [decide_eq_true c2] at H2
  by_cases c3 : 1 ≤ s ∧ s ≤ 4096
  case neg =>
    rw [decide_eq_false c3] at H3
    clear c1 c2 c3
    go_enter Try.func51, Try.ntmps51
    go_wp2_with (first | (go_at_call_of 71 (Value.int IntKind.i64 a); refine (H1.out _).mono ?_; rintro e w' ⟨rfl, rfl⟩) | (go_at_call_of 71 (Value.int IntKind.i64 n); refine (H2.out _).mono ?_; rintro e w' ⟨rfl, rfl⟩) | (go_at_call_of 71 (Value.int IntKind.i64 s); refine (H3.out _).mono ?_; rintro e w' ⟨rfl, rfl⟩))
    refine bodyPost_ret (v := .slice (some ⟨w.heap.size, 0, none⟩) 0 0) (by simp [results, Try.results51, go_sem]) rfl ⟨_, rfl, Row.nil _ _ _ _ _ _, by exact below_new _⟩
  rw [decide_eq_true c3] at H3
  have hx : 16 * s < n := by
    rcases Int.lt_or_le (16 * s) n with h | h
    · exact h
    · exact absurd ⟨c1, c2, c3, h⟩ HN.out
  have b1 := c2.1
  have b2 := c2.2
  have b3 := c3.1
  have b4 := c3.2
  have hq : (16 : Int) < (n + s - 1) / s := by
    have h := Int.lt_ediv_iff_mul_lt (a := 16) (b := s) (c := n + s - 1)
    have := (Int.le_ediv_iff_mul_le (c := s) (a := 17) (b := n + s - 1) (by omega)).2 (by omega)
    omega
  have hq1 : 0 ≤ (n + s - 1) / s := Int.ediv_nonneg (by omega) (by omega)
  have hq2 : (n + s - 1) / s ≤ 9000 := Int.le_trans (Int.ediv_le_self _ (by omega)) (by omega)
  have et : Int.tdiv (n + s - 1) s = (n + s - 1) / s := Int.tdiv_eq_ediv_of_nonneg (by omega)
  obtain ⟨Q, hQ⟩ : ∃ Q, (n + s - 1) / s = Q := ⟨_, rfl⟩
  rw [hQ] at hq hq1 hq2 et
  have hgt : 16 * s < n := hx
  have hs0 : ¬ s = 0 := by omega
  have HQ := Lib.hid hQ
  have ew : RowKit.wrap64 ((n + s - 1) / s) = Q := by rw [← IntWalk.i64_left, HQ.out]; exact wrap_in _ (by omega) (by omega)
  clear c1 c2 c3 hQ hx
  go_enter Try.func51, Try.ntmps51
  go_wp2_with (first | (go_at_call_of 71 (Value.int IntKind.i64 a); refine (H1.out _).mono ?_; rintro e w' ⟨rfl, rfl⟩) | (go_at_call_of 71 (Value.int IntKind.i64 n); refine (H2.out _).mono ?_; rintro e w' ⟨rfl, rfl⟩) | (go_at_call_of 71 (Value.int IntKind.i64 s); refine (H3.out _).mono ?_; rintro e w' ⟨rfl, rfl⟩))
  refine bodyPost_ret (v := .slice (some ⟨w.heap.size, 0, none⟩) 0 0) (by simp [results, Try.results51, go_sem]) rfl ⟨_, rfl, Row.nil _ _ _ _ _ _, by exact below_new _⟩

set_option maxHeartbeats 4000000 in
set_option maxRecDepth 100000 in
theorem impl_cut_no (a n s : Int) (w : World) (hn : ¬ cutOk a n s) (bn : -9223372036854775808 ≤ n ∧ n ≤ 9223372036854775807) (bs : -9223372036854775808 ≤ s ∧ s ≤ 9223372036854775807) : Calls Try.prog 52 #[.int .i64 a, .int .i64 n, .int .i64 s] w (OwnPieces w []) := by
  have H1 := Lib.hid fun W => impl_in a 0 130944 W
  have H2 := Lib.hid fun W => impl_in n 1 4096 W
  have H3 := Lib.hid fun W => impl_in s 1 4096 W
  have HN := Lib.hid hn
  clear hn
  by_cases c1 : 0 ≤ a ∧ a ≤ 130944
  case neg =>
    rw [decide_eq_false c1] at H1
    clear c1
    go_enter Try.func52, Try.ntmps52
    go_wp2_with (first | (go_at_call_of 74 (Value.int IntKind.i64 a); refine (H1.out _).mono ?_; rintro e w' ⟨rfl, rfl⟩) | (go_at_call_of 74 (Value.int IntKind.i64 n); refine (H2.out _).mono ?_; rintro e w' ⟨rfl, rfl⟩) | (go_at_call_of 74 (Value.int IntKind.i64 s); refine (H3.out _).mono ?_; rintro e w' ⟨rfl, rfl⟩))
    refine bodyPost_ret (v := .slice none 0 0) (by simp [results, Try.results52, go_sem]) rfl ⟨_, rfl, Row.nil _ _ _ _ _ _, by exact Below.refl _ _⟩
  rw [decide_eq_true c1] at H1
  by_cases c2 : 1 ≤ n ∧ n ≤ 4096
  case neg =>
    rw [decide_eq_false c2] at H2
    clear c1 c2
    go_enter Try.func52, Try.ntmps52
    go_wp2_with (first | (go_at_call_of 74 (Value.int IntKind.i64 a); refine (H1.out _).mono ?_; rintro e w' ⟨rfl, rfl⟩) | (go_at_call_of 74 (Value.int IntKind.i64 n); refine (H2.out _).mono ?_; rintro e w' ⟨rfl, rfl⟩) | (go_at_call_of 74 (Value.int IntKind.i64 s); refine (H3.out _).mono ?_; rintro e w' ⟨rfl, rfl⟩))
    refine bodyPost_ret (v := .slice none 0 0) (by simp [results, Try.results52, go_sem]) rfl ⟨_, rfl, Row.nil _ _ _ _ _ _, by exact Below.refl _ _⟩
  rw [decide_eq_true c2] at H2
  by_cases c3 : 1 ≤ s ∧ s ≤ 4096
  case neg =>
    rw [decide_eq_false c3] at H3
    clear c1 c2 c3
    go_enter Try.func52, Try.ntmps52
    go_wp2_with (first | (go_at_call_of 74 (Value.int IntKind.i64 a); refine (H1.out _).mono ?_; rintro e w' ⟨rfl, rfl⟩) | (go_at_call_of 74 (Value.int IntKind.i64 n); refine (H2.out _).mono ?_; rintro e w' ⟨rfl, rfl⟩) | (go_at_call_of 74 (Value.int IntKind.i64 s); refine (H3.out _).mono ?_; rintro e w' ⟨rfl, rfl⟩))
    refine bodyPost_ret (v := .slice none 0 0) (by simp [results, Try.results52, go_sem]) rfl ⟨_, rfl, Row.nil _ _ _ _ _ _, by exact Below.refl _ _⟩
  rw [decide_eq_true c3] at H3
  have hx : 16 * s < n := by
    rcases Int.lt_or_le (16 * s) n with h | h
    · exact h
    · exact absurd ⟨c1, c2, c3, h⟩ HN.out
  have b1 := c2.1
  have b2 := c2.2
  have b3 := c3.1
  have b4 := c3.2
  have hq : (16 : Int) < (n + s - 1) / s := by
    have h := Int.lt_ediv_iff_mul_lt (a := 16) (b := s) (c := n + s - 1)
    have := (Int.le_ediv_iff_mul_le (c := s) (a := 17) (b := n + s - 1) (by omega)).2 (by omega)
    omega
  have hq1 : 0 ≤ (n + s - 1) / s := Int.ediv_nonneg (by omega) (by omega)
  have hq2 : (n + s - 1) / s ≤ 9000 := Int.le_trans (Int.ediv_le_self _ (by omega)) (by omega)
  have et : Int.tdiv (n + s - 1) s = (n + s - 1) / s := Int.tdiv_eq_ediv_of_nonneg (by omega)
  obtain ⟨Q, hQ⟩ : ∃ Q, (n + s - 1) / s = Q := ⟨_, rfl⟩
  rw [hQ] at hq hq1 hq2 et
  have hgt : 16 * s < n := hx
  have hs0 : ¬ s = 0 := by omega
  have HQ := Lib.hid hQ
  have ew : RowKit.wrap64 ((n + s - 1) / s) = Q := by rw [← IntWalk.i64_left, HQ.out]; exact wrap_in _ (by omega) (by omega)
  clear c1 c2 c3 hQ hx
  go_enter Try.func52, Try.ntmps52
  go_wp2_with (first | (go_at_call_of 74 (Value.int IntKind.i64 a); refine (H1.out _).mono ?_; rintro e w' ⟨rfl, rfl⟩) | (go_at_call_of 74 (Value.int IntKind.i64 n); refine (H2.out _).mono ?_; rintro e w' ⟨rfl, rfl⟩) | (go_at_call_of 74 (Value.int IntKind.i64 s); refine (H3.out _).mono ?_; rintro e w' ⟨rfl, rfl⟩))
  refine bodyPost_ret (v := .slice none 0 0) (by simp [results, Try.results52, go_sem]) rfl ⟨_, rfl, Row.nil _ _ _ _ _ _, by exact Below.refl _ _⟩

set_option maxHeartbeats 4000000 in
set_option maxRecDepth 100000 in
theorem spec_cut_yes (a : Int) (n s : Nat) (w : World) (h1 : 0 ≤ a ∧ a ≤ 130944) (h2 : 1 ≤ n ∧ n ≤ 4096) (h3 : 1 ≤ s ∧ s ≤ 4096) (h4 : n ≤ 16 * s) : Calls Try.prog 51 #[.int .i64 a, .int .i64 n, .int .i64 s] w (OwnPieces w (cutL a n s ((n + s - 1) / s))) := by
  have H1 := Lib.hid fun W => spec_in_yes a 0 130944 W h1
  have H2 := Lib.hid fun W => spec_in_yes (n : Int) 1 4096 W (by omega)
  have H3 := Lib.hid fun W => spec_in_yes (s : Int) 1 4096 W (by omega)
  have hc := (spec_cond (n := n) (s := s) h3.1).2 h4
  have ed : ((n : Int) + s - 1) / s = (((n + s - 1) / s : Nat) : Int) := by
    rw [Int.natCast_ediv]; congr 1; omega
  have et : Int.tdiv ((n : Int) + s - 1) s = (((n + s - 1) / s : Nat) : Int) := by rw [Int.tdiv_eq_ediv_of_nonneg (by omega)]; exact ed
  have hs0 : ¬ (s : Int) = 0 := by omega
  have hgt : ¬ (16 : Int) * (s : Int) < (n : Int) := by omega
  have hgt2 : (n : Int) ≤ 16 * (s : Int) := by omega
  obtain ⟨K, hK⟩ : ∃ K, (n + s - 1) / s = K := ⟨_, rfl⟩
  rw [hK] at hc ed et ⊢
  have HK := Lib.hid hK
  have HED := Lib.hid ed
  have hc2 : (K : Int) ≤ 16 := by omega
  obtain ⟨a1, a2⟩ := h1
  obtain ⟨n1, n2⟩ := h2
  obtain ⟨s1, s2⟩ := h3
  clear hK ed
  go_enter Try.func51, Try.ntmps51
  go_wp2_with (first | (go_at_call_of 71 (Value.int IntKind.i64 a); refine (H1.out _).mono ?_; rintro e w' ⟨rfl, rfl⟩) | (go_at_call_of 71 (Value.int IntKind.i64 (n : Int)); refine (H2.out _).mono ?_; rintro e w' ⟨rfl, rfl⟩) | (go_at_call_of 71 (Value.int IntKind.i64 (s : Int)); refine (H3.out _).mono ?_; rintro e w' ⟨rfl, rfl⟩))
  go_loopw [7, 8] (fun v i wr => ∃ j q : Nat, Hid (j * s = q) ∧ Hid (j = 0 ∨ (1 ≤ j ∧ (j - 1) * s < n)) ∧ j ≤ 16 ∧ q ≤ 8192 ∧ i = .int .i64 ((q : Int)) ∧ wr.ownsRow w.heap.size 118 2 v j (flatC PieceM.arr (cutL a n s j)) ∧ Hid (Below w.heap.size w wr)) (fun _ i _ => n + 1 - (intOf i).toNat)

  case atStart => exact ⟨0, 0, Lib.hid (by simp), Lib.hid (.inl rfl), by omega, by omega, by simp, World.ownsRow_lit w #[] 0 (Nat.le_refl _) (by unfold maxLen; omega) rfl, Lib.hid (below_new _)⟩
  case round =>
    obtain ⟨j, q, HQ, HX, hj, hq8, rfl, hown, HB⟩ := hrel
    by_cases hlt : q < n
    · have e1 : (q : Int) < (n : Int) := by omega
      have e0 : (0 : Int) ≤ (q : Int) := by omega
      have hj16 : j < 16 := by
        rcases Nat.lt_or_ge j 16 with h | h
        · exact h
        · have := Nat.mul_le_mul_right s h
          rw [HQ.out] at this; omega
      have HX2 : Hid (j + 1 = 0 ∨ (1 ≤ j + 1 ∧ (j + 1 - 1) * s < n)) := Lib.hid (.inr ⟨by omega, by rw [Nat.add_sub_cancel, HQ.out]; exact hlt⟩)
      have m1 : j + 1 ≤ maxLen := by unfold maxLen; omega
      have m2 : (j + 1) * 16 ≤ 140737488355328 := by omega
      have hz : w.heap.size ≤ wr.heap.size + 1 := by have := HB.out.size; omega
      have hs2 : (0 : Int) ≤ (s : Int) := by omega
      by_cases hmin : (n : Int) - (q : Int) < (s : Int)
      · have HN : Hid (flatC PieceM.arr (cutL a n s j) ++ [.int .i64 (a + (q : Int)), .int .i64 ((n : Int) - (q : Int))] = flatC PieceM.arr (cutL a n s (j + 1))) := Lib.hid (by
          rw [cutL_succ, ← flatC_snoc]
          unfold cutAt PieceM.arr
          rw [HQ.out, show min (s : Int) ((n : Int) - (q : Int)) = (n : Int) - (q : Int) by omega])
        have hmin2 : ¬ (s : Int) ≤ (n : Int) - (q : Int) := by omega
        go_wp2_with (refine wpList_push rfl (.tmp 39) (.tmp 49) 78 rfl w.heap.size elemPiece (by simp [go_sem, Act.eval]) (hown.alloc _) _ 1 1 [.int .i64 (a + (q : Int)), .int .i64 ((n : Int) - (q : Int))] (by simp [go_sem, Act.eval]) (heap_alloc_new _ _) (by simp) (by simp [Value.oneCell']) (by omega) m1 m2 (by simpa using hz) ?_; intro g1 cap1 w1 hown1 hgrow1; have HG := Lib.hid hgrow1; clear hgrow1)
        rw [HN.out] at hown1
        have HO := Lib.hid hown1
        clear hown1
        go_roundw
        case rel => exact ⟨j + 1, q + s, Lib.hid (by rw [Nat.succ_mul, HQ.out]), HX2, by omega, by omega, by first | go_num | (congr 1; simp only [Int.natCast_add]; omega), HO.out, Lib.hid (below_push HB.out HB.out.size hown _ HG.out)⟩
        case measure => simp [intOf]; omega
      · have HN : Hid (flatC PieceM.arr (cutL a n s j) ++ [.int .i64 (a + (q : Int)), .int .i64 ((s : Int))] = flatC PieceM.arr (cutL a n s (j + 1))) := Lib.hid (by
          rw [cutL_succ, ← flatC_snoc]
          unfold cutAt PieceM.arr
          rw [HQ.out, show min (s : Int) ((n : Int) - (q : Int)) = (s : Int) by omega])
        have hmin2 : (s : Int) ≤ (n : Int) - (q : Int) := by omega
        go_wp2_with (refine wpList_push rfl (.tmp 39) (.tmp 49) 78 rfl w.heap.size elemPiece (by simp [go_sem, Act.eval]) (hown.alloc _) _ 1 1 [.int .i64 (a + (q : Int)), .int .i64 ((s : Int))] (by simp [go_sem, Act.eval]) (heap_alloc_new _ _) (by simp) (by simp [Value.oneCell']) (by omega) m1 m2 (by simpa using hz) ?_; intro g1 cap1 w1 hown1 hgrow1; have HG := Lib.hid hgrow1; clear hgrow1)
        rw [HN.out] at hown1
        have HO := Lib.hid hown1
        clear hown1
        go_roundw
        case rel => exact ⟨j + 1, q + s, Lib.hid (by rw [Nat.succ_mul, HQ.out]), HX2, by omega, by omega, by first | go_num | (congr 1; simp only [Int.natCast_add]; omega), HO.out, Lib.hid (below_push HB.out HB.out.size hown _ HG.out)⟩
        case measure => simp [intOf]; omega
    · have hjK : j = K := by
        rw [← HK.out]
        exact (cut_count s1 (by rw [HQ.out]; omega) (by rcases HX.out with h | h; exact .inl ⟨h, by have := HQ.out; rw [h] at this; omega⟩; exact .inr h)).symm
      subst hjK
      have e1 : ¬ (q : Int) < (n : Int) := by omega
      have HR := Lib.hid (flatC_row hown (cutL_length a n s j).symm (fun x => rfl))
      obtain ⟨A, N, C, rfl⟩ := own_form hown
      clear hown
      go_wp2
      refine bodyPost_ret (v := .slice A N C) (by simp [results, Try.results51, go_sem]) rfl ⟨_, rfl, HR.out, HB.out⟩

theorem spec_cut (a n s : Int) (w : World) (bn : -9223372036854775808 ≤ n ∧ n ≤ 9223372036854775807) (bs : -9223372036854775808 ≤ s ∧ s ≤ 9223372036854775807) : Calls Try.prog 51 #[.int .i64 a, .int .i64 n, .int .i64 s] w (OwnPieces w (cutM a n s)) := by
  by_cases h : cutOk a n s
  · unfold cutM
    rw [if_pos h]
    obtain ⟨h1, h2, h3, h4⟩ := h
    obtain ⟨N, rfl⟩ : ∃ N : Nat, n = N := ⟨n.toNat, by omega⟩
    obtain ⟨Z, rfl⟩ : ∃ Z : Nat, s = Z := ⟨s.toNat, by omega⟩
    exact spec_cut_yes a N Z w h1 (by omega) (by omega) (by omega)
  · unfold cutM
    rw [if_neg h]
    exact spec_cut_no a n s w h bn bs

set_option maxHeartbeats 4000000 in
set_option maxRecDepth 100000 in
theorem impl_cut_yes (a : Int) (n s : Nat) (w : World) (h1 : 0 ≤ a ∧ a ≤ 130944) (h2 : 1 ≤ n ∧ n ≤ 4096) (h3 : 1 ≤ s ∧ s ≤ 4096) (h4 : n ≤ 16 * s) : Calls Try.prog 52 #[.int .i64 a, .int .i64 n, .int .i64 s] w (OwnPieces w (cutL a n s ((n + s - 1) / s))) := by
  have H1 := Lib.hid fun W => impl_in_yes a 0 130944 W h1
  have H2 := Lib.hid fun W => impl_in_yes (n : Int) 1 4096 W (by omega)
  have H3 := Lib.hid fun W => impl_in_yes (s : Int) 1 4096 W (by omega)
  have hc := (spec_cond (n := n) (s := s) h3.1).2 h4
  have ed : ((n : Int) + s - 1) / s = (((n + s - 1) / s : Nat) : Int) := by
    rw [Int.natCast_ediv]; congr 1; omega
  have et : Int.tdiv ((n : Int) + s - 1) s = (((n + s - 1) / s : Nat) : Int) := by rw [Int.tdiv_eq_ediv_of_nonneg (by omega)]; exact ed
  have hs0 : ¬ (s : Int) = 0 := by omega
  have hgt : ¬ (16 : Int) * (s : Int) < (n : Int) := by omega
  have hgt2 : (n : Int) ≤ 16 * (s : Int) := by omega
  obtain ⟨K, hK⟩ : ∃ K, (n + s - 1) / s = K := ⟨_, rfl⟩
  rw [hK] at hc ed et ⊢
  have HK := Lib.hid hK
  have HED := Lib.hid ed
  have hc2 : (K : Int) ≤ 16 := by omega
  obtain ⟨a1, a2⟩ := h1
  obtain ⟨n1, n2⟩ := h2
  obtain ⟨s1, s2⟩ := h3
  clear hK ed
  go_enter Try.func52, Try.ntmps52
  go_wp2_with (first | (go_at_call_of 74 (Value.int IntKind.i64 a); refine (H1.out _).mono ?_; rintro e w' ⟨rfl, rfl⟩) | (go_at_call_of 74 (Value.int IntKind.i64 (n : Int)); refine (H2.out _).mono ?_; rintro e w' ⟨rfl, rfl⟩) | (go_at_call_of 74 (Value.int IntKind.i64 (s : Int)); refine (H3.out _).mono ?_; rintro e w' ⟨rfl, rfl⟩))
  go_loopw [0, 7] (fun i v wr => ∃ j q : Nat, Hid (j * s = q) ∧ Hid (j = 0 ∨ (1 ≤ j ∧ (j - 1) * s < n)) ∧ j ≤ 16 ∧ q ≤ 8192 ∧ i = .int .i64 (a + (q : Int)) ∧ wr.ownsRow w.heap.size 118 2 v j (flatC PieceM.arr (cutL a n s j)) ∧ Hid (Below w.heap.size w wr)) (fun i _ _ => (a + (n : Int) + 1 - intOf i).toNat)

  case atStart => exact ⟨0, 0, Lib.hid (by simp), Lib.hid (.inl rfl), by omega, by omega, by simp, World.ownsRow_nil _ _ _ _, Lib.hid (Below.refl _ _)⟩
  case round =>
    obtain ⟨j, q, HQ, HX, hj, hq8, rfl, hown, HB⟩ := hrel
    by_cases hlt : q < n
    · have e1 : a + (q : Int) < a + (n : Int) := by omega
      have e0 : (0 : Int) ≤ (q : Int) := by omega
      have hj16 : j < 16 := by
        rcases Nat.lt_or_ge j 16 with h | h
        · exact h
        · have := Nat.mul_le_mul_right s h
          rw [HQ.out] at this; omega
      have HX2 : Hid (j + 1 = 0 ∨ (1 ≤ j + 1 ∧ (j + 1 - 1) * s < n)) := Lib.hid (.inr ⟨by omega, by rw [Nat.add_sub_cancel, HQ.out]; exact hlt⟩)
      have m1 : j + 1 ≤ maxLen := by unfold maxLen; omega
      have m2 : (j + 1) * 16 ≤ 140737488355328 := by omega
      have hz : w.heap.size ≤ wr.heap.size + 1 := by have := HB.out.size; omega
      have hs2 : (0 : Int) ≤ (s : Int) := by omega
      by_cases hmin : a + (n : Int) - (a + (q : Int)) < (s : Int)
      · have HN : Hid (flatC PieceM.arr (cutL a n s j) ++ [.int .i64 (a + (q : Int)), .int .i64 (a + (n : Int) - (a + (q : Int)))] = flatC PieceM.arr (cutL a n s (j + 1))) := Lib.hid (by
          rw [cutL_succ, ← flatC_snoc]
          unfold cutAt PieceM.arr
          rw [HQ.out, show min (s : Int) ((n : Int) - (q : Int)) = a + (n : Int) - (a + (q : Int)) by omega])
        have hmin2 : ¬ (s : Int) ≤ a + (n : Int) - (a + (q : Int)) := by omega
        go_wp2_with (refine wpList_push rfl (.tmp 37) (.tmp 45) 78 rfl w.heap.size elemPiece (by simp [go_sem, Act.eval]) (hown.alloc _) _ 1 1 [.int .i64 (a + (q : Int)), .int .i64 (a + (n : Int) - (a + (q : Int)))] (by simp [go_sem, Act.eval]) (heap_alloc_new _ _) (by simp) (by simp [Value.oneCell']) (by omega) m1 m2 (by simpa using hz) ?_; intro g1 cap1 w1 hown1 hgrow1; have HG := Lib.hid hgrow1; clear hgrow1)
        rw [HN.out] at hown1
        have HO := Lib.hid hown1
        clear hown1
        go_roundw
        case rel => exact ⟨j + 1, q + s, Lib.hid (by rw [Nat.succ_mul, HQ.out]), HX2, by omega, by omega, by first | go_num | (congr 1; simp only [Int.natCast_add]; omega), HO.out, Lib.hid (below_push HB.out HB.out.size hown _ HG.out)⟩
        case measure => simp [intOf]; omega
      · have HN : Hid (flatC PieceM.arr (cutL a n s j) ++ [.int .i64 (a + (q : Int)), .int .i64 ((s : Int))] = flatC PieceM.arr (cutL a n s (j + 1))) := Lib.hid (by
          rw [cutL_succ, ← flatC_snoc]
          unfold cutAt PieceM.arr
          rw [HQ.out, show min (s : Int) ((n : Int) - (q : Int)) = (s : Int) by omega])
        have hmin2 : (s : Int) ≤ a + (n : Int) - (a + (q : Int)) := by omega
        go_wp2_with (refine wpList_push rfl (.tmp 37) (.tmp 45) 78 rfl w.heap.size elemPiece (by simp [go_sem, Act.eval]) (hown.alloc _) _ 1 1 [.int .i64 (a + (q : Int)), .int .i64 ((s : Int))] (by simp [go_sem, Act.eval]) (heap_alloc_new _ _) (by simp) (by simp [Value.oneCell']) (by omega) m1 m2 (by simpa using hz) ?_; intro g1 cap1 w1 hown1 hgrow1; have HG := Lib.hid hgrow1; clear hgrow1)
        rw [HN.out] at hown1
        have HO := Lib.hid hown1
        clear hown1
        go_roundw
        case rel => exact ⟨j + 1, q + s, Lib.hid (by rw [Nat.succ_mul, HQ.out]), HX2, by omega, by omega, by first | go_num | (congr 1; simp only [Int.natCast_add]; omega), HO.out, Lib.hid (below_push HB.out HB.out.size hown _ HG.out)⟩
        case measure => simp [intOf]; omega
    · have hjK : j = K := by
        rw [← HK.out]
        exact (cut_count s1 (by rw [HQ.out]; omega) (by rcases HX.out with h | h; exact .inl ⟨h, by have := HQ.out; rw [h] at this; omega⟩; exact .inr h)).symm
      subst hjK
      have e1 : ¬ a + (q : Int) < a + (n : Int) := by omega
      have HR := Lib.hid (flatC_row hown (cutL_length a n s j).symm (fun x => rfl))
      obtain ⟨A, N, C, rfl⟩ := own_form hown
      clear hown
      go_wp2
      refine bodyPost_ret (v := .slice A N C) (by simp [results, Try.results52, go_sem]) rfl ⟨_, rfl, HR.out, HB.out⟩

theorem impl_cut (a n s : Int) (w : World) (bn : -9223372036854775808 ≤ n ∧ n ≤ 9223372036854775807) (bs : -9223372036854775808 ≤ s ∧ s ≤ 9223372036854775807) : Calls Try.prog 52 #[.int .i64 a, .int .i64 n, .int .i64 s] w (OwnPieces w (cutM a n s)) := by
  by_cases h : cutOk a n s
  · unfold cutM
    rw [if_pos h]
    obtain ⟨h1, h2, h3, h4⟩ := h
    obtain ⟨N, rfl⟩ : ∃ N : Nat, n = N := ⟨n.toNat, by omega⟩
    obtain ⟨Z, rfl⟩ : ∃ Z : Nat, s = Z := ⟨s.toNat, by omega⟩
    exact impl_cut_yes a N Z w h1 (by omega) (by omega) (by omega)
  · unfold cutM
    rw [if_neg h]
    exact impl_cut_no a n s w h bn bs

end Go.Proofs.Ythjajgpejfoghab
