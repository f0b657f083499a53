/- EvenTable of both sides. -/
import Derived.Test.YtncpnoloamebnabIntRow
import Derived.Test.YtncpnoloamebnabInYN
import Derived.Test.YtncpnoloamebnabFlatOk
import Derived.Laws.Tables
import Derived.Laws.CopyOwn
import Derived.Laws.Rows
namespace Go.Proofs.Ytncpnoloamebnab
open Go.RowKit
set_option linter.unusedSimpArgs false
set_option linter.unusedVariables false
def Pow1to16 (n : Int) : Prop := n = 1 ∨ n = 2 ∨ n = 4 ∨ n = 8 ∨ n = 16
instance (n : Int) : Decidable (Pow1to16 n) := by unfold Pow1to16; infer_instance
def EvOk (size q : Int) : Prop := Pow1to16 size ∧ 1 ≤ q ∧ q ≤ 4
instance (size q : Int) : Decidable (EvOk size q) := by unfold EvOk; infer_instance
def evN (size q : Int) : Nat := if EvOk size q then size.toNat else 0
theorem Try.infoI : (Try.prog.info? 3).map (fun i => (i.zero, i.size, i.bytes)) = some (some (.int .i64 0), 1, 8) := by kernel_rfl
theorem elemI : Elem Try.prog 45 3 (.int .i64 0) 1 8 := ⟨Try.underlying45, info_parts Try.infoI, by decide, by decide⟩
def evL (q : Int) (k : Nat) : List Value := (List.range k).map fun j : Nat => .int .i64 ((j : Int) % q)
theorem evL_next (q : Int) (k : Nat) : evL q k ++ [.int .i64 ((k : Int) % q)] = evL q (k + 1) := by
  unfold evL; rw [List.range_succ, List.map_append]; rfl
theorem evL_at (q : Int) (k j : Nat) (h : j < k) : (evL q k)[j]? = some (.int .i64 ((j : Int) % q)) := by
  unfold evL; simp [h]
theorem row_of_own {W : World} {B n : Nat} {v : Value} {xs : List Value} {f : Nat → Int} (h : W.ownsRow B 3 1 v n xs) (hx : ∀ j, j < n → xs[j]? = some (.int .i64 (f j))) : IntRow W B v n f := by
  obtain ⟨hl, ⟨rfl, rfl⟩ | ⟨g, cap, cur, rfl, hb, hg, hc, hm, hs, ht⟩⟩ := h
  · exact .inl ⟨rfl, _, _, rfl⟩
  · rcases Nat.eq_zero_or_pos n with rfl | h0
    · exact .inl ⟨rfl, _, _, rfl⟩
    · refine .inr ⟨h0, g, cap, cur, rfl, hb, (Array.getElem?_eq_some_iff.1 hg).1, hg, by omega, fun j hj => ?_⟩
      have h2 := hx j hj
      rw [← ht, List.getElem?_take_of_lt (by omega)] at h2
      simpa using h2
theorem spec_size1 (n : Int) (w : World) :
    Calls Try.prog 75 #[.int .i64 n] w fun r w' => r = .returned (.bool (decide (Pow1to16 n))) ∧ w = w' := by
  by_cases h : Pow1to16 n
  · rw [decide_eq_true h]
    rcases h with rfl | rfl | rfl | rfl | rfl
    all_goals
      go_enter Try.func75, Try.ntmps75
      go_wp2
      go_ret
      exact ⟨rfl, rfl⟩
  · rw [decide_eq_false h]
    unfold Pow1to16 at h
    have h0 : ¬ n = 1 := by omega
    have h1 : ¬ n = 2 := by omega
    have h2 : ¬ n = 4 := by omega
    have h3 : ¬ n = 8 := by omega
    have h4 : ¬ n = 16 := by omega
    clear h
    go_enter Try.func75, Try.ntmps75
    go_wp2
    go_ret
    exact ⟨ret_bool (by simp [h0, h1, h2, h3, h4]), rfl⟩
theorem spec_even_no (size q : Int) (w : World) (h : ¬ EvOk size q) :
    Calls Try.prog 33 #[.int .i64 size, .int .i64 q] w fun e w' => ∃ v, e = .returned v ∧ IntRow w' w.heap.size v (evN size q) (fun j => (j : Int) % q) ∧ Below w.heap.size w w' := by
  rw [show evN size q = 0 from if_neg h]
  have HZ := Lib.hid fun W => spec_size1 size W
  obtain ⟨P, HP⟩ : ∃ P, Hid (P = decide (Pow1to16 size)) := ⟨_, Lib.hid rfl⟩
  obtain ⟨Q, HQ⟩ : ∃ Q, Hid (Q = decide (1 ≤ q ∧ q ≤ 4)) := ⟨_, Lib.hid rfl⟩
  have HI := Lib.hid fun W => spec_in q 1 4 W
  rw [← HP.out] at HZ
  rw [← HQ.out] at HI
  have HN : Hid (P = true → Q = true → False) := Lib.hid fun h1 h2 => h ⟨of_decide_eq_true (HP.out ▸ h1), of_decide_eq_true (HQ.out ▸ h2)⟩
  clear h
  go_enter Try.func33, Try.ntmps33
  go_wp2
  go_loop [5, 6] (fun v i => v = .slice (some ⟨w.heap.size, 0, none⟩) 0 0 ∧ i = .int .i64 0) (fun _ _ => 0)
  case atStart => exact ⟨rfl, rfl⟩
  case round =>
    obtain ⟨rfl, rfl⟩ := hrel
    cases P
    case' true =>
      cases Q
      case' true => exact (HN.out rfl rfl).elim
    all_goals
      go_wp2_with (first
        | (go_at_call 75; refine (HZ.out _).mono ?_; rintro e w' ⟨rfl, rfl⟩)
        | (go_at_call 62; refine (HI.out _).mono ?_; rintro e w' ⟨rfl, rfl⟩))
      all_goals
        refine bodyPost_ret (v := .slice (some ⟨w.heap.size, 0, none⟩) 0 0) (by simp [results, Try.results33, go_sem]) rfl ⟨_, rfl, .inl ⟨rfl, _, _, rfl⟩, below_new _⟩
set_option maxHeartbeats 2000000 in
set_option maxRecDepth 100000 in
theorem spec_even (size q : Int) (w : World) :
    Calls Try.prog 33 #[.int .i64 size, .int .i64 q] w fun e w' => ∃ v, e = .returned v ∧ IntRow w' w.heap.size v (evN size q) (fun j => (j : Int) % q) ∧ Below w.heap.size w w' := by
  by_cases h : EvOk size q
  case neg => exact spec_even_no size q w h
  rw [show evN size q = size.toNat from if_pos h]
  have HZ := Lib.hid fun W => spec_size1 size W
  rw [decide_eq_true h.1] at HZ
  have HI := Lib.hid fun W => spec_in_yes q 1 4 W h.2
  have hq := h.2
  obtain ⟨n, rfl⟩ : ∃ n : Nat, size = n := ⟨size.toNat, by rcases h.1 with h | h | h | h | h <;> omega⟩
  have hn : n ≤ 16 := by rcases h.1 with h | h | h | h | h <;> omega
  clear h
  rw [Int.toNat_natCast]
  obtain ⟨i0, hi, hz0, hz1, hz2⟩ := info_parts Try.infoI
  go_enter Try.func33, Try.ntmps33
  go_wp2
  go_loopw [5, 6] (fun v i wr => ∃ k : Nat, k ≤ n ∧ i = .int .i64 k ∧ wr.ownsRow w.heap.size 3 1 v k (evL q k) ∧ Below w.heap.size w wr) (fun _ i _ => n + 1 - (intOf i).toNat)
  case atStart => exact ⟨0, Nat.zero_le _, rfl, World.ownsRow_lit w #[] 0 (Nat.le_refl _) (by unfold maxLen; omega) rfl, (Below.refl _ _).alloc (Nat.le_refl _) _⟩
  case round =>
    obtain ⟨k, hk, rfl, hown, hbl⟩ := hrel
    by_cases hlt : k < n
    · have e1 : (k : Int) < (n : Int) := by omega
      have HX := Lib.hid (evL_next q k)
      have et : Int.tmod (k : Int) q = (k : Int) % q := Int.tmod_eq_emod_of_nonneg (by omega)
      have hq0 : ¬ q = 0 := by omega
      have hmb : 0 ≤ (k : Int) % q ∧ (k : Int) % q < 4 := ⟨Int.emod_nonneg _ hq0, by have := Int.emod_lt_of_pos (k : Int) (show 0 < q by omega); omega⟩
      have hz : w.heap.size ≤ wr.heap.size + 1 := by have := hbl.size; omega
      have m1 : k + 1 ≤ maxLen := by unfold maxLen; omega
      have m2 : (k + 1) * 8 ≤ 140737488355328 := by omega
      go_wp2_with (first
        | (go_at_call 75; refine (HZ.out _).mono ?_; rintro e w' ⟨rfl, rfl⟩)
        | (go_at_call 62; refine (HI.out _).mono ?_; rintro e w' ⟨rfl, rfl⟩)
        | (refine wpList_push rfl (.tmp 21) (.tmp 25) 45 rfl w.heap.size elemI (by simp [go_sem, Act.eval]) (hown.alloc _) _ 1 1 [.int .i64 ((k : Int) % q)] (by simp [go_sem, Act.eval]) (heap_alloc_new _ _) (by simp) (by simp [Value.oneCell']) (by omega) m1 m2 (by simpa using hz) ?_; intro g1 cap1 w1 hown1 hgrow1))
      rw [HX.out] at hown1
      go_roundw
      case rel => exact ⟨k + 1, by omega, by go_num, hown1, below_push hbl hbl.size hown _ hgrow1⟩
      case measure => simp [intOf]; omega
    · obtain rfl : k = n := by omega
      have HR := Lib.hid (row_of_own hown (fun j hj => evL_at q k j hj))
      have e1 : ¬ (k : Int) < (k : Int) := by omega
      go_wp2
      refine bodyPost_ret (v := u5) (by simp [results, Try.results33, go_sem]) rfl ⟨_, rfl, HR.out, hbl⟩
theorem pow1_bits (n : Int) (h : 1 ≤ n ∧ n ≤ 16) : ∃ z : Int, bits .and .i64 n (n - 1) = z ∧ IntKind.i64.wrap (n - 1) = n - 1 ∧ (z = 0 ↔ Pow1to16 n) := by
  obtain ⟨m, rfl⟩ : ∃ m : Nat, n = m := ⟨n.toNat, by omega⟩
  obtain ⟨h1, h2⟩ : 1 ≤ m ∧ m ≤ 16 := by omega
  refine ⟨_, rfl, wrap_in _ (by omega) (by omega), ?_⟩
  rcases (show m = 1 ∨ m = 2 ∨ m = 3 ∨ m = 4 ∨ m = 5 ∨ m = 6 ∨ m = 7 ∨ m = 8 ∨ m = 9 ∨ m = 10 ∨ m = 11 ∨ m = 12 ∨ m = 13 ∨ m = 14 ∨ m = 15 ∨ m = 16 by omega) with rfl | rfl | rfl | rfl | rfl | rfl | rfl | rfl | rfl | rfl | rfl | rfl | rfl | rfl | rfl | rfl <;> decide
set_option maxHeartbeats 2000000 in
set_option maxRecDepth 100000 in
theorem impl_pow1 (n : Int) (w : World) :
    Calls Try.prog 66 #[.int .i64 n, .int .i64 1, .int .i64 16] w fun r w' => r = .returned (.bool (decide (Pow1to16 n))) ∧ w = w' := by
  by_cases h : 1 ≤ n ∧ n ≤ 16
  · obtain ⟨z, e1, e2, hz⟩ := pow1_bits n h
    have HZ := Lib.hid hz
    clear hz
    go_enter Try.func66, Try.ntmps66
    go_wp2_with (go_at_call 70; refine (impl_in_yes _ _ _ _ h).mono ?_; rintro e w' ⟨rfl, rfl⟩)
    go_ret
    refine ⟨ret_bool ?_, rfl⟩
    rw [Bool.eq_iff_iff, decide_eq_true_iff]
    simpa using HZ.out
  · rw [decide_eq_false (show ¬ Pow1to16 n by unfold Pow1to16; omega)]
    go_enter Try.func66, Try.ntmps66
    go_wp2_with (go_at_call 70; refine (impl_in_no _ _ _ _ h).mono ?_; rintro e w' ⟨rfl, rfl⟩)
    go_ret
    exact ⟨rfl, rfl⟩
set_option maxHeartbeats 2000000 in
set_option maxRecDepth 100000 in
theorem impl_even (size q : Int) (w : World) :
    Calls Try.prog 34 #[.int .i64 size, .int .i64 q] w fun e w' => ∃ v, e = .returned v ∧ IntRow w' w.heap.size v (evN size q) (fun j => (j : Int) % q) ∧ Below w.heap.size w w' := by
  by_cases hp : Pow1to16 size
  case neg =>
    rw [show evN size q = 0 from if_neg (fun h => hp h.1)]
    have HZ := Lib.hid fun W => impl_pow1 size W
    rw [decide_eq_false hp] at HZ
    go_enter Try.func34, Try.ntmps34
    go_wp2_with (go_at_call 66; refine (HZ.out _).mono ?_; rintro e w' ⟨rfl, rfl⟩)
    exact bodyPost_ret (v := .slice none 0 0) (by simp [results, Try.results34, go_sem]) rfl ⟨_, rfl, .inl ⟨rfl, _, _, rfl⟩, Below.refl _ _⟩
  have HZ := Lib.hid fun W => impl_pow1 size W
  rw [decide_eq_true hp] at HZ
  by_cases hq : 1 ≤ q ∧ q ≤ 4
  case neg =>
    rw [show evN size q = 0 from if_neg (fun h => hq h.2)]
    have HI := Lib.hid fun W => impl_in_no q 1 4 W hq
    go_enter Try.func34, Try.ntmps34
    go_wp2_with (first
      | (go_at_call 66; refine (HZ.out _).mono ?_; rintro e w' ⟨rfl, rfl⟩)
      | (go_at_call 70; refine (HI.out _).mono ?_; rintro e w' ⟨rfl, rfl⟩))
    exact bodyPost_ret (v := .slice none 0 0) (by simp [results, Try.results34, go_sem]) rfl ⟨_, rfl, .inl ⟨rfl, _, _, rfl⟩, Below.refl _ _⟩
  have HI := Lib.hid fun W => impl_in_yes q 1 4 W hq
  rw [show evN size q = size.toNat from if_pos ⟨hp, hq⟩]
  obtain ⟨n, rfl⟩ : ∃ n : Nat, size = n := ⟨size.toNat, by rcases hp with h | h | h | h | h <;> omega⟩
  have hn : n ≤ 16 := by rcases hp with h | h | h | h | h <;> omega
  clear hp
  rw [Int.toNat_natCast]
  obtain ⟨i0, hi, hz0, hz1, hz2⟩ := info_parts Try.infoI
  go_enter Try.func34, Try.ntmps34
  go_wp2_with (first
    | (go_at_call 66; refine (HZ.out _).mono ?_; rintro e w' ⟨rfl, rfl⟩)
    | (go_at_call 70; refine (HI.out _).mono ?_; rintro e w' ⟨rfl, rfl⟩)
    | (at_make; refine wpList_make_full _ rfl _ _ 45 rfl w.heap.size 3 i0 (.int .i64 0) 1 Try.underlying45 hi hz0 hz1 .i64 .i64 _ _ n rfl rfl rfl rfl (by rw [hz2]; omega) (by unfold maxLen; omega) (Nat.le_refl _) ?_; intro w0 hown0 hgrow0))
  have hb0 : Below w.heap.size w w0 := (Below.refl _ _).grown hgrow0 (Nat.le_refl _) (by intro k hk; cases hk)
  obtain ⟨cur0, hg0, hs0⟩ : ∃ cur, w0.heap[w.heap.size]? = some (.cells cur 3 (0, 0)) ∧ cur.size = n := by
    obtain ⟨_, ⟨h, _⟩ | ⟨g, cap, cur, hv, hb, hg, hc, hm, hs, ht⟩⟩ := hown0
    · cases h
    · cases hv
      exact ⟨cur, hg, by omega⟩
  have Hg0 := Lib.hid hg0
  clear hown0 hgrow0 hg0
  go_loopw [19] (fun i wr => ∃ k : Nat, k ≤ n ∧ i = .int .i64 k ∧ Hid (∃ cs : Array Value, wr.heap[w.heap.size]? = some (.cells cs 3 (0, 0)) ∧ cs.size = n ∧ ∀ j : Nat, j < k → cs[j]? = some (.int .i64 ((j : Int) % q))) ∧ Hid (Below w.heap.size w wr)) (fun i _ => n + 1 - (intOf i).toNat)
  case atStart => exact ⟨0, by omega, rfl, Lib.hid ⟨cur0, Hg0.out, hs0, fun j hj => by omega⟩, Lib.hid hb0⟩
  case round =>
    clear Hg0 hb0
    obtain ⟨k, hk, rfl, HM, HB⟩ := hrel
    by_cases hlt : k < n
    · obtain ⟨cur, hc1, hc2, hc3⟩ := HM.out
      obtain ⟨u, d1⟩ : ∃ u, wr.cell? ⟨w.heap.size, k, none⟩ = some u := ⟨cur[k]'(by omega), by rw [cell_of_row wr w.heap.size k cur _ (0, 0) hc1]; exact Array.getElem?_eq_getElem (by omega)⟩
      have d2 : wr.frozen? ⟨w.heap.size, k, none⟩ = false := frozen_of_row wr w.heap.size k cur _ hc1
      have e1 : (k : Int) < (n : Int) := by omega
      have e0 : (0 : Int) ≤ (k : Int) := by omega
      have et : Int.tmod (k : Int) q = (k : Int) % q := Int.tmod_eq_emod_of_nonneg (by omega)
      have hq0 : ¬ q = 0 := by omega
      have hmb : 0 ≤ (k : Int) % q ∧ (k : Int) % q < 4 := ⟨Int.emod_nonneg _ hq0, by have := Int.emod_lt_of_pos (k : Int) (show 0 < q by omega); omega⟩
      have es := setCell_eq_setRow wr w.heap.size k cur 3 (0, 0) (.int .i64 ((k : Int) % q)) hc1
      have HM2 : Hid (∃ cs : Array Value, (wr.setCell ⟨w.heap.size, k, none⟩ (.int .i64 ((k : Int) % q))).heap[w.heap.size]? = some (.cells cs 3 (0, 0)) ∧ cs.size = n ∧ ∀ j : Nat, j < k + 1 → cs[j]? = some (.int .i64 ((j : Int) % q))) := Lib.hid (by
        rw [es]
        refine ⟨_, setRow_heap wr w.heap.size cur _ _ (0, 0) hc1, by simpa using hc2, fun j hj => ?_⟩
        by_cases e : j = k
        · subst e; simp [Array.getElem?_setIfInBounds, show j < cur.size by omega]
        · rw [Array.getElem?_setIfInBounds_ne (Ne.symm e)]; exact hc3 j (by omega))
      have HB2 : Hid (Below w.heap.size w (wr.setCell ⟨w.heap.size, k, none⟩ (.int .i64 ((k : Int) % q)))) := Lib.hid (by rw [es]; exact below_setRow HB.out (Nat.le_refl _) _)
      clear es hc1 hc2 hc3
      go_wp2
      go_roundw
      case rel => exact ⟨k + 1, by omega, by go_num, HM2, HB2⟩
      case measure => simp [intOf]; omega
    · obtain rfl : k = n := by omega
      have e1 : ¬ (k : Int) < (k : Int) := by omega
      have HR : Hid (IntRow wr w.heap.size (.slice (some ⟨w.heap.size, 0, none⟩) k k) k (fun j => (j : Int) % q)) := Lib.hid (by
        obtain ⟨cs, r1, r2, r3⟩ := HM.out
        rcases Nat.eq_zero_or_pos k with h0 | h0
        · exact .inl ⟨h0, _, _, by rw [h0]⟩
        · exact .inr ⟨h0, _, _, cs, rfl, Nat.le_refl _, (Array.getElem?_eq_some_iff.1 r1).1, r1, by omega, r3⟩)
      go_wp2
      exact bodyPost_ret (v := .slice (some ⟨w.heap.size, 0, none⟩) k k) (by simp [results, Try.results34, go_sem]) rfl ⟨_, rfl, HR.out, HB.out⟩
end Go.Proofs.Ytncpnoloamebnab
