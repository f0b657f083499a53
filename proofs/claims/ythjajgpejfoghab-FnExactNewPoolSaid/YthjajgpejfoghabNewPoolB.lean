/- NewPool of both sides. -/
import Derived.Test.YthjajgpejfoghabRepPool
import Derived.Test.YthjajgpejfoghabPoolB
import Derived.Test.YthjajgpejfoghabOwnInts
namespace Go.Proofs.Ythjajgpejfoghab
open Go.RowKit
set_option linter.unusedSimpArgs false
set_option linter.unusedVariables false

def poolOk0 (b s c : Int) : Prop := (0 ≤ b ∧ b ≤ 130944) ∧ (1 ≤ s ∧ s ≤ 512) ∧ (0 ≤ c ∧ c ≤ 16)
instance (b s c : Int) : Decidable (poolOk0 b s c) := by unfold poolOk0; infer_instance
def upTo (n : Nat) : List Int := (List.range n).map Int.ofNat
def newPoolM (b s c : Int) : PoolM := if poolOk0 b s c then ⟨b, s, c, upTo c.toNat⟩ else ⟨0, 0, 0, []⟩
theorem newPoolM_len (b s c : Int) : (newPoolM b s c).xFree.length ≤ 65536 := by
  unfold newPoolM
  split
  · rename_i h
    have h2 := h.2.2
    simp only [upTo, List.length_map, List.length_range]
    omega
  · exact Nat.zero_le _
theorem upTo_succ (k : Nat) : upTo (k + 1) = upTo k ++ [(k : Int)] := by simp [upTo, List.range_succ]
theorem upTo_length (k : Nat) : (upTo k).length = k := by simp [upTo]
def upCells (k : Nat) : List Value := (upTo k).map (Value.int .i64)
theorem upCells_next (k : Nat) : upCells k ++ [.int .i64 k] = upCells (k + 1) := by simp [upCells, upTo_succ]
theorem upCells_flat (k : Nat) : ((upTo k).map intrA).flatMap (·.toList) = upCells k := by
  unfold upCells
  generalize upTo k = l
  induction l with
  | nil => rfl
  | cons x r ih => simp only [List.map_cons, List.flatMap_cons, ih]; rfl
theorem up_row {W : World} {B k : Nat} {v : Value} (h : W.ownsRow B 3 1 v k (upCells k)) : Row W (Rng B W.heap.size) 3 1 v ((upTo k).map intrA) := by
  rw [← upCells_flat] at h
  exact Row.of_own h (by rw [List.length_map, upTo_length]) (fun x hx => by
    obtain ⟨y, _, rfl⟩ := List.mem_map.1 hx
    rfl)
theorem poolB_nil (b s c : Int) (f : Nat → Int) : poolB b s c 0 f = decide (poolOk0 b s c) := by
  unfold poolB poolOk0
  rw [show allB f 0 0 (c - 1) = true from decide_eq_true fun j hj => by omega, show nodupB f 0 = true from decide_eq_true fun j hj => by omega, Bool.and_true, Bool.and_true, Bool.eq_iff_iff]
  simp only [Bool.and_eq_true, decide_eq_true_eq, and_assoc]
def upAt (j : Nat) : Int := j
theorem poolB_up (b s c : Int) (n : Nat) (hc : (n : Int) = c) : poolB b s c n upAt = decide (poolOk0 b s c) := by
  unfold poolB poolOk0
  rw [show allB upAt n 0 (c - 1) = true from decide_eq_true fun j hj => by unfold upAt; omega, show nodupB upAt n = true from decide_eq_true fun j hj i hi => by unfold upAt; omega, Bool.and_true, Bool.and_true, Bool.eq_iff_iff]
  simp only [Bool.and_eq_true, decide_eq_true_eq, and_assoc]
theorem owns_set {W : World} {B size n b j : Nat} {T : TypeId} {v u : Value} {xs : List Value} (h : W.ownsRow B T size v n xs) (hb : b < B) : (W.setCell ⟨b, j, none⟩ u).ownsRow B T size v n xs := by
  obtain ⟨hl, h | ⟨g, cap, cur, hv, hbg, hg, r⟩⟩ := h
  · exact ⟨hl, .inl h⟩
  · exact ⟨hl, .inr ⟨g, cap, cur, hv, hbg, (heap_setCell_other W ⟨b, j, none⟩ g u (by have : b < g := Nat.lt_of_lt_of_le hb hbg; show g ≠ b; omega)).trans hg, r⟩⟩
theorem Box.grown {W W' : World} {g : Nat} {vs : Array Value} {t : TypeId} {row : Option Nat} (h : Box W g vs t) (hg : W.grownBy W' row) (hn : some g ≠ row) : Box W' g vs t := (hg.block g h.lt hn).trans h
theorem own_ne {W : World} {B size n b : Nat} {T : TypeId} {v : Value} {xs : List Value} (h : W.ownsRow B T size v n xs) (hb : b < B) : some b ≠ v.ownBlock := fun e => by have := (h.lt b e.symm).1; omega
theorem base_le {W : World} {B B' size n : Nat} {T : TypeId} {v : Value} {xs : List Value} (h : W.ownsRow B T size v n xs) (hb : B' ≤ B) : W.ownsRow B' T size v n xs := by
  obtain ⟨hl, h | ⟨g, cap, cur, hv, hbg, r⟩⟩ := h
  · exact ⟨hl, .inl h⟩
  · exact ⟨hl, .inr ⟨g, cap, cur, hv, Nat.le_trans hb hbg, r⟩⟩
theorem own_form {W : World} {B size n : Nat} {T : TypeId} {v : Value} {xs : List Value} (h : W.ownsRow B T size v n xs) : ∃ a n c, v = .slice a n c := by
  obtain ⟨_, ⟨rfl, _⟩ | ⟨g, cap, cur, rfl, _⟩⟩ := h <;> exact ⟨_, _, _, rfl⟩
def OwnPool (w : World) (p : PoolM) (b : Bool) (e : Ending) (w' : World) : Prop := ∃ v, e = .returned (.tuple #[v, .bool b]) ∧ p.Rep w' (Rng w.heap.size w'.heap.size) v ∧ Below w.heap.size w w'

set_option maxHeartbeats 4000000 in
set_option maxRecDepth 100000 in
theorem impl_newpool (b s c : Int) (w : World) : Calls Try.prog 48 #[.int .i64 b, .int .i64 s, .int .i64 c] w (OwnPool w (newPoolM b s c) (decide (poolOk0 b s c))) := by
  have HP := Lib.hid fun W => impl_poolok b s c (.slice none 0 0) 0 0 (fun _ => 0) W (by omega) (.inl ⟨rfl, none, 0, rfl⟩)
  rw [poolB_nil] at HP
  by_cases h : poolOk0 b s c
  case neg =>
    unfold newPoolM
    rw [if_neg h, decide_eq_false h]
    rw [decide_eq_false h] at HP
    clear h
    go_enter Try.func48, Try.ntmps48
    go_wp2_with (go_at_call 29; refine (HP.out _).mono ?_; rintro e w1 ⟨rfl, hb1⟩; have hz1 := hb1.size; (try simp at hz1); (have hl0 : w.heap.size < w1.heap.size := by omega); (have hl1 : w.heap.size + 1 < w1.heap.size := by omega); (apply with_box hb1 (g := w.heap.size)); (focus (repeat (first | (with_reducible exact HP0.out) | (with_reducible exact HP1.out) | (with_reducible exact HP2.out) | (with_reducible exact HP3.out) | (with_reducible exact HQ0.out) | (with_reducible exact HQ1.out) | (with_reducible exact HQ2.out) | (with_reducible exact HQ3.out) | (with_reducible apply Box.new) | (with_reducible apply Box.newAt; simp; done) | (with_reducible apply Box.set) | (with_reducible apply Box.skip; omega) | (with_reducible apply Box.alloc) | (with_reducible apply Box.drew) | (with_reducible apply Box.row) | (with_reducible apply Box.skipRow; omega)))); intro hx0; (try simp only [List.setIfInBounds_toArray, List.set_cons_zero, List.set_cons_succ] at hx0); have k0_0 := hx0.cell 0 (by simp); have k0_1 := hx0.cell 1 (by simp); have k0_2 := hx0.cell 2 (by simp); have k0_3 := hx0.cell 3 (by simp); have fr0 := fun o => hx0.frozen o; (try simp only [List.getElem_toArray, List.getElem_cons_zero, List.getElem_cons_succ] at k0_0); (try simp only [List.getElem_toArray, List.getElem_cons_zero, List.getElem_cons_succ] at k0_1); (try simp only [List.getElem_toArray, List.getElem_cons_zero, List.getElem_cons_succ] at k0_2); (try simp only [List.getElem_toArray, List.getElem_cons_zero, List.getElem_cons_succ] at k0_3); (apply with_box hb1 (g := w.heap.size + 1)); (focus (repeat (first | (with_reducible exact HP0.out) | (with_reducible exact HP1.out) | (with_reducible exact HP2.out) | (with_reducible exact HP3.out) | (with_reducible exact HQ0.out) | (with_reducible exact HQ1.out) | (with_reducible exact HQ2.out) | (with_reducible exact HQ3.out) | (with_reducible apply Box.new) | (with_reducible apply Box.newAt; simp; done) | (with_reducible apply Box.set) | (with_reducible apply Box.skip; omega) | (with_reducible apply Box.alloc) | (with_reducible apply Box.drew) | (with_reducible apply Box.row) | (with_reducible apply Box.skipRow; omega)))); intro hx1; (try simp only [List.setIfInBounds_toArray, List.set_cons_zero, List.set_cons_succ] at hx1); have k1_0 := hx1.cell 0 (by simp); have k1_1 := hx1.cell 1 (by simp); have k1_2 := hx1.cell 2 (by simp); have k1_3 := hx1.cell 3 (by simp); have fr1 := fun o => hx1.frozen o; (try simp only [List.getElem_toArray, List.getElem_cons_zero, List.getElem_cons_succ] at k1_0); (try simp only [List.getElem_toArray, List.getElem_cons_zero, List.getElem_cons_succ] at k1_1); (try simp only [List.getElem_toArray, List.getElem_cons_zero, List.getElem_cons_succ] at k1_2); (try simp only [List.getElem_toArray, List.getElem_cons_zero, List.getElem_cons_succ] at k1_3); skip; have HP0 := Lib.hid hx0; clear hx0; have HP1 := Lib.hid hx1; clear hx1; have HB1 := Lib.hid hb1; clear hb1)
    apply bodyPost_row_tmp (g := w.heap.size) rfl rfl rfl Try.underlying43 rfl
    focus (repeat (first | (with_reducible exact HP0.out) | (with_reducible exact HP1.out) | (with_reducible exact HP2.out) | (with_reducible exact HP3.out) | (with_reducible exact HQ0.out) | (with_reducible exact HQ1.out) | (with_reducible exact HQ2.out) | (with_reducible exact HQ3.out) | (with_reducible apply Box.new) | (with_reducible apply Box.newAt; simp; done) | (with_reducible apply Box.set) | (with_reducible apply Box.skip; omega) | (with_reducible apply Box.alloc) | (with_reducible apply Box.drew) | (with_reducible apply Box.row) | (with_reducible apply Box.skipRow; omega)))
    focus (kernel_rfl)
    focus (rfl)
    try simp only [List.setIfInBounds_toArray, List.set_cons_zero, List.set_cons_succ]
    refine ⟨_, rfl, ⟨Rng w.heap.size w.heap.size, _, rfl, Row.nil _ _ _ _ _ _, fun k hk => by have := hk.1; have := hk.2; omega⟩, ?_⟩
    repeat (first | ((with_reducible refine Below.setCell ?_ ?_ _); rotate_left; first | omega | (dsimp only; omega) | (simp; done) | (simp; omega)) | ((with_reducible refine below_setRow ?_ ?_ _); rotate_left; first | omega | (dsimp only; omega) | (simp; done) | (simp; omega)) | with_reducible exact Below.refl _ _ | with_reducible exact below_new _ | with_reducible exact below_drew | with_reducible exact HB9.out | with_reducible exact HB8.out | with_reducible exact HB7.out | with_reducible exact HB6.out | with_reducible exact HB5.out | with_reducible exact HB4.out | with_reducible exact HB3.out | with_reducible exact HB2.out | with_reducible exact HB1.out | (with_reducible apply below_comp; rotate_left; first | with_reducible exact HB9.out | with_reducible exact HB8.out | with_reducible exact HB7.out | with_reducible exact HB6.out | with_reducible exact HB5.out | with_reducible exact HB4.out | with_reducible exact HB3.out | with_reducible exact HB2.out | with_reducible exact HB1.out | with_reducible assumption | with_reducible exact below_new _ | with_reducible exact below_drew))
  unfold newPoolM
  rw [if_pos h, decide_eq_true h]
  rw [decide_eq_true h] at HP
  obtain ⟨_, _, h5, h6⟩ := h
  obtain ⟨n, rfl⟩ : ∃ n : Nat, c = n := ⟨c.toNat, by omega⟩
  have hn : n ≤ 16 := by omega
  rw [Int.toNat_natCast]
  clear h5 h6
  go_enter Try.func48, Try.ntmps48
  go_wp2_with (go_at_call 29; refine (HP.out _).mono ?_; rintro e w1 ⟨rfl, hb1⟩; have hz1 := hb1.size; (try simp at hz1); (have hl0 : w.heap.size < w1.heap.size := by omega); (have hl1 : w.heap.size + 1 < w1.heap.size := by omega); (apply with_box hb1 (g := w.heap.size)); (focus (repeat (first | (with_reducible exact HP0.out) | (with_reducible exact HP1.out) | (with_reducible exact HP2.out) | (with_reducible exact HP3.out) | (with_reducible exact HQ0.out) | (with_reducible exact HQ1.out) | (with_reducible exact HQ2.out) | (with_reducible exact HQ3.out) | (with_reducible apply Box.new) | (with_reducible apply Box.newAt; simp; done) | (with_reducible apply Box.set) | (with_reducible apply Box.skip; omega) | (with_reducible apply Box.alloc) | (with_reducible apply Box.drew) | (with_reducible apply Box.row) | (with_reducible apply Box.skipRow; omega)))); intro hx0; (try simp only [List.setIfInBounds_toArray, List.set_cons_zero, List.set_cons_succ] at hx0); have k0_0 := hx0.cell 0 (by simp); have k0_1 := hx0.cell 1 (by simp); have k0_2 := hx0.cell 2 (by simp); have k0_3 := hx0.cell 3 (by simp); have fr0 := fun o => hx0.frozen o; (try simp only [List.getElem_toArray, List.getElem_cons_zero, List.getElem_cons_succ] at k0_0); (try simp only [List.getElem_toArray, List.getElem_cons_zero, List.getElem_cons_succ] at k0_1); (try simp only [List.getElem_toArray, List.getElem_cons_zero, List.getElem_cons_succ] at k0_2); (try simp only [List.getElem_toArray, List.getElem_cons_zero, List.getElem_cons_succ] at k0_3); (apply with_box hb1 (g := w.heap.size + 1)); (focus (repeat (first | (with_reducible exact HP0.out) | (with_reducible exact HP1.out) | (with_reducible exact HP2.out) | (with_reducible exact HP3.out) | (with_reducible exact HQ0.out) | (with_reducible exact HQ1.out) | (with_reducible exact HQ2.out) | (with_reducible exact HQ3.out) | (with_reducible apply Box.new) | (with_reducible apply Box.newAt; simp; done) | (with_reducible apply Box.set) | (with_reducible apply Box.skip; omega) | (with_reducible apply Box.alloc) | (with_reducible apply Box.drew) | (with_reducible apply Box.row) | (with_reducible apply Box.skipRow; omega)))); intro hx1; (try simp only [List.setIfInBounds_toArray, List.set_cons_zero, List.set_cons_succ] at hx1); have k1_0 := hx1.cell 0 (by simp); have k1_1 := hx1.cell 1 (by simp); have k1_2 := hx1.cell 2 (by simp); have k1_3 := hx1.cell 3 (by simp); have fr1 := fun o => hx1.frozen o; (try simp only [List.getElem_toArray, List.getElem_cons_zero, List.getElem_cons_succ] at k1_0); (try simp only [List.getElem_toArray, List.getElem_cons_zero, List.getElem_cons_succ] at k1_1); (try simp only [List.getElem_toArray, List.getElem_cons_zero, List.getElem_cons_succ] at k1_2); (try simp only [List.getElem_toArray, List.getElem_cons_zero, List.getElem_cons_succ] at k1_3); skip; have HP0 := Lib.hid hx0; clear hx0; have HP1 := Lib.hid hx1; clear hx1; have HB1 := Lib.hid hb1; clear hb1)
  go_loopw [19] (fun i wr => ∃ k : Nat, k ≤ n ∧ i = .int .i64 k ∧ ∃ v, wr.ownsRow (w.heap.size + 2) 3 1 v k (upCells k) ∧ Hid (Box wr w.heap.size #[.int .i64 0, .int .i64 0, .int .i64 0, .slice none 0 0] 43) ∧ Hid (Box wr (w.heap.size + 1) #[.int .i64 b, .int .i64 s, .int .i64 n, v] 43) ∧ Hid (Below w.heap.size w wr)) (fun i _ => n + 1 - (intOf i).toNat)
  case atStart => exact ⟨0, Nat.zero_le _, rfl, .slice none 0 0, World.ownsRow_nil _ _ _ _, HP0, HP1, Lib.hid (by repeat (first | ((with_reducible refine Below.setCell ?_ ?_ _); rotate_left; first | omega | (dsimp only; omega) | (simp; done) | (simp; omega)) | ((with_reducible refine below_setRow ?_ ?_ _); rotate_left; first | omega | (dsimp only; omega) | (simp; done) | (simp; omega)) | with_reducible exact Below.refl _ _ | with_reducible exact below_new _ | with_reducible exact below_drew | with_reducible exact HB9.out | with_reducible exact HB8.out | with_reducible exact HB7.out | with_reducible exact HB6.out | with_reducible exact HB5.out | with_reducible exact HB4.out | with_reducible exact HB3.out | with_reducible exact HB2.out | with_reducible exact HB1.out | (with_reducible apply below_comp; rotate_left; first | with_reducible exact HB9.out | with_reducible exact HB8.out | with_reducible exact HB7.out | with_reducible exact HB6.out | with_reducible exact HB5.out | with_reducible exact HB4.out | with_reducible exact HB3.out | with_reducible exact HB2.out | with_reducible exact HB1.out | with_reducible assumption | with_reducible exact below_new _ | with_reducible exact below_drew)))⟩
  case round =>
    clear HP0 HP1 HB1 k0_0 k0_1 k0_2 k0_3 k1_0 k1_1 k1_2 k1_3 fr0 fr1
    obtain ⟨k, hk, rfl, v, hown, HB0, HB1', HB⟩ := hrel
    have hl1 := HB1'.out.lt
    by_cases hlt : k < n
    · have e1 : (k : Int) < (n : Int) := by omega
      have e0 : (0 : Int) ≤ (k : Int) := by omega
      have k1_3 := HB1'.out.cell 3 (by simp)
      have fr1 := fun j => HB1'.out.frozen j
      simp only [List.getElem_toArray, List.getElem_cons_zero, List.getElem_cons_succ] at k1_3
      have m1 : k + 1 ≤ maxLen := by unfold maxLen; omega
      have m2 : (k + 1) * 8 ≤ 140737488355328 := by omega
      have hz : w.heap.size + 2 ≤ wr.heap.size + 1 := by omega
      have HN := Lib.hid (upCells_next k)
      go_wp2_with (refine wpList_push rfl (.tmp 23) (.tmp 25) 22 rfl (w.heap.size + 2) elemI (by simp [go_sem, Act.eval]) (hown.alloc _) _ 1 1 [.int .i64 (k : Int)] (by simp [go_sem, Act.eval]) (heap_alloc_new _ _) (by simp) (by simp [Value.oneCell']) (by omega) m1 m2 (by simpa using hz) ?_; intro g1 cap1 w1 hown1 hgrow1; have K1 := ((HB1'.out.alloc (.cells #[.int .i64 (k : Int)] 3)).grown hgrow1 (own_ne hown (by omega))); have K0 := ((HB0.out.alloc (.cells #[.int .i64 (k : Int)] 3)).grown hgrow1 (own_ne hown (by omega))); have q3 := K1.cell 3 (by simp); have f3 := fun j => K1.frozen j; simp only [List.getElem_toArray, List.getElem_cons_zero, List.getElem_cons_succ] at q3; have HK1 := Lib.hid K1; have HK0 := Lib.hid K0; have HG := Lib.hid hgrow1; clear K1 K0 hgrow1)
      rw [HN.out] at hown1
      have HO := Lib.hid hown1
      clear hown1
      go_roundw
      case rel => exact ⟨k + 1, by omega, by go_num, _, owns_set HO.out (by omega), Lib.hid (Box.skip (by omega) HK0.out), Lib.hid (HK1.out.set.to (by simp)), Lib.hid (Below.setCell (below_push HB.out HB.out.size (base_le hown (by omega)) _ HG.out) (by dsimp only; omega) _)⟩
      case measure => simp [intOf]; omega
    · obtain rfl : k = n := by omega
      have HR := Lib.hid (up_row hown)
      have HV := Lib.hid (own_form hown)
      clear hown
      have e1 : ¬ (k : Int) < (k : Int) := by omega
      have k1_0 := HB1'.out.cell 0 (by simp)
      have k1_1 := HB1'.out.cell 1 (by simp)
      have k1_2 := HB1'.out.cell 2 (by simp)
      have k1_3 := HB1'.out.cell 3 (by simp)
      have fr0 := fun j => HB0.out.frozen j
      have k0_0 := HB0.out.cell 0 (by simp)
      have k0_1 := HB0.out.cell 1 (by simp)
      have k0_2 := HB0.out.cell 2 (by simp)
      have k0_3 := HB0.out.cell 3 (by simp)
      simp only [List.getElem_toArray, List.getElem_cons_zero, List.getElem_cons_succ] at k1_0 k1_1 k1_2 k1_3 k0_0 k0_1 k0_2 k0_3
      obtain ⟨A, N, C, rfl⟩ := HV.out
      go_wp2
      apply bodyPost_row_tmp (g := w.heap.size) rfl rfl rfl Try.underlying43 rfl
      focus (repeat (first | (with_reducible exact HB0.out) | (with_reducible apply Box.set)))
      focus (kernel_rfl)
      focus (rfl)
      try simp only [List.setIfInBounds_toArray, List.set_cons_zero, List.set_cons_succ]
      refine ⟨_, rfl, ⟨Rng (w.heap.size + 2) wr.heap.size, _, rfl, ?_, fun k hk => ⟨by have := hk.1; omega, by have := hk.2; simpa using this⟩⟩, ?_⟩
      · repeat (with_reducible refine Row.setR ?_ (by omega))
        exact HR.out
      · repeat (with_reducible refine Below.setCell ?_ (by dsimp only; omega) _)
        exact HB.out

theorem introw_up {W : World} {B n : Nat} {v : Value} (h : W.ownsRow B 3 1 v n (upCells n)) : IntRow W B v n upAt := row_of_own h (fun j hj => by simp [upCells, upTo, upAt, hj])

set_option maxHeartbeats 4000000 in
set_option maxRecDepth 100000 in
theorem spec_newpool (b s c : Int) (w : World) : Calls Try.prog 47 #[.int .i64 b, .int .i64 s, .int .i64 c] w (OwnPool w (newPoolM b s c) (decide (poolOk0 b s c))) := by
  by_cases hc : 0 ≤ c ∧ c ≤ 16
  case neg =>
    have hok : ¬ poolOk0 b s c := fun h => hc h.2.2
    have HP := Lib.hid fun (W : World) (B : Nat) (v : Value) (R : IntRow W B v 0 upAt) => spec_poolok b s c v 0 B upAt W (by omega) R
    rw [poolB_nil, decide_eq_false hok] at HP
    unfold newPoolM
    rw [if_neg hok, decide_eq_false hok]
    clear hok
    have HC := Lib.hid hc
    clear hc
    go_enter Try.func47, Try.ntmps47
    go_wp2
    go_loopw [9] (fun i wr => i = .int .i64 0 ∧ ∃ v, wr.ownsRow (w.heap.size + 2) 3 1 v 0 (upCells 0) ∧ Hid (Box wr w.heap.size #[.int .i64 0, .int .i64 0, .int .i64 0, .slice none 0 0] 43) ∧ Hid (Box wr (w.heap.size + 1) #[.int .i64 b, .int .i64 s, .int .i64 c, v] 43) ∧ Hid (Below w.heap.size w wr)) (fun _ _ => 0)
    case atStart => exact ⟨rfl, .slice none 0 0, World.ownsRow_nil _ _ _ _, Lib.hid (by repeat (first | (with_reducible exact HP0.out) | (with_reducible exact HP1.out) | (with_reducible exact HP2.out) | (with_reducible exact HP3.out) | (with_reducible exact HQ0.out) | (with_reducible exact HQ1.out) | (with_reducible exact HQ2.out) | (with_reducible exact HQ3.out) | (with_reducible apply Box.new) | (with_reducible apply Box.newAt; simp; done) | (with_reducible apply Box.set) | (with_reducible apply Box.skip; omega) | (with_reducible apply Box.alloc) | (with_reducible apply Box.drew) | (with_reducible apply Box.row) | (with_reducible apply Box.skipRow; omega))), Lib.hid (by apply Box.to (vs := _) (by repeat (first | (with_reducible exact HP0.out) | (with_reducible exact HP1.out) | (with_reducible exact HP2.out) | (with_reducible exact HP3.out) | (with_reducible exact HQ0.out) | (with_reducible exact HQ1.out) | (with_reducible exact HQ2.out) | (with_reducible exact HQ3.out) | (with_reducible apply Box.new) | (with_reducible apply Box.newAt; simp; done) | (with_reducible apply Box.set) | (with_reducible apply Box.skip; omega) | (with_reducible apply Box.alloc) | (with_reducible apply Box.drew) | (with_reducible apply Box.row) | (with_reducible apply Box.skipRow; omega))); simp), Lib.hid (by repeat (first | ((with_reducible refine Below.setCell ?_ ?_ _); rotate_left; first | omega | (dsimp only; omega) | (simp; done) | (simp; omega)) | ((with_reducible refine below_setRow ?_ ?_ _); rotate_left; first | omega | (dsimp only; omega) | (simp; done) | (simp; omega)) | with_reducible exact Below.refl _ _ | with_reducible exact below_new _ | with_reducible exact below_drew | with_reducible exact HB9.out | with_reducible exact HB8.out | with_reducible exact HB7.out | with_reducible exact HB6.out | with_reducible exact HB5.out | with_reducible exact HB4.out | with_reducible exact HB3.out | with_reducible exact HB2.out | with_reducible exact HB1.out | (with_reducible apply below_comp; rotate_left; first | with_reducible exact HB9.out | with_reducible exact HB8.out | with_reducible exact HB7.out | with_reducible exact HB6.out | with_reducible exact HB5.out | with_reducible exact HB4.out | with_reducible exact HB3.out | with_reducible exact HB2.out | with_reducible exact HB1.out | with_reducible assumption | with_reducible exact below_new _ | with_reducible exact below_drew)))⟩
    case round =>
      obtain ⟨rfl, v, hown, HB0, HB1', HB⟩ := hrel
      have hl1 := HB1'.out.lt
      by_cases h0 : 0 < c
      · have h1 : ¬ c ≤ 16 := fun h => HC.out ⟨by omega, h⟩
        have hcc := h0
        clear h0
        have HR := Lib.hid (up_row hown)
        have HI := Lib.hid (introw_up hown)
        have HV := Lib.hid (own_form hown)
        clear hown
        have k1_0 := HB1'.out.cell 0 (by simp)
        have k1_1 := HB1'.out.cell 1 (by simp)
        have k1_2 := HB1'.out.cell 2 (by simp)
        have k1_3 := HB1'.out.cell 3 (by simp)
        have fr0 := fun j => HB0.out.frozen j
        simp only [List.getElem_toArray, List.getElem_cons_zero, List.getElem_cons_succ] at k1_0 k1_1 k1_2 k1_3
        obtain ⟨A, N, C, rfl⟩ := HV.out
        have HP0 := HB0
        have HP1 := HB1'
        go_wp2_with (go_at_call 27; refine (HP.out _ _ _ HI.out).mono ?_; rintro e w2 ⟨rfl, hb2⟩; have hz2 := hb2.size; (try simp at hz2); (have hl0 : w.heap.size < w2.heap.size := by omega); (have hl1 : w.heap.size + 1 < w2.heap.size := by omega); (apply with_box hb2 (g := w.heap.size)); (focus (repeat (first | (with_reducible exact HP0.out) | (with_reducible exact HP1.out) | (with_reducible exact HP2.out) | (with_reducible exact HP3.out) | (with_reducible exact HQ0.out) | (with_reducible exact HQ1.out) | (with_reducible exact HQ2.out) | (with_reducible exact HQ3.out) | (with_reducible apply Box.new) | (with_reducible apply Box.newAt; simp; done) | (with_reducible apply Box.set) | (with_reducible apply Box.skip; omega) | (with_reducible apply Box.alloc) | (with_reducible apply Box.drew) | (with_reducible apply Box.row) | (with_reducible apply Box.skipRow; omega)))); intro hx0; (try simp only [List.setIfInBounds_toArray, List.set_cons_zero, List.set_cons_succ] at hx0); have k0_0 := hx0.cell 0 (by simp); have k0_1 := hx0.cell 1 (by simp); have k0_2 := hx0.cell 2 (by simp); have k0_3 := hx0.cell 3 (by simp); have fr0 := fun o => hx0.frozen o; (try simp only [List.getElem_toArray, List.getElem_cons_zero, List.getElem_cons_succ] at k0_0); (try simp only [List.getElem_toArray, List.getElem_cons_zero, List.getElem_cons_succ] at k0_1); (try simp only [List.getElem_toArray, List.getElem_cons_zero, List.getElem_cons_succ] at k0_2); (try simp only [List.getElem_toArray, List.getElem_cons_zero, List.getElem_cons_succ] at k0_3); (apply with_box hb2 (g := w.heap.size + 1)); (focus (repeat (first | (with_reducible exact HP0.out) | (with_reducible exact HP1.out) | (with_reducible exact HP2.out) | (with_reducible exact HP3.out) | (with_reducible exact HQ0.out) | (with_reducible exact HQ1.out) | (with_reducible exact HQ2.out) | (with_reducible exact HQ3.out) | (with_reducible apply Box.new) | (with_reducible apply Box.newAt; simp; done) | (with_reducible apply Box.set) | (with_reducible apply Box.skip; omega) | (with_reducible apply Box.alloc) | (with_reducible apply Box.drew) | (with_reducible apply Box.row) | (with_reducible apply Box.skipRow; omega)))); intro hx1; (try simp only [List.setIfInBounds_toArray, List.set_cons_zero, List.set_cons_succ] at hx1); have k1_0 := hx1.cell 0 (by simp); have k1_1 := hx1.cell 1 (by simp); have k1_2 := hx1.cell 2 (by simp); have k1_3 := hx1.cell 3 (by simp); have fr1 := fun o => hx1.frozen o; (try simp only [List.getElem_toArray, List.getElem_cons_zero, List.getElem_cons_succ] at k1_0); (try simp only [List.getElem_toArray, List.getElem_cons_zero, List.getElem_cons_succ] at k1_1); (try simp only [List.getElem_toArray, List.getElem_cons_zero, List.getElem_cons_succ] at k1_2); (try simp only [List.getElem_toArray, List.getElem_cons_zero, List.getElem_cons_succ] at k1_3); skip; have HP0 := Lib.hid hx0; clear hx0; have HP1 := Lib.hid hx1; clear hx1; have HB2 := Lib.hid hb2; clear hb2)
        apply bodyPost_row_tmp (g := w.heap.size) rfl rfl rfl Try.underlying43 rfl
        focus (repeat (first | (with_reducible exact HP0.out) | (with_reducible exact HP1.out) | (with_reducible exact HP2.out) | (with_reducible exact HP3.out) | (with_reducible exact HQ0.out) | (with_reducible exact HQ1.out) | (with_reducible exact HQ2.out) | (with_reducible exact HQ3.out) | (with_reducible apply Box.new) | (with_reducible apply Box.newAt; simp; done) | (with_reducible apply Box.set) | (with_reducible apply Box.skip; omega) | (with_reducible apply Box.alloc) | (with_reducible apply Box.drew) | (with_reducible apply Box.row) | (with_reducible apply Box.skipRow; omega)))
        focus (kernel_rfl)
        focus (rfl)
        try simp only [List.setIfInBounds_toArray, List.set_cons_zero, List.set_cons_succ]
        refine ⟨_, rfl, ⟨Rng w.heap.size w.heap.size, _, rfl, Row.nil _ _ _ _ _ _, fun k hk => by have := hk.1; have := hk.2; omega⟩, ?_⟩
        repeat (with_reducible refine Below.setCell ?_ (by dsimp only; omega) _)
        exact below_comp HB.out HB2.out

      · have HR := Lib.hid (up_row hown)
        have HI := Lib.hid (introw_up hown)
        have HV := Lib.hid (own_form hown)
        clear hown
        have k1_0 := HB1'.out.cell 0 (by simp)
        have k1_1 := HB1'.out.cell 1 (by simp)
        have k1_2 := HB1'.out.cell 2 (by simp)
        have k1_3 := HB1'.out.cell 3 (by simp)
        have fr0 := fun j => HB0.out.frozen j
        simp only [List.getElem_toArray, List.getElem_cons_zero, List.getElem_cons_succ] at k1_0 k1_1 k1_2 k1_3
        obtain ⟨A, N, C, rfl⟩ := HV.out
        have HP0 := HB0
        have HP1 := HB1'
        go_wp2_with (go_at_call 27; refine (HP.out _ _ _ HI.out).mono ?_; rintro e w2 ⟨rfl, hb2⟩; have hz2 := hb2.size; (try simp at hz2); (have hl0 : w.heap.size < w2.heap.size := by omega); (have hl1 : w.heap.size + 1 < w2.heap.size := by omega); (apply with_box hb2 (g := w.heap.size)); (focus (repeat (first | (with_reducible exact HP0.out) | (with_reducible exact HP1.out) | (with_reducible exact HP2.out) | (with_reducible exact HP3.out) | (with_reducible exact HQ0.out) | (with_reducible exact HQ1.out) | (with_reducible exact HQ2.out) | (with_reducible exact HQ3.out) | (with_reducible apply Box.new) | (with_reducible apply Box.newAt; simp; done) | (with_reducible apply Box.set) | (with_reducible apply Box.skip; omega) | (with_reducible apply Box.alloc) | (with_reducible apply Box.drew) | (with_reducible apply Box.row) | (with_reducible apply Box.skipRow; omega)))); intro hx0; (try simp only [List.setIfInBounds_toArray, List.set_cons_zero, List.set_cons_succ] at hx0); have k0_0 := hx0.cell 0 (by simp); have k0_1 := hx0.cell 1 (by simp); have k0_2 := hx0.cell 2 (by simp); have k0_3 := hx0.cell 3 (by simp); have fr0 := fun o => hx0.frozen o; (try simp only [List.getElem_toArray, List.getElem_cons_zero, List.getElem_cons_succ] at k0_0); (try simp only [List.getElem_toArray, List.getElem_cons_zero, List.getElem_cons_succ] at k0_1); (try simp only [List.getElem_toArray, List.getElem_cons_zero, List.getElem_cons_succ] at k0_2); (try simp only [List.getElem_toArray, List.getElem_cons_zero, List.getElem_cons_succ] at k0_3); (apply with_box hb2 (g := w.heap.size + 1)); (focus (repeat (first | (with_reducible exact HP0.out) | (with_reducible exact HP1.out) | (with_reducible exact HP2.out) | (with_reducible exact HP3.out) | (with_reducible exact HQ0.out) | (with_reducible exact HQ1.out) | (with_reducible exact HQ2.out) | (with_reducible exact HQ3.out) | (with_reducible apply Box.new) | (with_reducible apply Box.newAt; simp; done) | (with_reducible apply Box.set) | (with_reducible apply Box.skip; omega) | (with_reducible apply Box.alloc) | (with_reducible apply Box.drew) | (with_reducible apply Box.row) | (with_reducible apply Box.skipRow; omega)))); intro hx1; (try simp only [List.setIfInBounds_toArray, List.set_cons_zero, List.set_cons_succ] at hx1); have k1_0 := hx1.cell 0 (by simp); have k1_1 := hx1.cell 1 (by simp); have k1_2 := hx1.cell 2 (by simp); have k1_3 := hx1.cell 3 (by simp); have fr1 := fun o => hx1.frozen o; (try simp only [List.getElem_toArray, List.getElem_cons_zero, List.getElem_cons_succ] at k1_0); (try simp only [List.getElem_toArray, List.getElem_cons_zero, List.getElem_cons_succ] at k1_1); (try simp only [List.getElem_toArray, List.getElem_cons_zero, List.getElem_cons_succ] at k1_2); (try simp only [List.getElem_toArray, List.getElem_cons_zero, List.getElem_cons_succ] at k1_3); skip; have HP0 := Lib.hid hx0; clear hx0; have HP1 := Lib.hid hx1; clear hx1; have HB2 := Lib.hid hb2; clear hb2)
        apply bodyPost_row_tmp (g := w.heap.size) rfl rfl rfl Try.underlying43 rfl
        focus (repeat (first | (with_reducible exact HP0.out) | (with_reducible exact HP1.out) | (with_reducible exact HP2.out) | (with_reducible exact HP3.out) | (with_reducible exact HQ0.out) | (with_reducible exact HQ1.out) | (with_reducible exact HQ2.out) | (with_reducible exact HQ3.out) | (with_reducible apply Box.new) | (with_reducible apply Box.newAt; simp; done) | (with_reducible apply Box.set) | (with_reducible apply Box.skip; omega) | (with_reducible apply Box.alloc) | (with_reducible apply Box.drew) | (with_reducible apply Box.row) | (with_reducible apply Box.skipRow; omega)))
        focus (kernel_rfl)
        focus (rfl)
        try simp only [List.setIfInBounds_toArray, List.set_cons_zero, List.set_cons_succ]
        refine ⟨_, rfl, ⟨Rng w.heap.size w.heap.size, _, rfl, Row.nil _ _ _ _ _ _, fun k hk => by have := hk.1; have := hk.2; omega⟩, ?_⟩
        repeat (with_reducible refine Below.setCell ?_ (by dsimp only; omega) _)
        exact below_comp HB.out HB2.out

  have HP := Lib.hid fun (W : World) (B : Nat) (v : Value) (R : IntRow W B v c.toNat upAt) => spec_poolok b s c v c.toNat B upAt W (by omega) R
  rw [poolB_up b s c c.toNat (by omega)] at HP
  obtain ⟨n, rfl⟩ : ∃ n : Nat, c = n := ⟨c.toNat, by omega⟩
  have hn : n ≤ 16 := by omega
  rw [Int.toNat_natCast] at HP
  have e16 : (n : Int) ≤ 16 := by omega
  clear hc
  obtain ⟨K, hK⟩ : ∃ K, K = decide (poolOk0 b s n) := ⟨_, rfl⟩
  have HM : Hid (newPoolM b s n = if K = true then ⟨b, s, n, upTo n⟩ else ⟨0, 0, 0, []⟩) := Lib.hid (by
    unfold newPoolM
    rw [hK, Int.toNat_natCast]
    by_cases h : poolOk0 b s n
    · rw [if_pos h, if_pos (decide_eq_true h)]
    · rw [if_neg h, if_neg (by rw [decide_eq_false h]; decide)])
  rw [HM.out]
  rw [← hK] at HP ⊢
  clear hK HM
  cases K
  case true =>
    rw [if_pos rfl]
    go_enter Try.func47, Try.ntmps47
    go_wp2
    go_loopw [9] (fun i wr => ∃ k : Nat, k ≤ n ∧ i = .int .i64 k ∧ ∃ v, wr.ownsRow (w.heap.size + 2) 3 1 v k (upCells k) ∧ Hid (Box wr w.heap.size #[.int .i64 0, .int .i64 0, .int .i64 0, .slice none 0 0] 43) ∧ Hid (Box wr (w.heap.size + 1) #[.int .i64 b, .int .i64 s, .int .i64 n, v] 43) ∧ Hid (Below w.heap.size w wr)) (fun i _ => n + 1 - (intOf i).toNat)
    case atStart => exact ⟨0, Nat.zero_le _, rfl, .slice none 0 0, World.ownsRow_nil _ _ _ _, Lib.hid (by repeat (first | (with_reducible exact HP0.out) | (with_reducible exact HP1.out) | (with_reducible exact HP2.out) | (with_reducible exact HP3.out) | (with_reducible exact HQ0.out) | (with_reducible exact HQ1.out) | (with_reducible exact HQ2.out) | (with_reducible exact HQ3.out) | (with_reducible apply Box.new) | (with_reducible apply Box.newAt; simp; done) | (with_reducible apply Box.set) | (with_reducible apply Box.skip; omega) | (with_reducible apply Box.alloc) | (with_reducible apply Box.drew) | (with_reducible apply Box.row) | (with_reducible apply Box.skipRow; omega))), Lib.hid (by apply Box.to (vs := _) (by repeat (first | (with_reducible exact HP0.out) | (with_reducible exact HP1.out) | (with_reducible exact HP2.out) | (with_reducible exact HP3.out) | (with_reducible exact HQ0.out) | (with_reducible exact HQ1.out) | (with_reducible exact HQ2.out) | (with_reducible exact HQ3.out) | (with_reducible apply Box.new) | (with_reducible apply Box.newAt; simp; done) | (with_reducible apply Box.set) | (with_reducible apply Box.skip; omega) | (with_reducible apply Box.alloc) | (with_reducible apply Box.drew) | (with_reducible apply Box.row) | (with_reducible apply Box.skipRow; omega))); simp), Lib.hid (by repeat (first | ((with_reducible refine Below.setCell ?_ ?_ _); rotate_left; first | omega | (dsimp only; omega) | (simp; done) | (simp; omega)) | ((with_reducible refine below_setRow ?_ ?_ _); rotate_left; first | omega | (dsimp only; omega) | (simp; done) | (simp; omega)) | with_reducible exact Below.refl _ _ | with_reducible exact below_new _ | with_reducible exact below_drew | with_reducible exact HB9.out | with_reducible exact HB8.out | with_reducible exact HB7.out | with_reducible exact HB6.out | with_reducible exact HB5.out | with_reducible exact HB4.out | with_reducible exact HB3.out | with_reducible exact HB2.out | with_reducible exact HB1.out | (with_reducible apply below_comp; rotate_left; first | with_reducible exact HB9.out | with_reducible exact HB8.out | with_reducible exact HB7.out | with_reducible exact HB6.out | with_reducible exact HB5.out | with_reducible exact HB4.out | with_reducible exact HB3.out | with_reducible exact HB2.out | with_reducible exact HB1.out | with_reducible assumption | with_reducible exact below_new _ | with_reducible exact below_drew)))⟩
    case round =>
    obtain ⟨k, hk, rfl, v, hown, HB0, HB1', HB⟩ := hrel
    have hl1 := HB1'.out.lt
    by_cases hlt : k < n
    · have e1 : (k : Int) < (n : Int) := by omega
      have e0 : (0 : Int) ≤ (k : Int) := by omega
      have k1_3 := HB1'.out.cell 3 (by simp)
      have fr1 := fun j => HB1'.out.frozen j
      simp only [List.getElem_toArray, List.getElem_cons_zero, List.getElem_cons_succ] at k1_3
      have m1 : k + 1 ≤ maxLen := by unfold maxLen; omega
      have m2 : (k + 1) * 8 ≤ 140737488355328 := by omega
      have hz : w.heap.size + 2 ≤ wr.heap.size + 1 := by omega
      have HN := Lib.hid (upCells_next k)
      go_wp2_with (refine wpList_push rfl (.tmp 24) (.tmp 26) 22 rfl (w.heap.size + 2) elemI (by simp [go_sem, Act.eval]) (hown.alloc _) _ 1 1 [.int .i64 (k : Int)] (by simp [go_sem, Act.eval]) (heap_alloc_new _ _) (by simp) (by simp [Value.oneCell']) (by omega) m1 m2 (by simpa using hz) ?_; intro g1 cap1 w1 hown1 hgrow1; have K1 := ((HB1'.out.alloc (.cells #[.int .i64 (k : Int)] 3)).grown hgrow1 (own_ne hown (by omega))); have K0 := ((HB0.out.alloc (.cells #[.int .i64 (k : Int)] 3)).grown hgrow1 (own_ne hown (by omega))); have q3 := K1.cell 3 (by simp); have f3 := fun j => K1.frozen j; simp only [List.getElem_toArray, List.getElem_cons_zero, List.getElem_cons_succ] at q3; have HK1 := Lib.hid K1; have HK0 := Lib.hid K0; have HG := Lib.hid hgrow1; clear K1 K0 hgrow1)
      rw [HN.out] at hown1
      have HO := Lib.hid hown1
      clear hown1
      go_roundw
      case rel => exact ⟨k + 1, by omega, by go_num, _, owns_set HO.out (by omega), Lib.hid (Box.skip (by omega) HK0.out), Lib.hid (HK1.out.set.to (by simp)), Lib.hid (Below.setCell (below_push HB.out HB.out.size (base_le hown (by omega)) _ HG.out) (by dsimp only; omega) _)⟩
      case measure => simp [intOf]; omega
    · obtain rfl : k = n := by omega
      have e1 : ¬ (k : Int) < (k : Int) := by omega
      have HR := Lib.hid (up_row hown)
      have HI := Lib.hid (introw_up hown)
      have HV := Lib.hid (own_form hown)
      clear hown
      have k1_0 := HB1'.out.cell 0 (by simp)
      have k1_1 := HB1'.out.cell 1 (by simp)
      have k1_2 := HB1'.out.cell 2 (by simp)
      have k1_3 := HB1'.out.cell 3 (by simp)
      have fr0 := fun j => HB0.out.frozen j
      simp only [List.getElem_toArray, List.getElem_cons_zero, List.getElem_cons_succ] at k1_0 k1_1 k1_2 k1_3
      obtain ⟨A, N, C, rfl⟩ := HV.out
      have HP0 := HB0
      have HP1 := HB1'
      go_wp2_with (go_at_call 27; refine (HP.out _ _ _ HI.out).mono ?_; rintro e w2 ⟨rfl, hb2⟩; have hz2 := hb2.size; (try simp at hz2); (have hl0 : w.heap.size < w2.heap.size := by omega); (have hl1 : w.heap.size + 1 < w2.heap.size := by omega); (apply with_box hb2 (g := w.heap.size)); (focus (repeat (first | (with_reducible exact HP0.out) | (with_reducible exact HP1.out) | (with_reducible exact HP2.out) | (with_reducible exact HP3.out) | (with_reducible exact HQ0.out) | (with_reducible exact HQ1.out) | (with_reducible exact HQ2.out) | (with_reducible exact HQ3.out) | (with_reducible apply Box.new) | (with_reducible apply Box.newAt; simp; done) | (with_reducible apply Box.set) | (with_reducible apply Box.skip; omega) | (with_reducible apply Box.alloc) | (with_reducible apply Box.drew) | (with_reducible apply Box.row) | (with_reducible apply Box.skipRow; omega)))); intro hx0; (try simp only [List.setIfInBounds_toArray, List.set_cons_zero, List.set_cons_succ] at hx0); have k0_0 := hx0.cell 0 (by simp); have k0_1 := hx0.cell 1 (by simp); have k0_2 := hx0.cell 2 (by simp); have k0_3 := hx0.cell 3 (by simp); have fr0 := fun o => hx0.frozen o; (try simp only [List.getElem_toArray, List.getElem_cons_zero, List.getElem_cons_succ] at k0_0); (try simp only [List.getElem_toArray, List.getElem_cons_zero, List.getElem_cons_succ] at k0_1); (try simp only [List.getElem_toArray, List.getElem_cons_zero, List.getElem_cons_succ] at k0_2); (try simp only [List.getElem_toArray, List.getElem_cons_zero, List.getElem_cons_succ] at k0_3); (apply with_box hb2 (g := w.heap.size + 1)); (focus (repeat (first | (with_reducible exact HP0.out) | (with_reducible exact HP1.out) | (with_reducible exact HP2.out) | (with_reducible exact HP3.out) | (with_reducible exact HQ0.out) | (with_reducible exact HQ1.out) | (with_reducible exact HQ2.out) | (with_reducible exact HQ3.out) | (with_reducible apply Box.new) | (with_reducible apply Box.newAt; simp; done) | (with_reducible apply Box.set) | (with_reducible apply Box.skip; omega) | (with_reducible apply Box.alloc) | (with_reducible apply Box.drew) | (with_reducible apply Box.row) | (with_reducible apply Box.skipRow; omega)))); intro hx1; (try simp only [List.setIfInBounds_toArray, List.set_cons_zero, List.set_cons_succ] at hx1); have k1_0 := hx1.cell 0 (by simp); have k1_1 := hx1.cell 1 (by simp); have k1_2 := hx1.cell 2 (by simp); have k1_3 := hx1.cell 3 (by simp); have fr1 := fun o => hx1.frozen o; (try simp only [List.getElem_toArray, List.getElem_cons_zero, List.getElem_cons_succ] at k1_0); (try simp only [List.getElem_toArray, List.getElem_cons_zero, List.getElem_cons_succ] at k1_1); (try simp only [List.getElem_toArray, List.getElem_cons_zero, List.getElem_cons_succ] at k1_2); (try simp only [List.getElem_toArray, List.getElem_cons_zero, List.getElem_cons_succ] at k1_3); skip; have HP0 := Lib.hid hx0; clear hx0; have HP1 := Lib.hid hx1; clear hx1; have HB2 := Lib.hid hb2; clear hb2)
      apply bodyPost_row_tmp (g := w.heap.size) rfl rfl rfl Try.underlying43 rfl
      focus (repeat (first | (with_reducible exact HP0.out) | (with_reducible exact HP1.out) | (with_reducible exact HP2.out) | (with_reducible exact HP3.out) | (with_reducible exact HQ0.out) | (with_reducible exact HQ1.out) | (with_reducible exact HQ2.out) | (with_reducible exact HQ3.out) | (with_reducible apply Box.new) | (with_reducible apply Box.newAt; simp; done) | (with_reducible apply Box.set) | (with_reducible apply Box.skip; omega) | (with_reducible apply Box.alloc) | (with_reducible apply Box.drew) | (with_reducible apply Box.row) | (with_reducible apply Box.skipRow; omega)))
      focus (kernel_rfl)
      focus (rfl)
      try simp only [List.setIfInBounds_toArray, List.set_cons_zero, List.set_cons_succ]

      refine ⟨_, rfl, ⟨Rng (w.heap.size + 2) wr.heap.size, _, rfl, ?_, fun k hk => ⟨by have := hk.1; omega, by have := hk.2; have := HB2.out.size; (try simp); omega⟩⟩, ?_⟩
      · repeat (with_reducible refine Row.setR ?_ (by omega))
        exact HR.out.later HB2.out
      · repeat (with_reducible refine Below.setCell ?_ (by dsimp only; omega) _)
        exact below_comp HB.out HB2.out

  case false =>
    rw [if_neg (by decide)]
    go_enter Try.func47, Try.ntmps47
    go_wp2
    go_loopw [9] (fun i wr => ∃ k : Nat, k ≤ n ∧ i = .int .i64 k ∧ ∃ v, wr.ownsRow (w.heap.size + 2) 3 1 v k (upCells k) ∧ Hid (Box wr w.heap.size #[.int .i64 0, .int .i64 0, .int .i64 0, .slice none 0 0] 43) ∧ Hid (Box wr (w.heap.size + 1) #[.int .i64 b, .int .i64 s, .int .i64 n, v] 43) ∧ Hid (Below w.heap.size w wr)) (fun i _ => n + 1 - (intOf i).toNat)
    case atStart => exact ⟨0, Nat.zero_le _, rfl, .slice none 0 0, World.ownsRow_nil _ _ _ _, Lib.hid (by repeat (first | (with_reducible exact HP0.out) | (with_reducible exact HP1.out) | (with_reducible exact HP2.out) | (with_reducible exact HP3.out) | (with_reducible exact HQ0.out) | (with_reducible exact HQ1.out) | (with_reducible exact HQ2.out) | (with_reducible exact HQ3.out) | (with_reducible apply Box.new) | (with_reducible apply Box.newAt; simp; done) | (with_reducible apply Box.set) | (with_reducible apply Box.skip; omega) | (with_reducible apply Box.alloc) | (with_reducible apply Box.drew) | (with_reducible apply Box.row) | (with_reducible apply Box.skipRow; omega))), Lib.hid (by apply Box.to (vs := _) (by repeat (first | (with_reducible exact HP0.out) | (with_reducible exact HP1.out) | (with_reducible exact HP2.out) | (with_reducible exact HP3.out) | (with_reducible exact HQ0.out) | (with_reducible exact HQ1.out) | (with_reducible exact HQ2.out) | (with_reducible exact HQ3.out) | (with_reducible apply Box.new) | (with_reducible apply Box.newAt; simp; done) | (with_reducible apply Box.set) | (with_reducible apply Box.skip; omega) | (with_reducible apply Box.alloc) | (with_reducible apply Box.drew) | (with_reducible apply Box.row) | (with_reducible apply Box.skipRow; omega))); simp), Lib.hid (by repeat (first | ((with_reducible refine Below.setCell ?_ ?_ _); rotate_left; first | omega | (dsimp only; omega) | (simp; done) | (simp; omega)) | ((with_reducible refine below_setRow ?_ ?_ _); rotate_left; first | omega | (dsimp only; omega) | (simp; done) | (simp; omega)) | with_reducible exact Below.refl _ _ | with_reducible exact below_new _ | with_reducible exact below_drew | with_reducible exact HB9.out | with_reducible exact HB8.out | with_reducible exact HB7.out | with_reducible exact HB6.out | with_reducible exact HB5.out | with_reducible exact HB4.out | with_reducible exact HB3.out | with_reducible exact HB2.out | with_reducible exact HB1.out | (with_reducible apply below_comp; rotate_left; first | with_reducible exact HB9.out | with_reducible exact HB8.out | with_reducible exact HB7.out | with_reducible exact HB6.out | with_reducible exact HB5.out | with_reducible exact HB4.out | with_reducible exact HB3.out | with_reducible exact HB2.out | with_reducible exact HB1.out | with_reducible assumption | with_reducible exact below_new _ | with_reducible exact below_drew)))⟩
    case round =>
    obtain ⟨k, hk, rfl, v, hown, HB0, HB1', HB⟩ := hrel
    have hl1 := HB1'.out.lt
    by_cases hlt : k < n
    · have e1 : (k : Int) < (n : Int) := by omega
      have e0 : (0 : Int) ≤ (k : Int) := by omega
      have k1_3 := HB1'.out.cell 3 (by simp)
      have fr1 := fun j => HB1'.out.frozen j
      simp only [List.getElem_toArray, List.getElem_cons_zero, List.getElem_cons_succ] at k1_3
      have m1 : k + 1 ≤ maxLen := by unfold maxLen; omega
      have m2 : (k + 1) * 8 ≤ 140737488355328 := by omega
      have hz : w.heap.size + 2 ≤ wr.heap.size + 1 := by omega
      have HN := Lib.hid (upCells_next k)
      go_wp2_with (refine wpList_push rfl (.tmp 24) (.tmp 26) 22 rfl (w.heap.size + 2) elemI (by simp [go_sem, Act.eval]) (hown.alloc _) _ 1 1 [.int .i64 (k : Int)] (by simp [go_sem, Act.eval]) (heap_alloc_new _ _) (by simp) (by simp [Value.oneCell']) (by omega) m1 m2 (by simpa using hz) ?_; intro g1 cap1 w1 hown1 hgrow1; have K1 := ((HB1'.out.alloc (.cells #[.int .i64 (k : Int)] 3)).grown hgrow1 (own_ne hown (by omega))); have K0 := ((HB0.out.alloc (.cells #[.int .i64 (k : Int)] 3)).grown hgrow1 (own_ne hown (by omega))); have q3 := K1.cell 3 (by simp); have f3 := fun j => K1.frozen j; simp only [List.getElem_toArray, List.getElem_cons_zero, List.getElem_cons_succ] at q3; have HK1 := Lib.hid K1; have HK0 := Lib.hid K0; have HG := Lib.hid hgrow1; clear K1 K0 hgrow1)
      rw [HN.out] at hown1
      have HO := Lib.hid hown1
      clear hown1
      go_roundw
      case rel => exact ⟨k + 1, by omega, by go_num, _, owns_set HO.out (by omega), Lib.hid (Box.skip (by omega) HK0.out), Lib.hid (HK1.out.set.to (by simp)), Lib.hid (Below.setCell (below_push HB.out HB.out.size (base_le hown (by omega)) _ HG.out) (by dsimp only; omega) _)⟩
      case measure => simp [intOf]; omega
    · obtain rfl : k = n := by omega
      have e1 : ¬ (k : Int) < (k : Int) := by omega
      have HR := Lib.hid (up_row hown)
      have HI := Lib.hid (introw_up hown)
      have HV := Lib.hid (own_form hown)
      clear hown
      have k1_0 := HB1'.out.cell 0 (by simp)
      have k1_1 := HB1'.out.cell 1 (by simp)
      have k1_2 := HB1'.out.cell 2 (by simp)
      have k1_3 := HB1'.out.cell 3 (by simp)
      have fr0 := fun j => HB0.out.frozen j
      simp only [List.getElem_toArray, List.getElem_cons_zero, List.getElem_cons_succ] at k1_0 k1_1 k1_2 k1_3
      obtain ⟨A, N, C, rfl⟩ := HV.out
      have HP0 := HB0
      have HP1 := HB1'
      go_wp2_with (go_at_call 27; refine (HP.out _ _ _ HI.out).mono ?_; rintro e w2 ⟨rfl, hb2⟩; have hz2 := hb2.size; (try simp at hz2); (have hl0 : w.heap.size < w2.heap.size := by omega); (have hl1 : w.heap.size + 1 < w2.heap.size := by omega); (apply with_box hb2 (g := w.heap.size)); (focus (repeat (first | (with_reducible exact HP0.out) | (with_reducible exact HP1.out) | (with_reducible exact HP2.out) | (with_reducible exact HP3.out) | (with_reducible exact HQ0.out) | (with_reducible exact HQ1.out) | (with_reducible exact HQ2.out) | (with_reducible exact HQ3.out) | (with_reducible apply Box.new) | (with_reducible apply Box.newAt; simp; done) | (with_reducible apply Box.set) | (with_reducible apply Box.skip; omega) | (with_reducible apply Box.alloc) | (with_reducible apply Box.drew) | (with_reducible apply Box.row) | (with_reducible apply Box.skipRow; omega)))); intro hx0; (try simp only [List.setIfInBounds_toArray, List.set_cons_zero, List.set_cons_succ] at hx0); have k0_0 := hx0.cell 0 (by simp); have k0_1 := hx0.cell 1 (by simp); have k0_2 := hx0.cell 2 (by simp); have k0_3 := hx0.cell 3 (by simp); have fr0 := fun o => hx0.frozen o; (try simp only [List.getElem_toArray, List.getElem_cons_zero, List.getElem_cons_succ] at k0_0); (try simp only [List.getElem_toArray, List.getElem_cons_zero, List.getElem_cons_succ] at k0_1); (try simp only [List.getElem_toArray, List.getElem_cons_zero, List.getElem_cons_succ] at k0_2); (try simp only [List.getElem_toArray, List.getElem_cons_zero, List.getElem_cons_succ] at k0_3); (apply with_box hb2 (g := w.heap.size + 1)); (focus (repeat (first | (with_reducible exact HP0.out) | (with_reducible exact HP1.out) | (with_reducible exact HP2.out) | (with_reducible exact HP3.out) | (with_reducible exact HQ0.out) | (with_reducible exact HQ1.out) | (with_reducible exact HQ2.out) | (with_reducible exact HQ3.out) | (with_reducible apply Box.new) | (with_reducible apply Box.newAt; simp; done) | (with_reducible apply Box.set) | (with_reducible apply Box.skip; omega) | (with_reducible apply Box.alloc) | (with_reducible apply Box.drew) | (with_reducible apply Box.row) | (with_reducible apply Box.skipRow; omega)))); intro hx1; (try simp only [List.setIfInBounds_toArray, List.set_cons_zero, List.set_cons_succ] at hx1); have k1_0 := hx1.cell 0 (by simp); have k1_1 := hx1.cell 1 (by simp); have k1_2 := hx1.cell 2 (by simp); have k1_3 := hx1.cell 3 (by simp); have fr1 := fun o => hx1.frozen o; (try simp only [List.getElem_toArray, List.getElem_cons_zero, List.getElem_cons_succ] at k1_0); (try simp only [List.getElem_toArray, List.getElem_cons_zero, List.getElem_cons_succ] at k1_1); (try simp only [List.getElem_toArray, List.getElem_cons_zero, List.getElem_cons_succ] at k1_2); (try simp only [List.getElem_toArray, List.getElem_cons_zero, List.getElem_cons_succ] at k1_3); skip; have HP0 := Lib.hid hx0; clear hx0; have HP1 := Lib.hid hx1; clear hx1; have HB2 := Lib.hid hb2; clear hb2)
      apply bodyPost_row_tmp (g := w.heap.size) rfl rfl rfl Try.underlying43 rfl
      focus (repeat (first | (with_reducible exact HP0.out) | (with_reducible exact HP1.out) | (with_reducible exact HP2.out) | (with_reducible exact HP3.out) | (with_reducible exact HQ0.out) | (with_reducible exact HQ1.out) | (with_reducible exact HQ2.out) | (with_reducible exact HQ3.out) | (with_reducible apply Box.new) | (with_reducible apply Box.newAt; simp; done) | (with_reducible apply Box.set) | (with_reducible apply Box.skip; omega) | (with_reducible apply Box.alloc) | (with_reducible apply Box.drew) | (with_reducible apply Box.row) | (with_reducible apply Box.skipRow; omega)))
      focus (kernel_rfl)
      focus (rfl)
      try simp only [List.setIfInBounds_toArray, List.set_cons_zero, List.set_cons_succ]

      refine ⟨_, rfl, ⟨Rng w.heap.size w.heap.size, _, rfl, Row.nil _ _ _ _ _ _, fun k hk => by have := hk.1; have := hk.2; omega⟩, ?_⟩
      repeat (with_reducible refine Below.setCell ?_ (by dsimp only; omega) _)
      exact below_comp HB.out HB2.out


end Go.Proofs.Ythjajgpejfoghab
