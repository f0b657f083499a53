/- The laws' own help on slices of ints that came in: toIntS, szIntS. -/
import Derived.Test.YtogiocinhjbdkaaOwnInts
import Derived.Test.YtogiocinhjbdkaaBoxes
import Derived.Deep.QuietTactic
import Derived.BigQuiet
namespace Go.Proofs.Ytogiocinhjbdkaa
open Go.RowKit
set_option linter.unusedSimpArgs false
set_option linter.unusedVariables false
theorem sz_ints (a : Option Addr) (len cap : Nat) (left : Int) (w : World) (hl : len ≤ 9223372036854775807) (h : 0 ≤ left ∧ left ≤ 4194304) :
    Calls Try.prog 99 #[.slice a len cap, .int .i64 left] w fun e w' => e = .returned (.int .i64 (if left < len then -1 else left - len)) ∧ w = w' := by
  by_cases hlt : left < len
  · rw [if_pos hlt]
    have h1 : left - len < 0 := by omega
    obtain ⟨h0, h2⟩ := h
    go_enter Try.func99, Try.ntmps99
    go_wp2
    go_ret
    exact ⟨rfl, rfl⟩
  · rw [if_neg hlt]
    have h1 : ¬ left - len < 0 := by omega
    obtain ⟨h0, h2⟩ := h
    go_enter Try.func99, Try.ntmps99
    go_wp2
    go_ret
    exact ⟨rfl, rfl⟩
/-- What the elements of a slice that came in read, over calls that leave what was there. -/
def Elts (w : World) (a : Option Addr) (n : Nat) (f : Nat → Int) : Prop := ∀ i, i < n → ∃ x, a = some x ∧ w.cell? (x.add i) = some (.int .i64 (f i)) ∧ x.block < w.heap.size
theorem IsRow.elts {w : World} {a : Option Addr} {len cap : Nat} {zs : List Int} (h : IsRow .i64 w a len cap zs) : Elts w a len (fun j => zs.getD j 0) := by
  rcases h with ⟨rfl, rfl, rfl, rfl⟩ | ⟨x, rfl, h1, h2, h3, h4, h5⟩
  · exact fun i hi => by omega
  · refine fun i hi => ⟨x, rfl, h4 i (by omega), ?_⟩
    have := block_lt_of_cell (h4 i (by omega))
    rw [show (x.add i).block = x.block by unfold Addr.add; split <;> rfl] at this
    exact this
theorem Elts.below {w w' : World} {a : Option Addr} {n : Nat} {f : Nat → Int} (h : Elts w a n f) {B : Nat} (hb : Below B w w') (hB : w.heap.size ≤ B) : Elts w' a n f := by
  refine fun i hi => ?_
  obtain ⟨x, h1, h2, h3⟩ := h i hi
  have hx : (x.add i).block = x.block := by unfold Addr.add; split <;> rfl
  exact ⟨x, h1, (hb.cell (p := x.add i) (by rw [hx]; omega)).trans h2, Nat.lt_of_lt_of_le h3 hb.size⟩
def RowPost (w : World) (n : Nat) (f : Nat → Int) (e : Ending) (w' : World) : Prop := ∃ v, e = .returned v ∧ IntRow w' w.heap.size v n f ∧ Below w.heap.size w w'
set_option maxHeartbeats 2000000 in
set_option maxRecDepth 100000 in
theorem to_ints (a : Option Addr) (n cap : Nat) (f : Nat → Int) (w : World) (hn : n ≤ 4194304) (h : Elts w a n f) :
    Calls Try.prog 43 #[.slice a n cap] w (RowPost w n f) := by
  have H := Lib.hid h
  clear h
  obtain ⟨i0, hi, hz0, hz1, hz2⟩ := info_parts Try.infoI
  go_enter Try.func43, Try.ntmps43
  go_wp2_with (at_make; refine wpList_make_full _ rfl _ _ 48 rfl w.heap.size 3 i0 (.int .i64 0) 1 Try.underlying48 hi hz0 hz1 .i64 .i64 _ _ n rfl rfl rfl rfl (by rw [hz2]; omega) (by unfold maxLen; omega) (Nat.le_refl _) ?_; intro w0 hown0 hgrow0)
  have hb0 : Below w.heap.size w w0 := (Below.refl _ _).grown hgrow0 (Nat.le_refl _) (by intro k hk; cases hk)
  obtain ⟨cur0, hg0, hs0⟩ : ∃ cur, w0.heap[w.heap.size]? = some (.cells cur 3 (0, 0)) ∧ cur.size = n := by
    obtain ⟨_, ⟨h, _⟩ | ⟨g, cap, cur, hv, hb, hg, hc, hm, hs, ht⟩⟩ := hown0
    · cases h
    · cases hv
      exact ⟨cur, hg, by omega⟩
  have Hg0 := Lib.hid hg0
  clear hown0 hgrow0 hg0
  go_loopw [4] (fun i wr => ∃ k : Nat, k ≤ n ∧ i = .int .i64 k ∧ Hid (∃ cs : Array Value, wr.heap[w.heap.size]? = some (.cells cs 3 (0, 0)) ∧ cs.size = n ∧ ∀ j : Nat, j < k → cs[j]? = some (.int .i64 (f j))) ∧ Hid (Below w.heap.size w wr)) (fun i _ => n + 1 - (intOf i).toNat)
  case atStart => exact ⟨0, by omega, rfl, Lib.hid ⟨cur0, Hg0.out, hs0, fun j hj => by omega⟩, Lib.hid hb0⟩
  case round =>
    clear Hg0 hb0
    obtain ⟨k, hk, rfl, HM, HB⟩ := hrel
    by_cases hlt : k < n
    · obtain ⟨cur, hc1, hc2, hc3⟩ := HM.out
      obtain ⟨x, rfl, hx1, hx2⟩ := (H.out.below HB.out (Nat.le_refl _)) k hlt
      obtain ⟨u, d1⟩ : ∃ u, wr.cell? ⟨w.heap.size, k, none⟩ = some u := ⟨cur[k]'(by omega), by rw [cell_of_row wr w.heap.size k cur _ (0, 0) hc1]; exact Array.getElem?_eq_getElem (by omega)⟩
      have d2 : wr.frozen? ⟨w.heap.size, k, none⟩ = false := frozen_of_row wr w.heap.size k cur _ hc1
      have e1 : (k : Int) < (n : Int) := by omega
      have e0 : (0 : Int) ≤ (k : Int) := by omega
      have es := setCell_eq_setRow wr w.heap.size k cur 3 (0, 0) (.int .i64 (f k)) hc1
      have HM2 : Hid (∃ cs : Array Value, (wr.setCell ⟨w.heap.size, k, none⟩ (.int .i64 (f k))).heap[w.heap.size]? = some (.cells cs 3 (0, 0)) ∧ cs.size = n ∧ ∀ j : Nat, j < k + 1 → cs[j]? = some (.int .i64 (f j))) := Lib.hid (by
        rw [es]
        refine ⟨_, setRow_heap wr w.heap.size cur _ _ (0, 0) hc1, by simpa using hc2, fun j hj => ?_⟩
        by_cases e : j = k
        · subst e; simp [Array.getElem?_setIfInBounds, show j < cur.size by omega]
        · rw [Array.getElem?_setIfInBounds_ne (Ne.symm e)]; exact hc3 j (by omega))
      have HB2 : Hid (Below w.heap.size w (wr.setCell ⟨w.heap.size, k, none⟩ (.int .i64 (f k)))) := Lib.hid (by rw [es]; exact below_setRow HB.out (Nat.le_refl _) _)
      clear es hc1 hc2 hc3 hx2
      go_wp2
      go_roundw
      case rel => exact ⟨k + 1, by omega, by go_num, HM2, HB2⟩
      case measure => simp [intOf]; omega
    · obtain rfl : k = n := by omega
      have e1 : ¬ (k : Int) < (k : Int) := by omega
      have HR : Hid (IntRow wr w.heap.size (.slice (some ⟨w.heap.size, 0, none⟩) k k) k f) := Lib.hid (by
        obtain ⟨cs, r1, r2, r3⟩ := HM.out
        rcases Nat.eq_zero_or_pos k with h0 | h0
        · exact .inl ⟨h0, _, _, by rw [h0]⟩
        · exact .inr ⟨h0, _, _, cs, rfl, Nat.le_refl _, (Array.getElem?_eq_some_iff.1 r1).1, r1, ⟨by omega, Nat.le_refl _, by unfold maxLen; omega⟩, r3⟩)
      go_wp2
      exact bodyPost_ret (v := .slice (some ⟨w.heap.size, 0, none⟩) k k) (by simp [results, Try.results43, go_sem]) rfl ⟨_, rfl, HR.out, HB.out⟩
theorem IntRow.set {W : World} {B b j : Nat} {v u : Value} {n : Nat} {f : Nat → Int} (h : IntRow W B v n f) (hb : b < B) : IntRow (W.setCell ⟨b, j, none⟩ u) B v n f := by
  rcases h with h | ⟨h0, g, c, cs, h1, h2, h3, h4, h5, h6⟩
  · exact .inl h
  · exact .inr ⟨h0, g, c, cs, h1, h2, by simpa [World.setCell] using h3, (heap_setCell_other W ⟨b, j, none⟩ g u (by show g ≠ b; omega)).trans h4, h5, h6⟩
/-- A row as the walk reads it: a slice value and its cells. -/
theorem IntRow.open {W : World} {B : Nat} {v : Value} {n : Nat} {f : Nat → Int} (h : IntRow W B v n f) : ∃ (a : Option Addr) (g c : Nat), v = .slice a n c ∧ (0 < n → a = some ⟨g, 0, none⟩) ∧ ∀ j, j < n → W.cell? ⟨g, j, none⟩ = some (.int .i64 (f j)) := by
  rcases h with ⟨rfl, a, c, rfl⟩ | ⟨h0, g, c, cs, rfl, h2, h3, h4, h5, h6⟩
  · exact ⟨a, 0, c, rfl, fun h => by omega, fun j hj => by omega⟩
  · exact ⟨_, g, c, rfl, fun _ => rfl, fun j hj => by rw [cell_of_row W g j cs _ (0, 0) h4]; exact h6 j hj⟩
end Go.Proofs.Ytogiocinhjbdkaa
