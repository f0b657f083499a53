/- The abstract machine, 11: append. -/
import Derived.Test.YtioejbgdhmiiiaaAM10
namespace Go.Proofs.Ytioejbgdhmiiiaa
open Go.RowKit
set_option linter.unusedVariables false
set_option linter.unusedSimpArgs false
namespace AM
section
variable {P : Program} {ρ : Own} {w w0 : World} {h : Heap}
/-- What is appended: n rows of m cells. -/
def SrcR (P : Program) (ρ : Own) (w : World) (m : Nat) (tx : TypeId) (x : Value) (ys : List (List CV)) : Prop :=
  ∃ news, Src P m tx x ys.length news w ∧ (∀ (i : Nat) (row : List CV), ys[i]? = some row → row.length = m) ∧ ∀ (i j : Nat) (row : List CV) (c : CV), ys[i]? = some row → row[j]? = some c → ∃ u, news[i * m + j]? = some u ∧ CR ρ w c u ∧ u.oneCell' = true
theorem src_nil {m : Nat} {tx e : TypeId} (hk : P.underlying tx = some (.slice e)) (a : Option Addr) (c : Nat) : SrcR P ρ w m tx (.slice a 0 c) [] := by
  cases a with
  | none => exact ⟨[], Src.ofNil w hk c, fun i row hi => by simp at hi, fun i j row c hi => by simp at hi⟩
  | some a => exact ⟨[], Src.ofSlice w hk a 0 c [] (by simp) (fun j u hj => by simp at hj) (fun u hu => by cases hu), fun i row hi => by simp at hi, fun i j row c hi => by simp at hi⟩
/-- Rows out of a function of places. -/
theorem src_fun {m n : Nat} {tx e : TypeId} (hk : P.underlying tx = some (.slice e)) (g o c : Nat) (f : Nat → Nat → Value) (ys : List (List CV)) (hl : ys.length = n) (hm : 0 < m) (hrow : ∀ (i : Nat) (row : List CV), ys[i]? = some row → row.length = m)
    (h : ∀ (i j : Nat) (row : List CV) (c : CV), ys[i]? = some row → row[j]? = some c → w.cell? ⟨g, o + (i * m + j), none⟩ = some (f i j) ∧ CR ρ w c (f i j) ∧ (f i j).oneCell' = true) : SrcR P ρ w m tx (.slice (some ⟨g, o, none⟩) n c) ys := by
  subst hl
  have key : ∀ q, q < ys.length * m → w.cell? ⟨g, o + q, none⟩ = some (f (q / m) (q % m)) ∧ (f (q / m) (q % m)).oneCell' = true := fun q hq => by
    have hi : q / m < ys.length := (Nat.div_lt_iff_lt_mul hm).2 hq
    have hj : q % m < m := Nat.mod_lt _ hm
    have h1 := hrow (q / m) ys[q / m] (by simp [hi])
    obtain ⟨h2, _, h3⟩ := h (q / m) (q % m) ys[q / m] (ys[q / m])[q % m] (by simp [hi]) (by simp [h1, hj])
    rw [Nat.div_add_mod'] at h2
    exact ⟨h2, h3⟩
  refine ⟨(List.range (ys.length * m)).map fun q => f (q / m) (q % m), Src.ofSlice w hk ⟨g, o, none⟩ ys.length c _ (by simp) (fun q u hq => ?_) (fun u hu => ?_), hrow, fun i j row x hi hj => ?_⟩
  · have hlt : q < ys.length * m := by have := (List.getElem?_eq_some_iff.1 hq).1; simpa using this
    rw [List.getElem?_map, List.getElem?_range hlt] at hq
    cases hq
    rw [Addr.add_mid]
    exact (key q hlt).1
  · obtain ⟨q, hq, rfl⟩ := List.mem_map.1 hu
    exact (key q (List.mem_range.1 hq)).2
  · have hjm : j < m := by have h1 := hrow i row hi; have := (List.getElem?_eq_some_iff.1 hj).1; omega
    have hil : i < ys.length := (List.getElem?_eq_some_iff.1 hi).1
    have hlt : i * m + j < ys.length * m := by
      have := Nat.mul_le_mul_right m (show i + 1 ≤ ys.length by omega)
      rw [Nat.succ_mul] at this; omega
    obtain ⟨_, h2, h3⟩ := h i j row x hi hj
    refine ⟨f i j, ?_, h2, h3⟩
    rw [List.getElem?_map, List.getElem?_range hlt]
    simp only [Option.map_some]
    rw [Nat.mul_add_mod_of_lt hjm, Nat.mul_comm i m, Nat.mul_add_div hm, Nat.div_eq_of_lt hjm, Nat.add_zero]
theorem src_view {m : Nat} {tx e : TypeId} {x : Value} {rows : List (List PV)} (hm : 0 < m) (hk : P.underlying tx = some (.slice e)) (hx : AR ρ w (one (.p (.view m rows))) x) : SrcR P ρ w m tx x (rows.map (·.map .p)) := by
  obtain ⟨hp, _⟩ := hx
  cases hp with
  | nil m a c => exact src_nil hk a c
  | view m rows g o c f hne hS hc hmm hw ho hr =>
    refine src_fun hk g o c f _ (by simp) hm (fun i row hi => ?_) (fun i j row x hi hj => ?_)
    · rw [List.getElem?_map] at hi
      cases hv : rows[i]? with
      | none => rw [hv] at hi; cases hi
      | some r => rw [hv] at hi; cases hi; simpa using hmm i r hv
    · rw [List.getElem?_map] at hi
      cases hv : rows[i]? with
      | none => rw [hv] at hi; cases hi
      | some r =>
        rw [hv] at hi; cases hi
        rw [List.getElem?_map] at hj
        cases hu : r[j]? with
        | none => rw [hu] at hj; cases hj
        | some y => rw [hu] at hj; cases hj; exact ⟨hw i j r y hv hu, hr i j r y hv hu, ho i j r y hv hu⟩
theorem src_own {m b s n : Nat} {tx e : TypeId} {x : Value} {blk : Blk} (hm : 0 < m) (hG : G h w0 ρ w) (hb : h[b]? = some (some blk)) (hbm : blk.m = m) (hn : s + n ≤ blk.rows.length) (hk : P.underlying tx = some (.slice e)) (hx : AR ρ w (one (.sl m b s n)) x) :
    SrcR P ρ w m tx x ((blk.rows.drop s).take n) := by
  subst hbm
  obtain ⟨hp, _⟩ := hx
  rcases hp with ⟨rfl, a, rfl⟩ | ⟨g, o, c, hρ, rfl, _⟩
  · rw [List.take_zero]; exact src_nil hk a 0
  · obtain ⟨cs, fr, h1, _, _, h2, h3⟩ := hG.held b blk g o hb hρ
    have hat : ∀ (i : Nat) (row : List CV), ((blk.rows.drop s).take n)[i]? = some row → blk.rows[s + i]? = some row := fun i row hi => by
      have hin : i < n := by have := (List.getElem?_eq_some_iff.1 hi).1; simp at this; omega
      rw [List.getElem?_take_of_lt hin, List.getElem?_drop] at hi
      exact hi
    refine src_fun hk g _ c (fun i j => (cs[o + ((s + i) * blk.m + j)]?).getD undef) _ (by simp; omega) hm (fun i row hi => h2 _ row (hat i row hi)) (fun i j row x hi hj => ?_)
    obtain ⟨u, h4, h5, h6⟩ := h3 _ j row x (hat i row hi) hj
    rw [cell_of_row w g _ cs blk.T fr h1, show o + s * blk.m + (i * blk.m + j) = o + ((s + i) * blk.m + j) by rw [Nat.add_mul]; omega, h4]
    exact ⟨rfl, h5, h6⟩
theorem src_string {tx : TypeId} {x : Value} {s : ByteArray} (hk : P.underlying tx = some .string) (hx : x = .string s) : SrcR P ρ w 1 tx x (s.data.toList.map byteRow) := by
  subst hx
  have hl : (s.data.toList.map byteRow).length = s.size := by simp
  refine ⟨byteCells s, by rw [hl]; exact Src.ofString w hk s, fun i row hi => (by
    rw [List.getElem?_map] at hi
    cases hv : s.data.toList[i]? with
    | none => rw [hv] at hi; cases hi
    | some b => rw [hv] at hi; cases hi; rfl), fun i j row c hi hj => ?_⟩
  rw [List.getElem?_map] at hi
  cases hv : s.data.toList[i]? with
  | none => rw [hv] at hi; cases hi
  | some b =>
    rw [hv] at hi; cases hi
    cases j with
    | succ j => simp [byteRow] at hj
    | zero => cases hj; exact ⟨.int .u8 b.toNat, by simp only [byteCells, Nat.mul_one, Nat.add_zero, List.getElem?_map, hv]; rfl, .val _, rfl⟩
/-- What is there no more. -/
def kill (h : Heap) (b : Nat) : Heap := h.set b none
theorem G.kill (hG : G h w0 ρ w) (b : Nat) : G (kill h b) w0 ρ w := by
  have live : ∀ (b₁ : Nat) blk₁, (AM.kill h b)[b₁]? = some (some blk₁) → h[b₁]? = some (some blk₁) ∧ b₁ ≠ b := fun b₁ blk₁ h1 => by
    unfold AM.kill at h1
    rw [List.getElem?_set] at h1
    by_cases e : b = b₁
    · rw [if_pos e] at h1
      split at h1
      · cases h1
      · cases h1
    · rw [if_neg e] at h1; exact ⟨h1, fun x => e x.symm⟩
  exact ⟨hG.below, fun b₁ g o h1 => by simpa [AM.kill] using hG.lo b₁ g o h1, fun b₁ blk g o h1 h2 => hG.held b₁ blk g o (live b₁ blk h1).1 h2, fun b₁ b₂ x y g o o' h1 h2 => hG.inj b₁ b₂ x y g o o' (live b₁ x h1).1 (live b₂ y h2).1, hG.past⟩
theorem kill_len (b : Nat) : (kill h b).length = h.length := by simp [kill]
/-- A number for a block that was there: the dead one's, from another cell on. -/
theorem G.renew (hG : G h w0 ρ w) {w' : World} {b g o o' : Nat} {blk blk' : Blk} (hb : h[b]? = some (some blk)) (hρ : ρ b = some (g, o)) (ha : Adv ρ w ρ w') (hbl : Below w0.heap.size w0 w') (hsame : ∀ k, k ≠ g → w'.heap[k]? = w.heap[k]?)
    (hR : BlkR (ρ.with h.length g o') w' g o' blk') : G (AM.kill h b ++ [some blk']) w0 (ρ.with h.length g o') w' ∧ Adv ρ w (ρ.with h.length g o') w' := by
  have hnone : ρ h.length = none := by
    cases hc : ρ h.length with
    | none => rfl
    | some x => have := (hG.lo _ x.1 x.2 hc).2.2; omega
  have ha' : Adv ρ w (ρ.with h.length g o') w' := by
    refine ⟨ha.os, ha.tape, ha.output, ha.size, ha.blk, ha.row, fun b x hx => ?_, fun b₁ g₁ o₁ hx => ?_, rfl⟩
    · unfold Own.with
      dsimp only
      rw [if_neg (fun e => by subst e; rw [hnone] at hx; cases hx)]
      exact hx
    · unfold Own.with at hx
      dsimp only at hx
      split at hx
      · cases hx; exact .inl ⟨b, o, hρ⟩
      · exact .inl ⟨b₁, o₁, hx⟩
  have live : ∀ (b₁ : Nat) blk₁, (AM.kill h b ++ [some blk'])[b₁]? = some (some blk₁) → (b₁ = h.length ∧ blk₁ = blk') ∨ (b₁ < h.length ∧ b₁ ≠ b ∧ h[b₁]? = some (some blk₁)) := fun b₁ blk₁ h1 => by
    by_cases hlt : b₁ < h.length
    · rw [List.getElem?_append_left (by rw [kill_len]; exact hlt)] at h1
      unfold AM.kill at h1
      rw [List.getElem?_set] at h1
      by_cases e : b = b₁
      · rw [if_pos e] at h1
        split at h1
        · cases h1
        · cases h1
      · rw [if_neg e] at h1; exact .inr ⟨hlt, fun x => e x.symm, h1⟩
    · rw [List.getElem?_append_right (by rw [kill_len]; omega), kill_len] at h1
      have : b₁ - h.length = 0 := by have := (List.getElem?_eq_some_iff.1 h1).1; simp at this; omega
      rw [this] at h1
      cases h1
      exact .inl ⟨by omega, rfl⟩
  have hold : ∀ b₁ x, b₁ < h.length → ρ.with h.length g o' b₁ = some x → ρ b₁ = some x := fun b₁ x hlt hx => by
    unfold Own.with at hx
    dsimp only at hx
    rw [if_neg (by omega)] at hx
    exact hx
  have hglt : g < w'.heap.size := Nat.lt_of_lt_of_le (hG.lo b g o hρ).2.1 ha.size
  refine ⟨⟨hbl, fun b₁ g₁ o₁ hx => ?_, fun b₁ blk₁ g₁ o₁ h1 hx => ?_, fun b₁ b₂ x y g₁ o₁ o₂ h1 h2 h3 h4 => ?_, hG.past⟩, ha'⟩
  · unfold Own.with at hx
    dsimp only at hx
    split at hx
    · rename_i e; cases hx; exact ⟨(hG.lo b g o hρ).1, hglt, by simp [kill_len]; omega⟩
    · obtain ⟨k1, k2, k3⟩ := hG.lo b₁ g₁ o₁ hx; exact ⟨k1, Nat.lt_of_lt_of_le k2 ha.size, by simp [kill_len]; omega⟩
  · rcases live b₁ blk₁ h1 with ⟨rfl, rfl⟩ | ⟨hlt, hne, h3⟩
    · have : (g₁, o₁) = (g, o') := by simpa [Own.with, eq_comm] using hx
      cases this; exact hR
    · have hx' := hold b₁ _ hlt hx
      exact (hG.held b₁ blk₁ g₁ o₁ h3 hx').adv ha' (hsame g₁ (fun e => hne (hG.inj b₁ b blk₁ blk g₁ o₁ o h3 hb hx' (by rw [e]; exact hρ))))
  · rcases live b₁ x h1 with ⟨e1, _⟩ | ⟨l1, n1, k1⟩ <;> rcases live b₂ y h2 with ⟨e2, _⟩ | ⟨l2, n2, k2⟩
    · rw [e1, e2]
    · have e3 : (g₁, o₁) = (g, o') := by rw [e1] at h3; simpa [Own.with, eq_comm] using h3
      cases e3
      exact absurd (hG.inj b₂ b y blk g o₂ o k2 hb (hold b₂ _ l2 h4) hρ) n2
    · have e3 : (g₁, o₂) = (g, o') := by rw [e2] at h4; simpa [Own.with, eq_comm] using h4
      cases e3
      exact absurd (hG.inj b₁ b x blk g o₁ o k1 hb (hold b₁ _ l1 h3) hρ) n1
    · exact hG.inj b₁ b₂ x y g₁ o₁ o₂ k1 k2 (hold b₁ _ l1 h3) (hold b₂ _ l2 h4)
/-- Cells of rows. -/
def RowsC (ρ : Own) (w : World) (m : Nat) (rows : List (List CV)) (cells : List Value) : Prop :=
  cells.length = rows.length * m ∧ ∀ (i j : Nat) (row : List CV) (c : CV), rows[i]? = some row → row[j]? = some c → ∃ u, cells[i * m + j]? = some u ∧ CR ρ w c u ∧ u.oneCell' = true
theorem RowsC.append {m : Nat} {rows ys : List (List CV)} {cells news : List Value} (h1 : RowsC ρ w m rows cells) (h2 : RowsC ρ w m ys news) (hm : ∀ (i : Nat) (row : List CV), rows[i]? = some row → row.length = m) : RowsC ρ w m (rows ++ ys) (cells ++ news) := by
  refine ⟨by rw [List.length_append, List.length_append, h1.1, h2.1, Nat.add_mul], fun i j row c hi hj => ?_⟩
  by_cases hlt : i < rows.length
  · rw [List.getElem?_append_left hlt] at hi
    obtain ⟨u, h3, h4⟩ := h1.2 i j row c hi hj
    exact ⟨u, by rw [List.getElem?_append_left (List.getElem?_eq_some_iff.1 h3).1]; exact h3, h4⟩
  · rw [List.getElem?_append_right (by omega)] at hi
    obtain ⟨u, h3, h4⟩ := h2.2 _ j row c hi hj
    have hge := Nat.mul_le_mul_right m (show rows.length ≤ i by omega)
    refine ⟨u, ?_, h4⟩
    rw [List.getElem?_append_right (by rw [h1.1]; omega), h1.1, ← h3, Nat.sub_mul]
    congr 1; omega
theorem grow_new {m c n : Nat} {e : TypeId} {rows : List (List CV)} {cells : List Value} {extra : Array Value} (hG : G h w0 ρ w) (hn : n = rows.length) (hC : RowsC ρ w m rows cells) (hrow : ∀ (i : Nat) (row : List CV), rows[i]? = some row → row.length = m) (hc : rows.length ≤ c) (hcm : c ≤ maxLen) (hx : extra.size = (c - rows.length) * m) :
    ∃ ρ', G (h ++ [some ⟨e, m, rows⟩]) w0 ρ' (w.drew.alloc (.cells (cells.toArray ++ extra) e)) ∧ Adv ρ w ρ' (w.drew.alloc (.cells (cells.toArray ++ extra) e)) ∧ AR ρ' (w.drew.alloc (.cells (cells.toArray ++ extra) e)) (one (.sl m h.length 0 n)) (.slice (some ⟨w.heap.size, 0, none⟩) n c) := by
  subst hn
  have hnone : ρ h.length = none := by
    cases hc : ρ h.length with
    | none => rfl
    | some x => have := (hG.lo _ x.1 x.2 hc).2.2; omega
  have hb : Below w.heap.size w (w.drew.alloc (.cells (cells.toArray ++ extra) e)) := below_drew.trans (below_new (w := w.drew) _)
  have ha := adv_new (o := 0) hb hnone (Nat.le_refl _)
  have hh : (w.drew.alloc (.cells (cells.toArray ++ extra) e)).heap[w.heap.size]? = some (.cells (cells.toArray ++ extra) e) := heap_alloc_new w.drew _
  have hsz : (cells.toArray ++ extra).size = c * m := by
    rw [Array.size_append, hx]
    simp only [List.size_toArray, hC.1]
    rw [← Nat.add_mul]; congr 1; omega
  have hmul := Nat.mul_le_mul_right m hc
  refine ⟨ρ.with h.length w.heap.size 0, (hG.more [some ⟨e, m, rows⟩]).new (blk := ⟨e, m, rows⟩) hb hnone (by simp) (Nat.le_refl _) (by simp) (by simp) ⟨_, (0, 0), hh, fun j _ hj => by have := hj.2; dsimp only at this; omega, by dsimp only; omega, hrow, fun i j row x hi hj => ?_⟩, ha, ⟨.inr ⟨w.heap.size, 0, c, by simp [Own.with], by rw [Nat.zero_mul], hc, hcm, _, e, (0, 0), hh, by rw [hsz, Nat.zero_add, Nat.zero_add]; exact Nat.le_refl _⟩, rfl⟩⟩
  obtain ⟨u, h1, h2, h3⟩ := hC.2 i j row x hi hj
  refine ⟨u, ?_, h2.adv ha, h3⟩
  rw [Nat.zero_add, Array.getElem?_append_left (by have := (List.getElem?_eq_some_iff.1 h1).1; simpa using this)]
  simpa using h1
theorem size_zeros (z : Value) (n : Nat) : (Builtin.zeroCells z.cells n).size = n * z.cells.size := size_zeroCells _ _
theorem e_append_nil {T tx ty e : TypeId} {m by_ : Nat} {z : List Value} {a : Option Addr} {xv : Value} {ys : List (List CV)} (hG : G h w0 ρ w) (he : elemL P T = some (e, m)) (hz : zeroL P e = some z) (hzm : z.length = m) (hby : bytesL P e = some by_)
    (hs : SrcR P ρ w m tx xv ys) (hb : ys.length * by_ ≤ 140737488355328) (h63 : ys.length ≤ 4611686018427387904) :
    ∃ u w' ρ', (Builtin.append_ #[T, tx] ty #[.slice a 0 0, xv]).run P w = .ok u w' ∧ G (h ++ [some ⟨e, m, ys⟩]) w0 ρ' w' ∧ Adv ρ w ρ' w' ∧ AR ρ' w' (one (.sl m h.length 0 ys.length)) u := by
  obtain ⟨i0, hu, hi, rfl⟩ := elemL_parts he
  obtain ⟨i1, z0, h4, h5, h6, h7⟩ := zeroL_parts hz
  have e1 : i1 = i0 := by rw [hi] at h4; exact (Option.some.inj h4).symm
  subst e1
  have hzs : z0.cells.size = i1.size := by rw [← hzm, ← h6]; simp
  have e2 : i1.bytes = by_ := by unfold bytesL at hby; rw [hi] at hby; exact Option.some.inj hby
  subst e2
  obtain ⟨news, hsrc, hrow, hnews⟩ := hs
  by_cases hy : ys = []
  · subst hy
    have hn0 : news = [] := List.length_eq_zero_iff.1 (by have := hsrc.newsLen; simpa using this)
    subst hn0
    exact ⟨_, w, ρ, run_append_nothing (P := P) w T tx ty e i1 hu hi a 0 0 (Nat.le_refl _) xv hsrc, hG.more _, Adv.refl _ _, ⟨.inl ⟨rfl, a, rfl⟩, rfl⟩⟩
  · have hpos : 0 < ys.length := List.length_pos_iff.2 hy
    have hold : (Builtin.firstCells i1.size 0 (.slice a 0 0)).run P w.drew = .ok ([] : List Value).toArray w.drew := by
      cases a with
      | none => simp [Builtin.firstCells]
      | some a => exact run_firstCells_some (P := P) w.drew i1.size 0 a 0 0 [] (by simp) (fun j v hj => by simp at hj)
    have hrun := run_append_grow_src (P := P) w T tx ty e i1 z0 hu hi h5 a 0 0 [] hold xv ys.length news hsrc (by omega) (by omega) (by rw [Nat.zero_add]; exact growslice_fits hpos hb)
    simp only [Nat.zero_add, List.nil_append] at hrun
    have hge := grownCap_ge w ys.length 0 e
    have hle := grownCap_le_maxLen w ys.length 0 e (by unfold maxLen; omega)
    obtain ⟨ρ', g1, g2, g3⟩ := grow_new (n := ys.length) (e := e) (extra := Builtin.zeroCells z0.cells (grownCap w ys.length 0 e - ys.length)) hG rfl ⟨hsrc.newsLen, hnews⟩ hrow hge hle (by rw [size_zeros, hzs])
    exact ⟨_, _, ρ', hrun, g1, g2, g3⟩
theorem e_append {T tx ty e : TypeId} {m by_ b s n : Nat} {z : List Value} {sv xv : Value} {ys : List (List CV)} {rows : List (List CV)} (hG : G h w0 ρ w) (hb : h[b]? = some (some ⟨e, m, rows⟩)) (hn : s + n ≤ rows.length) (he : elemL P T = some (e, m)) (hz : zeroL P e = some z) (hzm : z.length = m) (hm : 0 < m) (hby : bytesL P e = some by_)
    (hx : AR ρ w (one (.sl m b s n)) sv) (hs : SrcR P ρ w m tx xv ys) (hbn : (n + ys.length) * by_ ≤ 140737488355328) (h63 : n + ys.length ≤ 4611686018427387904) :
    ∃ u w' ρ', (Builtin.append_ #[T, tx] ty #[sv, xv]).run P w = .ok u w' ∧ G (AM.kill h b ++ [some ⟨e, m, (rows.drop s).take n ++ ys⟩]) w0 ρ' w' ∧ Adv ρ w ρ' w' ∧ AR ρ' w' (one (.sl m h.length 0 (n + ys.length))) u := by
  have hx0 := hx
  obtain ⟨hp, _⟩ := hx
  rcases hp with ⟨rfl, a, rfl⟩ | ⟨g, o, c, hρ, rfl, hnc, hcm, cs0, T0, fr0, h50, h60⟩
  · have := e_append_nil (P := P) (ty := ty) (a := a) (hG.kill b) he hz hzm hby hs (by simpa using hbn) (by simpa using h63)
    rw [kill_len] at this
    simpa using this
  obtain ⟨i0, hu, hi, rfl⟩ := elemL_parts he
  obtain ⟨i1, z0, h4, h5, h6, h7⟩ := zeroL_parts hz
  have e1 : i1 = i0 := by rw [hi] at h4; exact (Option.some.inj h4).symm
  subst e1
  have hzs : z0.cells.size = i1.size := by rw [← hzm, ← h6]; simp
  have e2 : i1.bytes = by_ := by unfold bytesL at hby; rw [hi] at hby; exact Option.some.inj hby
  subst e2
  obtain ⟨news, hsrc, hrow, hnews⟩ := hs
  have hblk := hG.held b _ g o hb hρ
  obtain ⟨cs, fr, hg, hfr, hsize, hlen, hcell⟩ := hblk
  dsimp only at hg hsize hlen hcell
  have hold0 : ∀ (i : Nat) (row : List CV), ((rows.drop s).take n)[i]? = some row → rows[s + i]? = some row ∧ i < n := fun i row hi => by
    have hin : i < n := by have := (List.getElem?_eq_some_iff.1 hi).1; simp at this; omega
    rw [List.getElem?_take_of_lt hin, List.getElem?_drop] at hi
    exact ⟨hi, hin⟩
  have holdl : ((rows.drop s).take n).length = n := by simp; omega
  have hrowO : ∀ (i : Nat) (row : List CV), ((rows.drop s).take n)[i]? = some row → row.length = i1.size := fun i row hi => hlen _ row (hold0 i row hi).1
  have hrowA : ∀ (i : Nat) (row : List CV), ((rows.drop s).take n ++ ys)[i]? = some row → row.length = i1.size := fun i row hi => by
    by_cases hlt : i < ((rows.drop s).take n).length
    · rw [List.getElem?_append_left hlt] at hi; exact hrowO i row hi
    · rw [List.getElem?_append_right (by omega)] at hi; exact hrow _ row hi
  by_cases hroom : n + ys.length ≤ c
  · -- room
    have ecs : cs0.size = cs.size := by rw [hg] at h50; cases h50; rfl
    rw [ecs] at h60
    have hnl : news.length = ys.length * i1.size := hsrc.newsLen
    have hcap : o + s * i1.size + n * i1.size + news.length ≤ cs.size := by
      have h8 := Nat.mul_le_mul_right i1.size (show s + (n + ys.length) ≤ s + c by omega)
      rw [Nat.add_mul, Nat.add_mul] at h8
      rw [hnl]; omega
    have hrun := run_append_room_src (P := P) w T tx ty e i1 hu hi g (o + s * i1.size) n c xv ys.length news hsrc hroom
      (fun j hj => by rw [cell_of_row w g _ cs e fr hg]; have : o + s * i1.size + n * i1.size + j < cs.size := by omega
                      simp [this])
      (fun j hj => by
        unfold World.frozen?
        rw [hg]
        have := hfr (o + s * i1.size + n * i1.size + j) (by omega)
        simp only [Bool.and_eq_false_imp, decide_eq_true_eq]
        simpa using fun h1 => Nat.not_lt.1 (fun h2 => this ⟨h1, h2⟩))
    have ha := adv_setCells (ρ := ρ) hρ hg hcap
    obtain ⟨_, _, _, e4, e5, c', e6, e7, e8, e9⟩ := setCells_heap g e fr news (o + s * i1.size + n * i1.size) w cs hg hcap
    have hadvr : ∀ c v, CR ρ w c v → CR (ρ.with h.length g (o + s * i1.size)) (w.setCells g (o + s * i1.size + n * i1.size) news) c v := fun c v hc => by
      refine CR.adv (ρ := ρ) (ρ' := ρ.with h.length g (o + s * i1.size)) (w := w) ⟨ha.os, ha.tape, ha.output, ha.size, ha.blk, ha.row, fun b x hx => ?_, fun b₁ g₁ o₁ hx => ?_, rfl⟩ hc
      · unfold Own.with
        dsimp only
        have : b < h.length := (hG.lo b x.1 x.2 hx).2.2
        rw [if_neg (by omega)]
        exact hx
      · unfold Own.with at hx
        dsimp only at hx
        split at hx
        · cases hx; exact .inl ⟨b, o, hρ⟩
        · exact .inl ⟨b₁, o₁, hx⟩
    have hR : BlkR (ρ.with h.length g (o + s * i1.size)) (w.setCells g (o + s * i1.size + n * i1.size) news) g (o + s * i1.size) ⟨e, i1.size, (rows.drop s).take n ++ ys⟩ := by
      refine ⟨c', fr, e6, by rw [e7]; exact hfr, ?_, hrowA, fun i j row x hi hj => ?_⟩
      · dsimp only
        rw [List.length_append, holdl, e7, Nat.add_mul]
        rw [hnl] at hcap; omega
      · dsimp only at hi ⊢
        have hjm : j < i1.size := by have := hrowA i row hi; have := (List.getElem?_eq_some_iff.1 hj).1; omega
        by_cases hlt : i < n
        · rw [List.getElem?_append_left (by rw [holdl]; exact hlt)] at hi
          obtain ⟨u, h8, h9, h10⟩ := hcell _ j row x (hold0 i row hi).1 hj
          refine ⟨u, ?_, hadvr _ _ h9, h10⟩
          have h11 := Nat.mul_le_mul_right i1.size (show i + 1 ≤ n by omega)
          rw [Nat.succ_mul] at h11
          rw [e9 _ (.inl (by omega)), show o + s * i1.size + (i * i1.size + j) = o + ((s + i) * i1.size + j) by rw [Nat.add_mul]; omega]
          exact h8
        · rw [List.getElem?_append_right (by rw [holdl]; omega), holdl] at hi
          obtain ⟨u, h8, h9, h10⟩ := hnews _ j row x hi hj
          refine ⟨u, ?_, hadvr _ _ h9, h10⟩
          have h11 := (List.getElem?_eq_some_iff.1 h8).1
          have h12 := e8 ((i - n) * i1.size + j) h11
          have h13 := Nat.mul_le_mul_right i1.size (show n ≤ i by omega)
          rw [show o + s * i1.size + (i * i1.size + j) = o + s * i1.size + n * i1.size + ((i - n) * i1.size + j) by rw [Nat.sub_mul]; omega, h12, h8]
    have hgr := hG.renew hb hρ ha (below_setCells hG hρ hg hcap) e5 hR
    refine ⟨_, _, _, hrun, hgr.1, hgr.2, ⟨.inr ⟨g, o + s * i1.size, c, by simp [Own.with], by rw [Nat.zero_mul, Nat.add_zero], hroom, hcm, c', e, fr, e6, ?_⟩, rfl⟩⟩
    rw [e7, Nat.zero_add]
    rw [Nat.add_mul] at h60; omega
  · -- none
    obtain ⟨olds, hso, _, hco⟩ := src_own (P := P) (tx := T) (e := e) hm hG hb rfl hn hu hx0
    rw [holdl] at hso
    have hrun := run_append_grow_src (P := P) w T tx ty e i1 z0 hu hi h5 (some ⟨g, o + s * i1.size, none⟩) n c olds hso.cellsD xv ys.length news hsrc (by omega) (by omega) (growslice_fits (by omega) hbn)
    have hge := grownCap_ge w (n + ys.length) c e
    have hle := grownCap_le_maxLen w (n + ys.length) c e (by unfold maxLen; omega)
    have hlA : ((rows.drop s).take n ++ ys).length = n + ys.length := by rw [List.length_append, holdl]
    have hRC : RowsC ρ w i1.size ((rows.drop s).take n ++ ys) (olds ++ news) := RowsC.append ⟨by rw [hso.newsLen, holdl], hco⟩ ⟨hsrc.newsLen, hnews⟩ hrowO
    obtain ⟨ρ', g1, g2, g3⟩ := grow_new (n := n + ys.length) (e := e) (extra := Builtin.zeroCells z0.cells (grownCap w (n + ys.length) c e - (n + ys.length))) (hG.kill b) hlA.symm hRC hrowA (by rw [hlA]; exact hge) hle (by rw [size_zeros, hzs, hlA])
    rw [kill_len] at g3
    exact ⟨_, _, ρ', hrun, g1, g2, g3⟩
end
end AM
end Go.Proofs.Ytioejbgdhmiiiaa
