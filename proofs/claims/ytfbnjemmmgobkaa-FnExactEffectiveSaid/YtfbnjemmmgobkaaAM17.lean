/- The abstract machine, 10: stores and appends. -/
import Derived.Test.YtfbnjemmmgobkaaAM9
import Derived.Deep.AppendSrc
import Derived.Deep.Upon
import Derived.ScopeJumps
namespace Go.Proofs.Ytfbnjemmmgobkaa
open Go.RowKit
set_option linter.unusedVariables false
set_option linter.unusedSimpArgs false
namespace AM
theorem setCells_heap (g : Nat) (T : TypeId) (fr : Nat × Nat) : ∀ (vs : List Value) (off : Nat) (w : World) (c : Array Value), w.heap[g]? = some (.cells c T fr) → off + vs.length ≤ c.size →
    (w.setCells g off vs).os = w.os ∧ (w.setCells g off vs).tape = w.tape ∧ (w.setCells g off vs).output = w.output ∧ (w.setCells g off vs).heap.size = w.heap.size ∧ (∀ k, k ≠ g → (w.setCells g off vs).heap[k]? = w.heap[k]?) ∧
    ∃ c', (w.setCells g off vs).heap[g]? = some (.cells c' T fr) ∧ c'.size = c.size ∧ (∀ j, j < vs.length → c'[off + j]? = vs[j]?) ∧ ∀ q, q < off ∨ off + vs.length ≤ q → c'[q]? = c[q]?
  | [], off, w, c, h, hl => ⟨rfl, rfl, rfl, rfl, fun _ _ => rfl, c, h, rfl, fun j hj => by simp at hj, fun _ _ => rfl⟩
  | v :: r, off, w, c, h, hl => by
    have hfr : (w.setCell ⟨g, off, none⟩ v).heap[g]? = some (.cells (c.setIfInBounds off v) T fr) := by
      show (w.heap.modify g _)[g]? = _
      rw [Array.getElem?_modify, if_pos rfl, h]
      rfl
    obtain ⟨e1, e2, e3, e4, e5, c', e6, e7, e8, e9⟩ := setCells_heap g T fr r (off + 1) (w.setCell ⟨g, off, none⟩ v) _ hfr (by simp at hl ⊢; omega)
    refine ⟨e1, e2, e3, e4.trans (by simp), fun k hk => (e5 k hk).trans (heap_setCell_other w ⟨g, off, none⟩ k v hk), c', e6, by simpa using e7, fun j hj => ?_, fun q hq => ?_⟩
    · cases j with
      | zero =>
        have := e9 off (.inl (by omega))
        rw [Nat.add_zero, this, Array.getElem?_setIfInBounds_self_of_lt (by simp at hl; omega)]
        rfl
      | succ j =>
        have := e8 j (by simpa using hj)
        rw [show off + (j + 1) = off + 1 + j by omega, this]
        rfl
    · rw [e9 q (by simp at hq; omega), Array.getElem?_setIfInBounds_ne (by simp at hq; omega)]
section
variable {P : Program} {ρ : Own} {w w0 : World} {h : Heap}
/-- Cells of an own block are written. -/
theorem adv_setCells {b g o : Nat} {c : Array Value} {T : TypeId} {fr : Nat × Nat} (hρ : ρ b = some (g, o)) (hg : w.heap[g]? = some (.cells c T fr)) {off : Nat} {vs : List Value} (hl : off + vs.length ≤ c.size) : Adv ρ w ρ (w.setCells g off vs) := by
  obtain ⟨e1, e2, e3, e4, e5, c', e6, e7, e8, e9⟩ := setCells_heap g T fr vs off w c hg hl
  refine ⟨e1, e2, e3, by omega, fun k hk hn => e5 k (fun e => hn b o (by rw [e]; exact hρ)), fun k c1 T1 fr1 hk => ?_, fun _ _ h => h, fun b g o h => .inl ⟨b, o, h⟩, rfl⟩
  by_cases e : k = g
  · subst e
    rw [hg] at hk
    cases hk
    exact ⟨c', fr, e6, e7⟩
  · exact ⟨c1, fr1, (e5 k e).trans hk, rfl⟩
theorem below_setCells (hG : G h w0 ρ w) {b g o : Nat} {c : Array Value} {T : TypeId} {fr : Nat × Nat} (hρ : ρ b = some (g, o)) (hg : w.heap[g]? = some (.cells c T fr)) {off : Nat} {vs : List Value} (hl : off + vs.length ≤ c.size) : Below w0.heap.size w0 (w.setCells g off vs) := by
  obtain ⟨e1, e2, e3, e4, e5, _⟩ := setCells_heap g T fr vs off w c hg hl
  exact hG.below.trans ⟨e1, e2, e3, by omega, fun k hk => e5 k (fun e => by have := (hG.lo b g o hρ).1; omega)⟩
/-- The block b becomes another one; nothing else turns. -/
theorem G.turn (hG : G h w0 ρ w) {w' : World} {b g o : Nat} {blk blk' : Blk} (hb : h[b]? = some (some blk)) (hρ : ρ b = some (g, o)) (ha : Adv ρ w ρ w') (hbl : Below w0.heap.size w0 w') (hsame : ∀ k, k ≠ g → w'.heap[k]? = w.heap[k]?) (hR : BlkR ρ w' g o blk') : G (h.set b (some blk')) w0 ρ w' := by
  have hbl' : b < h.length := (List.getElem?_eq_some_iff.1 hb).1
  have live : ∀ (b₁ : Nat) blk₁, (h.set b (some blk'))[b₁]? = some (some blk₁) → ∃ blk₂, h[b₁]? = some (some blk₂) ∧ (b₁ = b ∧ blk₁ = blk' ∨ b₁ ≠ b ∧ blk₁ = blk₂) := fun b₁ blk₁ h1 => by
    rw [List.getElem?_set] at h1
    by_cases e : b = b₁
    · subst e
      rw [if_pos rfl, if_pos hbl'] at h1
      cases h1
      exact ⟨blk, hb, .inl ⟨rfl, rfl⟩⟩
    · rw [if_neg e] at h1
      exact ⟨blk₁, h1, .inr ⟨fun x => e x.symm, rfl⟩⟩
  refine ⟨hbl, fun b₁ g₁ o₁ h1 => by obtain ⟨h2, h3, h4⟩ := hG.lo b₁ g₁ o₁ h1; exact ⟨h2, Nat.lt_of_lt_of_le h3 ha.size, by simpa using h4⟩, fun b₁ blk₁ g₁ o₁ h1 h2 => ?_, fun b₁ b₂ blk₁ blk₂ g₁ o₁ o₂ h1 h2 h3 h4 => ?_, hG.past⟩
  · obtain ⟨blk₂, h3, ⟨rfl, rfl⟩ | ⟨h4, rfl⟩⟩ := live b₁ blk₁ h1
    · rw [hρ] at h2; cases h2; exact hR
    · exact (hG.held b₁ blk₁ g₁ o₁ h3 h2).adv ha (hsame g₁ (fun e => h4 (hG.inj b₁ b blk₁ blk g₁ o₁ o h3 hb h2 (by rw [e]; exact hρ))))
  · obtain ⟨x1, k1, _⟩ := live b₁ blk₁ h1
    obtain ⟨x2, k2, _⟩ := live b₂ blk₂ h2
    exact hG.inj b₁ b₂ x1 x2 g₁ o₁ o₂ k1 k2 h3 h4
/-! ### Stores -/
theorem over_at : ∀ (l cs : List CV) (off j : Nat), off + l.length ≤ cs.length → (over cs off l)[j]? = if off ≤ j ∧ j < off + l.length then l[j - off]? else cs[j]?
  | [], cs, off, j, _ => by rw [if_neg (by simp only [List.length_nil]; omega)]; rfl
  | c :: r, cs, off, j, h => by
    simp only [over]
    rw [over_at r (cs.set off c) (off + 1) j (by simp at h ⊢; omega)]
    by_cases e : j = off
    · subst e
      rw [if_neg (by omega), if_pos (by simp), Nat.sub_self, List.getElem?_set, if_pos rfl, if_pos (by simp at h; omega)]
      rfl
    · by_cases hin : off + 1 ≤ j ∧ j < off + 1 + r.length
      · rw [if_pos hin, if_pos (by simp; omega), show j - off = (j - (off + 1)) + 1 by omega]
        rfl
      · rw [if_neg hin, if_neg (by simp; omega), List.getElem?_set, if_neg (fun x => e x.symm)]
theorem e_store {T : TypeId} {m b i j k : Nat} {ag : Bool} {blk : Blk} {row cs : List CV} {y : AV} {u v : Value} (hG : G h w0 ρ w) (hb : h[b]? = some (some blk)) (hm : blk.m = m) (hrow : blk.rows[i]? = some row) (hs : sizeL P T = some (k, ag)) (hj : j + k ≤ row.length)
    (hx : AR ρ w (one (.ptr m b i j)) u) (hy : AR ρ w y v) (hc : cellsA y = some cs) (hk : cs.length = k) :
    ∃ w', (Instr.storeAt T u v).run P w = .ok () w' ∧ G (h.set b (some { blk with rows := blk.rows.set i (over row j cs) })) w0 ρ w' ∧ Adv ρ w ρ w' := by
  subst hm; subst hk
  obtain ⟨⟨g, o, hρ, rfl⟩, _⟩ := hx
  obtain ⟨i0, d, hi, hsz, hu, hd⟩ := sizeL_parts hs
  obtain ⟨c, fr, hg, hfr, hsize, hlen, hcell⟩ := hG.held b blk g o hb hρ
  have hC := cellsA_R hy hc
  have hil : i < blk.rows.length := (List.getElem?_eq_some_iff.1 hrow).1
  have hrl := hlen i row hrow
  have hmul := Nat.mul_le_mul_right blk.m (show i + 1 ≤ blk.rows.length by omega)
  rw [Nat.succ_mul] at hmul
  have hfit : o + (i * blk.m + j) + v.cells.toList.length ≤ c.size := by simp [hC.1]; omega
  have hthere : w.there g (o + (i * blk.m + j)) v.cells.size := fun q hq => by
    have hlt : o + (i * blk.m + j) + q < c.size := by simp at hfit; omega
    constructor
    · rw [cell_of_row w g _ c blk.T fr hg]; simp [hlt]
    · unfold World.frozen?
      rw [hg]
      have := hfr _ hlt
      simp only [Bool.and_eq_false_imp, decide_eq_true_eq]
      simpa using fun h1 => Nat.not_lt.1 (fun h2 => this ⟨h1, h2⟩)
  have hone : v.cells.all (·.oneCell') = true := by
    rw [Array.all_eq_true_iff_forall_mem]
    intro x hx
    obtain ⟨q, hq, rfl⟩ := Array.mem_iff_getElem.1 hx
    have hqc : q < cs.length := by rw [← hC.1]; exact hq
    obtain ⟨u, h1, _, h2⟩ := hC.2 q cs[q] (by simp [hqc])
    rw [Array.getElem?_eq_getElem hq] at h1
    rw [Option.some.inj h1]; exact h2
  have hrun : (Instr.storeAt T (.pointer (some ⟨g, o + (i * blk.m + j), none⟩)) v).run P w = .ok () (w.setCells g (o + (i * blk.m + j)) v.cells.toList) := by
    have := run_storeAt_mid (P := P) w g (o + (i * blk.m + j)) T v.cells hthere (by simp [hi, hsz, hC.1]) hone
    have e : (storeVar T ⟨g, o + (i * blk.m + j), none⟩ v) = storeVar T ⟨g, o + (i * blk.m + j), none⟩ (.agg v.cells) := by
      unfold storeVar; rfl
    simp only [Instr.storeAt, Instr.sureAddr, Sem.run_bind, Sem.run_pure, Result.andThen_ok] at this ⊢
    rw [e]; exact this
  have ha := adv_setCells (ρ := ρ) hρ hg hfit
  obtain ⟨_, _, _, _, e5, c', e6, e7, e8, e9⟩ := setCells_heap g blk.T fr v.cells.toList (o + (i * blk.m + j)) w c hg hfit
  refine ⟨_, hrun, hG.turn hb hρ ha (below_setCells hG hρ hg hfit) e5 ⟨c', fr, e6, by rw [e7]; exact hfr, by simp [e7]; exact hsize, fun i' row' hi' => ?_, fun i' j' row' x hi' hj' => ?_⟩, ha⟩
  · dsimp only at hi' ⊢
    rw [List.getElem?_set] at hi'
    by_cases ei : i = i'
    · rw [if_pos ei, if_pos hil] at hi'
      cases hi'; rw [over_len]; exact hrl
    · rw [if_neg ei] at hi'
      exact hlen i' row' hi'
  · dsimp only at hi' ⊢
    rw [List.getElem?_set] at hi'
    by_cases ei : i = i'
    · subst ei
      rw [if_pos rfl, if_pos hil] at hi'
      cases hi'
      rw [over_at cs row j j' (by omega)] at hj'
      by_cases hin : j ≤ j' ∧ j' < j + cs.length
      · rw [if_pos hin] at hj'
        obtain ⟨u, h1, h2, h3⟩ := hC.2 _ x hj'
        refine ⟨u, ?_, h2.adv ha, h3⟩
        have := e8 (j' - j) (by simp [hC.1]; omega)
        rw [show o + (i * blk.m + j) + (j' - j) = o + (i * blk.m + j') by omega] at this
        rw [this]; simpa using h1
      · rw [if_neg hin] at hj'
        obtain ⟨u, h1, h2, h3⟩ := hcell i j' row x hrow hj'
        exact ⟨u, by rw [e9 _ (by simp [hC.1]; omega)]; exact h1, h2.adv ha, h3⟩
    · rw [if_neg ei] at hi'
      obtain ⟨u, h1, h2, h3⟩ := hcell i' j' row' x hi' hj'
      have hj'm : j' < blk.m := by have h4 := hlen i' row' hi'; have := (List.getElem?_eq_some_iff.1 hj').1; omega
      refine ⟨u, ?_, h2.adv ha, h3⟩
      rw [e9 _ ?_]
      · exact h1
      · simp [hC.1]
        rcases Nat.lt_or_gt_of_ne ei with hlt | hgt
        · right
          have := Nat.mul_le_mul_right blk.m (show i + 1 ≤ i' by omega)
          rw [Nat.succ_mul] at this; omega
        · left
          have := Nat.mul_le_mul_right blk.m (show i' + 1 ≤ i by omega)
          rw [Nat.succ_mul] at this; omega
end
end AM
end Go.Proofs.Ytfbnjemmmgobkaa

namespace Go.Proofs.Ytfbnjemmmgobkaa
open Go.RowKit
set_option linter.unusedVariables false
set_option linter.unusedSimpArgs false
namespace AM
section
variable {P : Program} {ρ : Own} {w w0 : World} {h : Heap}
/-- What is appended: n rows of m cells. -/
def SrcR (P : Program) (ρ : Own) (w : World) (m : Nat) (tx : TypeId) (x : Value) (ys : List (List CV)) : Prop :=
  ∃ news, Src P m tx x ys.length news w ∧ (∀ (i : Nat) (row : List CV), ys[i]? = some row → row.length = m) ∧ ∀ (i j : Nat) (row : List CV) (c : CV), ys[i]? = some row → row[j]? = some c → ∃ u, news[i * m + j]? = some u ∧ CR ρ w c u ∧ u.oneCell' = true
theorem src_nil {m : Nat} {tx e : TypeId} (hk : P.underlying tx = some (.slice e)) (a : Option Addr) (c : Nat) : SrcR P ρ w m tx (.slice a 0 c) [] := by
  cases a with
  | none => exact ⟨[], Src.ofNil w hk c, fun i row hi => by simp at hi, fun i j row c hi => by simp at hi⟩
  | some a => exact ⟨[], Src.ofSlice w hk a 0 c [] (by simp) (fun j u hj => by simp at hj) (fun u hu => by cases hu), fun i row hi => by simp at hi, fun i j row c hi => by simp at hi⟩
/-- Rows out of a function of places. -/
theorem src_fun {m n : Nat} {tx e : TypeId} (hk : P.underlying tx = some (.slice e)) (g o c : Nat) (f : Nat → Nat → Value) (ys : List (List CV)) (hl : ys.length = n) (hm : 0 < m) (hrow : ∀ (i : Nat) (row : List CV), ys[i]? = some row → row.length = m)
    (h : ∀ (i j : Nat) (row : List CV) (c : CV), ys[i]? = some row → row[j]? = some c → w.cell? ⟨g, o + (i * m + j), none⟩ = some (f i j) ∧ CR ρ w c (f i j) ∧ (f i j).oneCell' = true) : SrcR P ρ w m tx (.slice (some ⟨g, o, none⟩) n c) ys := by
  subst hl
  have key : ∀ q, q < ys.length * m → w.cell? ⟨g, o + q, none⟩ = some (f (q / m) (q % m)) ∧ (f (q / m) (q % m)).oneCell' = true := fun q hq => by
    have hi : q / m < ys.length := (Nat.div_lt_iff_lt_mul hm).2 hq
    have hj : q % m < m := Nat.mod_lt _ hm
    have h1 := hrow (q / m) ys[q / m] (by simp [hi])
    obtain ⟨h2, _, h3⟩ := h (q / m) (q % m) ys[q / m] (ys[q / m])[q % m] (by simp [hi]) (by simp [h1, hj])
    rw [Nat.div_add_mod'] at h2
    exact ⟨h2, h3⟩
  refine ⟨(List.range (ys.length * m)).map fun q => f (q / m) (q % m), Src.ofSlice w hk ⟨g, o, none⟩ ys.length c _ (by simp) (fun q u hq => ?_) (fun u hu => ?_), hrow, fun i j row x hi hj => ?_⟩
  · have hlt : q < ys.length * m := by have := (List.getElem?_eq_some_iff.1 hq).1; simpa using this
    rw [List.getElem?_map, List.getElem?_range hlt] at hq
    cases hq
    rw [Addr.add_mid]
    exact (key q hlt).1
  · obtain ⟨q, hq, rfl⟩ := List.mem_map.1 hu
    exact (key q (List.mem_range.1 hq)).2
  · have hjm : j < m := by have h1 := hrow i row hi; have := (List.getElem?_eq_some_iff.1 hj).1; omega
    have hil : i < ys.length := (List.getElem?_eq_some_iff.1 hi).1
    have hlt : i * m + j < ys.length * m := by
      have := Nat.mul_le_mul_right m (show i + 1 ≤ ys.length by omega)
      rw [Nat.succ_mul] at this; omega
    obtain ⟨_, h2, h3⟩ := h i j row x hi hj
    refine ⟨f i j, ?_, h2, h3⟩
    rw [List.getElem?_map, List.getElem?_range hlt]
    simp only [Option.map_some]
    rw [Nat.mul_add_mod_of_lt hjm, Nat.mul_comm i m, Nat.mul_add_div hm, Nat.div_eq_of_lt hjm, Nat.add_zero]
theorem src_view {m : Nat} {tx e : TypeId} {x : Value} {rows : List (List PV)} (hm : 0 < m) (hk : P.underlying tx = some (.slice e)) (hx : AR ρ w (one (.p (.view m rows))) x) : SrcR P ρ w m tx x (rows.map (·.map .p)) := by
  obtain ⟨hp, _⟩ := hx
  cases hp with
  | nil m a c => exact src_nil hk a c
  | view m rows g o c f hne hS hc hmm hw ho hr =>
    refine src_fun hk g o c f _ (by simp) hm (fun i row hi => ?_) (fun i j row x hi hj => ?_)
    · rw [List.getElem?_map] at hi
      cases hv : rows[i]? with
      | none => rw [hv] at hi; cases hi
      | some r => rw [hv] at hi; cases hi; simpa using hmm i r hv
    · rw [List.getElem?_map] at hi
      cases hv : rows[i]? with
      | none => rw [hv] at hi; cases hi
      | some r =>
        rw [hv] at hi; cases hi
        rw [List.getElem?_map] at hj
        cases hu : r[j]? with
        | none => rw [hu] at hj; cases hj
        | some y => rw [hu] at hj; cases hj; exact ⟨hw i j r y hv hu, hr i j r y hv hu, ho i j r y hv hu⟩
theorem src_own {m b s n : Nat} {tx e : TypeId} {x : Value} {blk : Blk} (hm : 0 < m) (hG : G h w0 ρ w) (hb : h[b]? = some (some blk)) (hbm : blk.m = m) (hn : s + n ≤ blk.rows.length) (hk : P.underlying tx = some (.slice e)) (hx : AR ρ w (one (.sl m b s n)) x) :
    SrcR P ρ w m tx x ((blk.rows.drop s).take n) := by
  subst hbm
  obtain ⟨hp, _⟩ := hx
  rcases hp with ⟨rfl, a, rfl⟩ | ⟨g, o, c, hρ, rfl, _⟩
  · rw [List.take_zero]; exact src_nil hk a 0
  · obtain ⟨cs, fr, h1, _, _, h2, h3⟩ := hG.held b blk g o hb hρ
    have hat : ∀ (i : Nat) (row : List CV), ((blk.rows.drop s).take n)[i]? = some row → blk.rows[s + i]? = some row := fun i row hi => by
      have hin : i < n := by have := (List.getElem?_eq_some_iff.1 hi).1; simp at this; omega
      rw [List.getElem?_take_of_lt hin, List.getElem?_drop] at hi
      exact hi
    refine src_fun hk g _ c (fun i j => (cs[o + ((s + i) * blk.m + j)]?).getD undef) _ (by simp; omega) hm (fun i row hi => h2 _ row (hat i row hi)) (fun i j row x hi hj => ?_)
    obtain ⟨u, h4, h5, h6⟩ := h3 _ j row x (hat i row hi) hj
    rw [cell_of_row w g _ cs blk.T fr h1, show o + s * blk.m + (i * blk.m + j) = o + ((s + i) * blk.m + j) by rw [Nat.add_mul]; omega, h4]
    exact ⟨rfl, h5, h6⟩
theorem src_string {tx : TypeId} {x : Value} {s : ByteArray} (hk : P.underlying tx = some .string) (hx : x = .string s) : SrcR P ρ w 1 tx x (s.data.toList.map byteRow) := by
  subst hx
  have hl : (s.data.toList.map byteRow).length = s.size := by simp
  refine ⟨byteCells s, by rw [hl]; exact Src.ofString w hk s, fun i row hi => (by
    rw [List.getElem?_map] at hi
    cases hv : s.data.toList[i]? with
    | none => rw [hv] at hi; cases hi
    | some b => rw [hv] at hi; cases hi; rfl), fun i j row c hi hj => ?_⟩
  rw [List.getElem?_map] at hi
  cases hv : s.data.toList[i]? with
  | none => rw [hv] at hi; cases hi
  | some b =>
    rw [hv] at hi; cases hi
    cases j with
    | succ j => simp [byteRow] at hj
    | zero => cases hj; exact ⟨.int .u8 b.toNat, by simp only [byteCells, Nat.mul_one, Nat.add_zero, List.getElem?_map, hv]; rfl, .val _, rfl⟩
/-- What is there no more. -/
def kill (h : Heap) (b : Nat) : Heap := h.set b none
theorem G.kill (hG : G h w0 ρ w) (b : Nat) : G (kill h b) w0 ρ w := by
  have live : ∀ (b₁ : Nat) blk₁, (AM.kill h b)[b₁]? = some (some blk₁) → h[b₁]? = some (some blk₁) ∧ b₁ ≠ b := fun b₁ blk₁ h1 => by
    unfold AM.kill at h1
    rw [List.getElem?_set] at h1
    by_cases e : b = b₁
    · rw [if_pos e] at h1
      split at h1
      · cases h1
      · cases h1
    · rw [if_neg e] at h1; exact ⟨h1, fun x => e x.symm⟩
  exact ⟨hG.below, fun b₁ g o h1 => by simpa [AM.kill] using hG.lo b₁ g o h1, fun b₁ blk g o h1 h2 => hG.held b₁ blk g o (live b₁ blk h1).1 h2, fun b₁ b₂ x y g o o' h1 h2 => hG.inj b₁ b₂ x y g o o' (live b₁ x h1).1 (live b₂ y h2).1, hG.past⟩
theorem kill_len (b : Nat) : (kill h b).length = h.length := by simp [kill]
/-- A number for a block that was there: the dead one's, from another cell on. -/
theorem G.renew (hG : G h w0 ρ w) {w' : World} {b g o o' : Nat} {blk blk' : Blk} (hb : h[b]? = some (some blk)) (hρ : ρ b = some (g, o)) (ha : Adv ρ w ρ w') (hbl : Below w0.heap.size w0 w') (hsame : ∀ k, k ≠ g → w'.heap[k]? = w.heap[k]?)
    (hR : BlkR (ρ.with h.length g o') w' g o' blk') : G (AM.kill h b ++ [some blk']) w0 (ρ.with h.length g o') w' ∧ Adv ρ w (ρ.with h.length g o') w' := by
  have hnone : ρ h.length = none := by
    cases hc : ρ h.length with
    | none => rfl
    | some x => have := (hG.lo _ x.1 x.2 hc).2.2; omega
  have ha' : Adv ρ w (ρ.with h.length g o') w' := by
    refine ⟨ha.os, ha.tape, ha.output, ha.size, ha.blk, ha.row, fun b x hx => ?_, fun b₁ g₁ o₁ hx => ?_, rfl⟩
    · unfold Own.with
      dsimp only
      rw [if_neg (fun e => by subst e; rw [hnone] at hx; cases hx)]
      exact hx
    · unfold Own.with at hx
      dsimp only at hx
      split at hx
      · cases hx; exact .inl ⟨b, o, hρ⟩
      · exact .inl ⟨b₁, o₁, hx⟩
  have live : ∀ (b₁ : Nat) blk₁, (AM.kill h b ++ [some blk'])[b₁]? = some (some blk₁) → (b₁ = h.length ∧ blk₁ = blk') ∨ (b₁ < h.length ∧ b₁ ≠ b ∧ h[b₁]? = some (some blk₁)) := fun b₁ blk₁ h1 => by
    by_cases hlt : b₁ < h.length
    · rw [List.getElem?_append_left (by rw [kill_len]; exact hlt)] at h1
      unfold AM.kill at h1
      rw [List.getElem?_set] at h1
      by_cases e : b = b₁
      · rw [if_pos e] at h1
        split at h1
        · cases h1
        · cases h1
      · rw [if_neg e] at h1; exact .inr ⟨hlt, fun x => e x.symm, h1⟩
    · rw [List.getElem?_append_right (by rw [kill_len]; omega), kill_len] at h1
      have : b₁ - h.length = 0 := by have := (List.getElem?_eq_some_iff.1 h1).1; simp at this; omega
      rw [this] at h1
      cases h1
      exact .inl ⟨by omega, rfl⟩
  have hold : ∀ b₁ x, b₁ < h.length → ρ.with h.length g o' b₁ = some x → ρ b₁ = some x := fun b₁ x hlt hx => by
    unfold Own.with at hx
    dsimp only at hx
    rw [if_neg (by omega)] at hx
    exact hx
  have hglt : g < w'.heap.size := Nat.lt_of_lt_of_le (hG.lo b g o hρ).2.1 ha.size
  refine ⟨⟨hbl, fun b₁ g₁ o₁ hx => ?_, fun b₁ blk₁ g₁ o₁ h1 hx => ?_, fun b₁ b₂ x y g₁ o₁ o₂ h1 h2 h3 h4 => ?_, hG.past⟩, ha'⟩
  · unfold Own.with at hx
    dsimp only at hx
    split at hx
    · rename_i e; cases hx; exact ⟨(hG.lo b g o hρ).1, hglt, by simp [kill_len]; omega⟩
    · obtain ⟨k1, k2, k3⟩ := hG.lo b₁ g₁ o₁ hx; exact ⟨k1, Nat.lt_of_lt_of_le k2 ha.size, by simp [kill_len]; omega⟩
  · rcases live b₁ blk₁ h1 with ⟨rfl, rfl⟩ | ⟨hlt, hne, h3⟩
    · have : (g₁, o₁) = (g, o') := by simpa [Own.with, eq_comm] using hx
      cases this; exact hR
    · have hx' := hold b₁ _ hlt hx
      exact (hG.held b₁ blk₁ g₁ o₁ h3 hx').adv ha' (hsame g₁ (fun e => hne (hG.inj b₁ b blk₁ blk g₁ o₁ o h3 hb hx' (by rw [e]; exact hρ))))
  · rcases live b₁ x h1 with ⟨e1, _⟩ | ⟨l1, n1, k1⟩ <;> rcases live b₂ y h2 with ⟨e2, _⟩ | ⟨l2, n2, k2⟩
    · rw [e1, e2]
    · have e3 : (g₁, o₁) = (g, o') := by rw [e1] at h3; simpa [Own.with, eq_comm] using h3
      cases e3
      exact absurd (hG.inj b₂ b y blk g o₂ o k2 hb (hold b₂ _ l2 h4) hρ) n2
    · have e3 : (g₁, o₂) = (g, o') := by rw [e2] at h4; simpa [Own.with, eq_comm] using h4
      cases e3
      exact absurd (hG.inj b₁ b x blk g o₁ o k1 hb (hold b₁ _ l1 h3) hρ) n1
    · exact hG.inj b₁ b₂ x y g₁ o₁ o₂ k1 k2 (hold b₁ _ l1 h3) (hold b₂ _ l2 h4)
/-- Cells of rows. -/
def RowsC (ρ : Own) (w : World) (m : Nat) (rows : List (List CV)) (cells : List Value) : Prop :=
  cells.length = rows.length * m ∧ ∀ (i j : Nat) (row : List CV) (c : CV), rows[i]? = some row → row[j]? = some c → ∃ u, cells[i * m + j]? = some u ∧ CR ρ w c u ∧ u.oneCell' = true
theorem RowsC.append {m : Nat} {rows ys : List (List CV)} {cells news : List Value} (h1 : RowsC ρ w m rows cells) (h2 : RowsC ρ w m ys news) (hm : ∀ (i : Nat) (row : List CV), rows[i]? = some row → row.length = m) : RowsC ρ w m (rows ++ ys) (cells ++ news) := by
  refine ⟨by rw [List.length_append, List.length_append, h1.1, h2.1, Nat.add_mul], fun i j row c hi hj => ?_⟩
  by_cases hlt : i < rows.length
  · rw [List.getElem?_append_left hlt] at hi
    obtain ⟨u, h3, h4⟩ := h1.2 i j row c hi hj
    exact ⟨u, by rw [List.getElem?_append_left (List.getElem?_eq_some_iff.1 h3).1]; exact h3, h4⟩
  · rw [List.getElem?_append_right (by omega)] at hi
    obtain ⟨u, h3, h4⟩ := h2.2 _ j row c hi hj
    have hge := Nat.mul_le_mul_right m (show rows.length ≤ i by omega)
    refine ⟨u, ?_, h4⟩
    rw [List.getElem?_append_right (by rw [h1.1]; omega), h1.1, ← h3, Nat.sub_mul]
    congr 1; omega
theorem grow_new {m c n : Nat} {e : TypeId} {rows : List (List CV)} {cells : List Value} {extra : Array Value} (hG : G h w0 ρ w) (hn : n = rows.length) (hC : RowsC ρ w m rows cells) (hrow : ∀ (i : Nat) (row : List CV), rows[i]? = some row → row.length = m) (hc : rows.length ≤ c) (hcm : c ≤ maxLen) (hx : extra.size = (c - rows.length) * m) :
    ∃ ρ', G (h ++ [some ⟨e, m, rows⟩]) w0 ρ' (w.drew.alloc (.cells (cells.toArray ++ extra) e)) ∧ Adv ρ w ρ' (w.drew.alloc (.cells (cells.toArray ++ extra) e)) ∧ AR ρ' (w.drew.alloc (.cells (cells.toArray ++ extra) e)) (one (.sl m h.length 0 n)) (.slice (some ⟨w.heap.size, 0, none⟩) n c) := by
  subst hn
  have hnone : ρ h.length = none := by
    cases hc : ρ h.length with
    | none => rfl
    | some x => have := (hG.lo _ x.1 x.2 hc).2.2; omega
  have hb : Below w.heap.size w (w.drew.alloc (.cells (cells.toArray ++ extra) e)) := below_drew.trans (below_new (w := w.drew) _)
  have ha := adv_new (o := 0) hb hnone (Nat.le_refl _)
  have hh : (w.drew.alloc (.cells (cells.toArray ++ extra) e)).heap[w.heap.size]? = some (.cells (cells.toArray ++ extra) e) := heap_alloc_new w.drew _
  have hsz : (cells.toArray ++ extra).size = c * m := by
    rw [Array.size_append, hx]
    simp only [List.size_toArray, hC.1]
    rw [← Nat.add_mul]; congr 1; omega
  have hmul := Nat.mul_le_mul_right m hc
  refine ⟨ρ.with h.length w.heap.size 0, (hG.more [some ⟨e, m, rows⟩]).new (blk := ⟨e, m, rows⟩) hb hnone (by simp) (Nat.le_refl _) (by simp) (by simp) ⟨_, (0, 0), hh, fun j _ hj => by have := hj.2; dsimp only at this; omega, by dsimp only; omega, hrow, fun i j row x hi hj => ?_⟩, ha, ⟨.inr ⟨w.heap.size, 0, c, by simp [Own.with], by rw [Nat.zero_mul], hc, hcm, _, e, (0, 0), hh, by rw [hsz, Nat.zero_add, Nat.zero_add]; exact Nat.le_refl _⟩, rfl⟩⟩
  obtain ⟨u, h1, h2, h3⟩ := hC.2 i j row x hi hj
  refine ⟨u, ?_, h2.adv ha, h3⟩
  rw [Nat.zero_add, Array.getElem?_append_left (by have := (List.getElem?_eq_some_iff.1 h1).1; simpa using this)]
  simpa using h1
theorem size_zeros (z : Value) (n : Nat) : (Builtin.zeroCells z.cells n).size = n * z.cells.size := size_zeroCells _ _
theorem e_append_nil {T tx ty e : TypeId} {m by_ : Nat} {z : List Value} {a : Option Addr} {xv : Value} {ys : List (List CV)} (hG : G h w0 ρ w) (he : elemL P T = some (e, m)) (hz : zeroL P e = some z) (hzm : z.length = m) (hby : bytesL P e = some by_)
    (hs : SrcR P ρ w m tx xv ys) (hb : ys.length * by_ ≤ 140737488355328) (h63 : ys.length ≤ 4611686018427387904) :
    ∃ u w' ρ', (Builtin.append_ #[T, tx] ty #[.slice a 0 0, xv]).run P w = .ok u w' ∧ G (h ++ [some ⟨e, m, ys⟩]) w0 ρ' w' ∧ Adv ρ w ρ' w' ∧ AR ρ' w' (one (.sl m h.length 0 ys.length)) u := by
  obtain ⟨i0, hu, hi, rfl⟩ := elemL_parts he
  obtain ⟨i1, z0, h4, h5, h6, h7⟩ := zeroL_parts hz
  have e1 : i1 = i0 := by rw [hi] at h4; exact (Option.some.inj h4).symm
  subst e1
  have hzs : z0.cells.size = i1.size := by rw [← hzm, ← h6]; simp
  have e2 : i1.bytes = by_ := by unfold bytesL at hby; rw [hi] at hby; exact Option.some.inj hby
  subst e2
  obtain ⟨news, hsrc, hrow, hnews⟩ := hs
  by_cases hy : ys = []
  · subst hy
    have hn0 : news = [] := List.length_eq_zero_iff.1 (by have := hsrc.newsLen; simpa using this)
    subst hn0
    exact ⟨_, w, ρ, run_append_nothing (P := P) w T tx ty e i1 hu hi a 0 0 (Nat.le_refl _) xv hsrc, hG.more _, Adv.refl _ _, ⟨.inl ⟨rfl, a, rfl⟩, rfl⟩⟩
  · have hpos : 0 < ys.length := List.length_pos_iff.2 hy
    have hold : (Builtin.firstCells i1.size 0 (.slice a 0 0)).run P w.drew = .ok ([] : List Value).toArray w.drew := by
      cases a with
      | none => simp [Builtin.firstCells]
      | some a => exact run_firstCells_some (P := P) w.drew i1.size 0 a 0 0 [] (by simp) (fun j v hj => by simp at hj)
    have hrun := run_append_grow_src (P := P) w T tx ty e i1 z0 hu hi h5 a 0 0 [] hold xv ys.length news hsrc (by omega) (by omega) (by rw [Nat.zero_add]; exact growslice_fits hpos hb)
    simp only [Nat.zero_add, List.nil_append] at hrun
    have hge := grownCap_ge w ys.length 0 e
    have hle := grownCap_le_maxLen w ys.length 0 e (by unfold maxLen; omega)
    obtain ⟨ρ', g1, g2, g3⟩ := grow_new (n := ys.length) (e := e) (extra := Builtin.zeroCells z0.cells (grownCap w ys.length 0 e - ys.length)) hG rfl ⟨hsrc.newsLen, hnews⟩ hrow hge hle (by rw [size_zeros, hzs])
    exact ⟨_, _, ρ', hrun, g1, g2, g3⟩
theorem e_append {T tx ty e : TypeId} {m by_ b s n : Nat} {z : List Value} {sv xv : Value} {ys : List (List CV)} {rows : List (List CV)} (hG : G h w0 ρ w) (hb : h[b]? = some (some ⟨e, m, rows⟩)) (hn : s + n ≤ rows.length) (he : elemL P T = some (e, m)) (hz : zeroL P e = some z) (hzm : z.length = m) (hm : 0 < m) (hby : bytesL P e = some by_)
    (hx : AR ρ w (one (.sl m b s n)) sv) (hs : SrcR P ρ w m tx xv ys) (hbn : (n + ys.length) * by_ ≤ 140737488355328) (h63 : n + ys.length ≤ 4611686018427387904) :
    ∃ u w' ρ', (Builtin.append_ #[T, tx] ty #[sv, xv]).run P w = .ok u w' ∧ G (AM.kill h b ++ [some ⟨e, m, (rows.drop s).take n ++ ys⟩]) w0 ρ' w' ∧ Adv ρ w ρ' w' ∧ AR ρ' w' (one (.sl m h.length 0 (n + ys.length))) u := by
  have hx0 := hx
  obtain ⟨hp, _⟩ := hx
  rcases hp with ⟨rfl, a, rfl⟩ | ⟨g, o, c, hρ, rfl, hnc, hcm, cs0, T0, fr0, h50, h60⟩
  · have := e_append_nil (P := P) (ty := ty) (a := a) (hG.kill b) he hz hzm hby hs (by simpa using hbn) (by simpa using h63)
    rw [kill_len] at this
    simpa using this
  obtain ⟨i0, hu, hi, rfl⟩ := elemL_parts he
  obtain ⟨i1, z0, h4, h5, h6, h7⟩ := zeroL_parts hz
  have e1 : i1 = i0 := by rw [hi] at h4; exact (Option.some.inj h4).symm
  subst e1
  have hzs : z0.cells.size = i1.size := by rw [← hzm, ← h6]; simp
  have e2 : i1.bytes = by_ := by unfold bytesL at hby; rw [hi] at hby; exact Option.some.inj hby
  subst e2
  obtain ⟨news, hsrc, hrow, hnews⟩ := hs
  have hblk := hG.held b _ g o hb hρ
  obtain ⟨cs, fr, hg, hfr, hsize, hlen, hcell⟩ := hblk
  dsimp only at hg hsize hlen hcell
  have hold0 : ∀ (i : Nat) (row : List CV), ((rows.drop s).take n)[i]? = some row → rows[s + i]? = some row ∧ i < n := fun i row hi => by
    have hin : i < n := by have := (List.getElem?_eq_some_iff.1 hi).1; simp at this; omega
    rw [List.getElem?_take_of_lt hin, List.getElem?_drop] at hi
    exact ⟨hi, hin⟩
  have holdl : ((rows.drop s).take n).length = n := by simp; omega
  have hrowO : ∀ (i : Nat) (row : List CV), ((rows.drop s).take n)[i]? = some row → row.length = i1.size := fun i row hi => hlen _ row (hold0 i row hi).1
  have hrowA : ∀ (i : Nat) (row : List CV), ((rows.drop s).take n ++ ys)[i]? = some row → row.length = i1.size := fun i row hi => by
    by_cases hlt : i < ((rows.drop s).take n).length
    · rw [List.getElem?_append_left hlt] at hi; exact hrowO i row hi
    · rw [List.getElem?_append_right (by omega)] at hi; exact hrow _ row hi
  by_cases hroom : n + ys.length ≤ c
  · -- room
    have ecs : cs0.size = cs.size := by rw [hg] at h50; cases h50; rfl
    rw [ecs] at h60
    have hnl : news.length = ys.length * i1.size := hsrc.newsLen
    have hcap : o + s * i1.size + n * i1.size + news.length ≤ cs.size := by
      have h8 := Nat.mul_le_mul_right i1.size (show s + (n + ys.length) ≤ s + c by omega)
      rw [Nat.add_mul, Nat.add_mul] at h8
      rw [hnl]; omega
    have hrun := run_append_room_src (P := P) w T tx ty e i1 hu hi g (o + s * i1.size) n c xv ys.length news hsrc hroom
      (fun j hj => by rw [cell_of_row w g _ cs e fr hg]; have : o + s * i1.size + n * i1.size + j < cs.size := by omega
                      simp [this])
      (fun j hj => by
        unfold World.frozen?
        rw [hg]
        have := hfr (o + s * i1.size + n * i1.size + j) (by omega)
        simp only [Bool.and_eq_false_imp, decide_eq_true_eq]
        simpa using fun h1 => Nat.not_lt.1 (fun h2 => this ⟨h1, h2⟩))
    have ha := adv_setCells (ρ := ρ) hρ hg hcap
    obtain ⟨_, _, _, e4, e5, c', e6, e7, e8, e9⟩ := setCells_heap g e fr news (o + s * i1.size + n * i1.size) w cs hg hcap
    have hadvr : ∀ c v, CR ρ w c v → CR (ρ.with h.length g (o + s * i1.size)) (w.setCells g (o + s * i1.size + n * i1.size) news) c v := fun c v hc => by
      refine CR.adv (ρ := ρ) (ρ' := ρ.with h.length g (o + s * i1.size)) (w := w) ⟨ha.os, ha.tape, ha.output, ha.size, ha.blk, ha.row, fun b x hx => ?_, fun b₁ g₁ o₁ hx => ?_, rfl⟩ hc
      · unfold Own.with
        dsimp only
        have : b < h.length := (hG.lo b x.1 x.2 hx).2.2
        rw [if_neg (by omega)]
        exact hx
      · unfold Own.with at hx
        dsimp only at hx
        split at hx
        · cases hx; exact .inl ⟨b, o, hρ⟩
        · exact .inl ⟨b₁, o₁, hx⟩
    have hR : BlkR (ρ.with h.length g (o + s * i1.size)) (w.setCells g (o + s * i1.size + n * i1.size) news) g (o + s * i1.size) ⟨e, i1.size, (rows.drop s).take n ++ ys⟩ := by
      refine ⟨c', fr, e6, by rw [e7]; exact hfr, ?_, hrowA, fun i j row x hi hj => ?_⟩
      · dsimp only
        rw [List.length_append, holdl, e7, Nat.add_mul]
        rw [hnl] at hcap; omega
      · dsimp only at hi ⊢
        have hjm : j < i1.size := by have := hrowA i row hi; have := (List.getElem?_eq_some_iff.1 hj).1; omega
        by_cases hlt : i < n
        · rw [List.getElem?_append_left (by rw [holdl]; exact hlt)] at hi
          obtain ⟨u, h8, h9, h10⟩ := hcell _ j row x (hold0 i row hi).1 hj
          refine ⟨u, ?_, hadvr _ _ h9, h10⟩
          have h11 := Nat.mul_le_mul_right i1.size (show i + 1 ≤ n by omega)
          rw [Nat.succ_mul] at h11
          rw [e9 _ (.inl (by omega)), show o + s * i1.size + (i * i1.size + j) = o + ((s + i) * i1.size + j) by rw [Nat.add_mul]; omega]
          exact h8
        · rw [List.getElem?_append_right (by rw [holdl]; omega), holdl] at hi
          obtain ⟨u, h8, h9, h10⟩ := hnews _ j row x hi hj
          refine ⟨u, ?_, hadvr _ _ h9, h10⟩
          have h11 := (List.getElem?_eq_some_iff.1 h8).1
          have h12 := e8 ((i - n) * i1.size + j) h11
          have h13 := Nat.mul_le_mul_right i1.size (show n ≤ i by omega)
          rw [show o + s * i1.size + (i * i1.size + j) = o + s * i1.size + n * i1.size + ((i - n) * i1.size + j) by rw [Nat.sub_mul]; omega, h12, h8]
    have hgr := hG.renew hb hρ ha (below_setCells hG hρ hg hcap) e5 hR
    refine ⟨_, _, _, hrun, hgr.1, hgr.2, ⟨.inr ⟨g, o + s * i1.size, c, by simp [Own.with], by rw [Nat.zero_mul, Nat.add_zero], hroom, hcm, c', e, fr, e6, ?_⟩, rfl⟩⟩
    rw [e7, Nat.zero_add]
    rw [Nat.add_mul] at h60; omega
  · -- none
    obtain ⟨olds, hso, _, hco⟩ := src_own (P := P) (tx := T) (e := e) hm hG hb rfl hn hu hx0
    rw [holdl] at hso
    have hrun := run_append_grow_src (P := P) w T tx ty e i1 z0 hu hi h5 (some ⟨g, o + s * i1.size, none⟩) n c olds hso.cellsD xv ys.length news hsrc (by omega) (by omega) (growslice_fits (by omega) hbn)
    have hge := grownCap_ge w (n + ys.length) c e
    have hle := grownCap_le_maxLen w (n + ys.length) c e (by unfold maxLen; omega)
    have hlA : ((rows.drop s).take n ++ ys).length = n + ys.length := by rw [List.length_append, holdl]
    have hRC : RowsC ρ w i1.size ((rows.drop s).take n ++ ys) (olds ++ news) := RowsC.append ⟨by rw [hso.newsLen, holdl], hco⟩ ⟨hsrc.newsLen, hnews⟩ hrowO
    obtain ⟨ρ', g1, g2, g3⟩ := grow_new (n := n + ys.length) (e := e) (extra := Builtin.zeroCells z0.cells (grownCap w (n + ys.length) c e - (n + ys.length))) (hG.kill b) hlA.symm hRC hrowA (by rw [hlA]; exact hge) hle (by rw [size_zeros, hzs, hlA])
    rw [kill_len] at g3
    exact ⟨_, _, ρ', hrun, g1, g2, g3⟩
end
end AM
end Go.Proofs.Ytfbnjemmmgobkaa

namespace Go.Proofs.Ytfbnjemmmgobkaa
open Go.RowKit
set_option linter.unusedVariables false
set_option linter.unusedSimpArgs false
namespace AM
def putS (d : Option Tmp) (x : AV) (t : Slots) : Slots := match d with
  | some d => (d, x) :: t
  | none => t
def addB (h : Heap) : Option Blk → Heap
  | some b => h ++ [some b]
  | none => h
def ptrOf : AV → Option (Nat × Nat × Nat × Nat)
  | .a (.one (.ptr m b i j)) => some (m, b, i, j)
  | _ => none
def blkOf (h : Heap) (b : Nat) : Option Blk := (h[b]?).bind id
/-- What is appended. -/
def srcE (P : Program) (h : Heap) (m : Nat) (tx : TypeId) (v : AV) (K : List (List CV) → Prop) : Prop := match v with
  | .a (.one (.p (.view m' rows))) => m' = m ∧ ow (elemL P tx) fun _ => K (rows.map (·.map .p))
  | .a (.one (.sl m' b s n)) => m' = m ∧ (ow (elemL P tx) fun _ => ow (blkOf h b) fun blk => blk.m = m ∧ s + n ≤ blk.rows.length ∧ K ((blk.rows.drop s).take n))
  | .a (.one (.p (.val (.string s)))) => P.underlying tx = some .string ∧ m = 1 ∧ K (s.data.toList.map byteRow)
  | .a (.one (.p (.val (.slice a 0 c)))) => ow (elemL P tx) fun _ => K []
  | .a (.one .nilsl) => ow (elemL P tx) fun _ => K []
  | _ => False
def appE (P : Program) (t : Slots) (h : Heap) (o : Oper) (s x : Operand) (T tx : TypeId) (K : Slots → Heap → Prop) : Prop :=
  ow (evO t s) fun sv => ow (evO t x) fun xv => ow (elemL P T) fun em => ow (zeroL P em.1) fun z => ow (bytesL P em.1) fun by_ => z.length = em.2 ∧ 0 < em.2 ∧ srcE P h em.2 tx xv fun ys => match sv with
    | .a (.one (.sl m b s n)) => m = em.2 ∧ ow (blkOf h b) fun blk => blk.T = em.1 ∧ blk.m = em.2 ∧ s + n ≤ blk.rows.length ∧ (n + ys.length) * by_ ≤ 140737488355328 ∧ n + ys.length ≤ 4611686018427387904 ∧ K (putS o.dst (one (.sl m h.length 0 (n + ys.length))) t) (kill h b ++ [some ⟨em.1, em.2, (blk.rows.drop s).take n ++ ys⟩])
    | .a (.one (.p (.val (.slice a 0 0)))) => ys.length * by_ ≤ 140737488355328 ∧ ys.length ≤ 4611686018427387904 ∧ K (putS o.dst (one (.sl em.2 h.length 0 ys.length)) t) (h ++ [some ⟨em.1, em.2, ys⟩])
    | .a (.one .nilsl) => ys.length * by_ ≤ 140737488355328 ∧ ys.length ≤ 4611686018427387904 ∧ K (putS o.dst (one (.sl em.2 h.length 0 ys.length)) t) (h ++ [some ⟨em.1, em.2, ys⟩])
    | _ => False
def stoE (P : Program) (t : Slots) (h : Heap) (o : Oper) (T : TypeId) (x y : Operand) (K : Slots → Heap → Prop) : Prop :=
  ow (evO t x) fun u => ow (ptrOf u) fun p => ow (evO t y) fun v => ow (cellsA v) fun cs => ow (sizeL P T) fun s => ow (blkOf h p.2.1) fun blk => ow blk.rows[p.2.2.1]? fun row => blk.m = p.1 ∧ cs.length = s.1 ∧ p.2.2.2 + s.1 ≤ row.length ∧ K (putS o.dst .und t) (h.set p.2.1 (some { blk with rows := blk.rows.set p.2.2.1 (over row p.2.2.2 cs) }))
/-- A call that may write own blocks: what is left. -/
def Eff (P : Program) (h : Heap) (f : FuncId) (xs : List AV) (K : AV → Heap → Prop) : Prop :=
  canEnter P f = true ∧ ∀ (w0 w : World) (ρ : Own) (vs : Array Value), G h w0 ρ w → vs.size = xs.length → (∀ (j : Nat) x, xs[j]? = some x → ∃ u, vs[j]? = some u ∧ AR ρ w x u) →
    Calls P f vs w fun e w' => ∃ v x h' ρ', e = .returned v ∧ K x h' ∧ G h' w0 ρ' w' ∧ Adv ρ w ρ' w' ∧ AR ρ' w' x v
/-- A function value. -/
def cloOf : AV → Option (FuncId × List AV)
  | .a (.one (.clo f caps)) => some (f, caps.map fun
    | .ptr m b i j => one (.ptr m b i j)
    | .val x => .a (.one (.p (.val x))))
  | .a (.one (.p (.val (.func (.func f) a b)))) => if a.size = 0 ∧ b.size = 0 then some (f, []) else none
  | _ => none
/-- One operation. -/
def opE (P : Program) (t : Slots) (h : Heap) (o : Oper) (K : Slots → Heap → Prop) : Prop :=
  match o.op with
  | .store T x y => stoE P t h o T x y K
  | .call { callee := .builtin .append, args, argTypes } => match args.toList, argTypes.toList with
    | [s, x], [T, tx] => appE P t h o s x T tx K
    | _, _ => False
  | .call { callee := .value (.func f), args, argTypes } => ow (omap (evO t) args.toList) fun xs => Eff P h f xs fun x h' => K (putS o.dst x t) h'
  | .call { callee := .value (.tmp i), args, argTypes } => ow (get t i) fun c => ow (cloOf c) fun fc => ow (omap (evO t) args.toList) fun xs => Eff P h fc.1 (xs ++ fc.2) fun x h' => K (putS o.dst x t) h'
  | _ => opF P t h h.length o fun x bs => K (putS o.dst x t) (addB h bs)
/-- The operations' guards. -/
def gslot (ops : Array Oper) (j : Nat) : Option Tmp := (ops[j]?).bind (·.dst)
/-- Whether an operation is wanted: Ky if it is, Kn if not. -/
def guardE (ops : Array Oper) (t : Slots) (o : Oper) (Ky Kn : Slots → Prop) : Prop := match o.guard with
  | none => Ky t
  | some (j, b) => ow (gslot ops j) fun d => ow (get t d) fun v => match v with
    | .a (.one (.p (.val (.bool c)))) => (c = b → Ky ((d, V (.bool b)) :: t)) ∧ (c = !b → Kn ((d, V (.bool !b)) :: t))
    | .und => Kn t
    | _ => False
def opsE (P : Program) (ops : Array Oper) (N : Nat) : List Oper → Slots → Heap → (Slots → Heap → Prop) → Prop
  | [], t, h, K => K t h
  | o :: r, t, h, K => (∀ d, o.dst = some d → d < N) ∧ guardE ops t o (fun t' => opE P t' h o fun t'' h'' => opsE P ops N r t'' h'' K) (fun t' => opsE P ops N r (putS o.dst .und t') h K)
/-- What a state says of an activation and a world. -/
structure Rel (t : Slots) (h : Heap) (N : Nat) (w0 : World) (ρ : Own) (a : Act) (w : World) : Prop where
  g : G h w0 ρ w
  slots : ∀ i x, get t i = some x → AR ρ w x (a.tmps.getD i undef)
  size : a.tmps.size = N
  defers : a.defers = []
section
variable {P : Program} {ρ : Own} {w w0 : World} {h : Heap} {t : Slots} {N : Nat} {a : Act}
theorem Rel.evO (hR : Rel t h N w0 ρ a w) (x : Operand) (v : AV) (hv : AM.evO t x = some v) : AR ρ w v (a.eval x) := by
  cases x with
  | tmp i => exact hR.slots i v hv
  | const c => exact ofV_R hv
  | global g => cases hv; exact ⟨.val _, rfl⟩
  | func f => cases hv; exact ⟨.val _, rfl⟩
theorem Rel.fresh (hR : Rel t h N w0 ρ a w) : ρ h.length = none := by
  cases hc : ρ h.length with
  | none => rfl
  | some x => have := (hR.g.lo _ x.1 x.2 hc).2.2; omega
theorem get_putS (d : Option Tmp) (x : AV) (i : Nat) : get (putS d x t) i = if d = some i then some x else get t i := by
  cases d with
  | none => simp [putS]
  | some d =>
    simp only [putS, get, Option.some.injEq]
    by_cases e : i = d
    · rw [if_pos e, if_pos e.symm]
    · rw [if_neg e, if_neg (fun x => e x.symm)]
/-- The state behind an operation. -/
theorem Rel.put (hR : Rel t h N w0 ρ a w) {h' : Heap} {ρ' : Own} {w' : World} {d : Option Tmp} {x : AV} {v : Value} (hd : ∀ k, d = some k → k < N) (hG : G h' w0 ρ' w') (ha : Adv ρ w ρ' w') (hx : AR ρ' w' x v) : Rel (putS d x t) h' N w0 ρ' (a.put d v) w' := by
  refine ⟨hG, fun i y hy => ?_, by rw [size_put]; exact hR.size, by rw [defers_put]; exact hR.defers⟩
  rw [get_putS] at hy
  by_cases e : d = some i
  · rw [if_pos e] at hy
    cases hy
    rw [e, getD_put_same a i v (by rw [hR.size]; exact hd i e)]
    exact hx
  · rw [if_neg e] at hy
    rw [getD_put_ne a d i v e]
    exact (hR.slots i y hy).adv ha
theorem Rel.refine (hR : Rel t h N w0 ρ a w) {d : Nat} {x : AV} (hx : get t d = some x) : Rel ((d, x) :: t) h N w0 ρ a w :=
  ⟨hR.g, fun i y hy => by
    simp only [get] at hy
    split at hy
    · rename_i e; cases hy; subst e; exact hR.slots i x hx
    · exact hR.slots i y hy, hR.size, hR.defers⟩
theorem blkOf_at {b : Nat} {blk : Blk} (hb : blkOf h b = some blk) : h[b]? = some (some blk) := by
  unfold blkOf at hb
  cases hc : h[b]? with
  | none => rw [hc] at hb; cases hb
  | some o => rw [hc] at hb; rw [show o = some blk from hb]
theorem srcE_R (hR : Rel t h N w0 ρ a w) {m : Nat} {tx : TypeId} {xv : AV} {K : List (List CV) → Prop} {x : Value} (hm : 0 < m) (hx : AR ρ w xv x) (hs : srcE P h m tx xv K) : ∃ ys, K ys ∧ SrcR P ρ w m tx x ys := by
  unfold srcE at hs
  split at hs
  · obtain ⟨rfl, em, h1, h2⟩ := hs
    obtain ⟨i0, hu, _, _⟩ := elemL_parts (e := em.1) (k := em.2) h1
    exact ⟨_, h2, src_view hm hu hx⟩
  · obtain ⟨rfl, em, h1, blk, h2, h3, h4, h5⟩ := hs
    obtain ⟨i0, hu, _, _⟩ := elemL_parts (e := em.1) (k := em.2) h1
    exact ⟨_, h5, src_own hm hR.g (blkOf_at h2) h3 h4 hu hx⟩
  · obtain ⟨h1, rfl, h2⟩ := hs
    exact ⟨_, h2, src_string h1 hx.1.val_eq⟩
  · obtain ⟨em, h1, h2⟩ := hs
    obtain ⟨i0, hu, _, _⟩ := elemL_parts (e := em.1) (k := em.2) h1
    have e := hx.1.val_eq
    exact ⟨_, h2, by rw [e]; exact src_nil hu _ _⟩
  · obtain ⟨em, h1, h2⟩ := hs
    obtain ⟨i0, hu, _, _⟩ := elemL_parts (e := em.1) (k := em.2) h1
    obtain ⟨⟨b, rfl⟩, _⟩ := hx
    exact ⟨_, h2, src_nil hu _ _⟩
  · exact hs.elim
theorem AR_und : AR ρ w .und undef := rfl
theorem stoE_sound (hR : Rel t h N w0 ρ a w) {o : Oper} (hd : ∀ k, o.dst = some k → k < N) {T : TypeId} {x y : Operand} (ho : o.op = .store T x y) {K : Slots → Heap → Prop} {Q : Exit → Act → World → Prop} (hE : stoE P t h o T x y K) :
    o.wp P a w (fun a' w' => ∃ t' h' ρ', K t' h' ∧ Rel t' h' N w0 ρ' a' w' ∧ Adv ρ w ρ' w') Q := by
  obtain ⟨u, h1, ⟨m, b, i, j⟩, h2, v, h3, cs, h4, ⟨k, ag⟩, h5, blk, h6, row, h7, h8, h9, h10, h11⟩ := hE
  have hp : u = one (.ptr m b i j) := by unfold ptrOf at h2; split at h2 <;> cases h2; rfl
  subst hp
  obtain ⟨w', hrun, hG', ha⟩ := e_store hR.g (blkOf_at h6) h8 h7 h5 h10 (hR.evO x _ h1) (hR.evO y v h3) h4 h9
  unfold Oper.wp execOp
  simp only [ho, Sem.run_bind, hrun, Result.andThen_ok, Sem.run_pure]
  exact ⟨_, _, ρ, h11, hR.put hd hG' ha AR_und, ha⟩
theorem appE_sound (hR : Rel t h N w0 ρ a w) {o : Oper} (hd : ∀ k, o.dst = some k → k < N) {T tx : TypeId} {s x : Operand} (ho : o.op = .call { callee := .builtin .append, args := #[s, x], argTypes := #[T, tx] }) {K : Slots → Heap → Prop} {Q : Exit → Act → World → Prop} (hE : appE P t h o s x T tx K) :
    o.wp P a w (fun a' w' => ∃ t' h' ρ', K t' h' ∧ Rel t' h' N w0 ρ' a' w' ∧ Adv ρ w ρ' w') Q := by
  obtain ⟨sv, h1, xv, h2, ⟨e, m⟩, h3, z, h4, by_, h5, h6, h7, h8⟩ := hE
  obtain ⟨ys, h9, hsrc⟩ := srcE_R hR h7 (hR.evO x xv h2) h8
  have key : ∃ u w' ρ' x' h', (Builtin.append_ #[T, tx] o.type #[a.eval s, a.eval x]).run P w = .ok u w' ∧ K (putS o.dst x' t) h' ∧ G h' w0 ρ' w' ∧ Adv ρ w ρ' w' ∧ AR ρ' w' x' u := by
    have hsx := hR.evO s sv h1
    dsimp only at h9
    split at h9
    · obtain ⟨rfl, blk, h10, h11, h12, h13, h14, h15, h16⟩ := h9
      obtain ⟨T', m', rows⟩ := blk
      dsimp only at h11 h12 h13 h16
      subst h11; subst h12
      obtain ⟨u, w', ρ', r1, r2, r3, r4⟩ := e_append (P := P) (T := T) (ty := o.type) hR.g (blkOf_at h10) h13 h3 h4 h6 h7 h5 hsx hsrc h14 h15
      exact ⟨u, w', ρ', _, _, r1, h16, r2, r3, r4⟩
    · obtain ⟨h10, h11, h12⟩ := h9
      have e1 := hsx.1.val_eq
      obtain ⟨u, w', ρ', r1, r2, r3, r4⟩ := e_append_nil (P := P) (T := T) (ty := o.type) hR.g h3 h4 h6 h5 hsrc h10 h11
      exact ⟨u, w', ρ', _, _, by rw [e1]; exact r1, h12, r2, r3, r4⟩
    · obtain ⟨h10, h11, h12⟩ := h9
      obtain ⟨⟨b, e1⟩, _⟩ := hsx
      obtain ⟨u, w', ρ', r1, r2, r3, r4⟩ := e_append_nil (P := P) (T := T) (ty := o.type) hR.g h3 h4 h6 h5 hsrc h10 h11
      exact ⟨u, w', ρ', _, _, by rw [e1]; exact r1, h12, r2, r3, r4⟩
    · exact h9.elim
  obtain ⟨u, w', ρ', x', h', r1, r2, r3, r4, r5⟩ := key
  exact wp_of_run (by unfold execOp; simp only [ho, resolve, invoke, builtin, Sem.run_bind, Sem.run_pure, Result.andThen_ok, List.map_toArray, List.map_cons, List.map_nil, r1]) ⟨_, h', ρ', r2, hR.put hd r3 r4 r5, r4⟩
theorem opE_sound (hR : Rel t h N w0 ρ a w) {o : Oper} (hd : ∀ k, o.dst = some k → k < N) {K : Slots → Heap → Prop} {Q : Exit → Act → World → Prop} (hE : opE P t h o K) :
    o.wp P a w (fun a' w' => ∃ t' h' ρ', K t' h' ∧ Rel t' h' N w0 ρ' a' w' ∧ Adv ρ w ρ' w') Q := by
  unfold opE at hE
  split at hE
  · rename_i T x y ho; exact stoE_sound hR hd ho hE
  · rename_i args argTypes ho
    split at hE
    · rename_i s x T tx ha ht
      have ea : args = #[s, x] := by apply Array.ext'; simpa using ha
      have et : argTypes = #[T, tx] := by apply Array.ext'; simpa using ht
      subst ea; subst et
      exact appE_sound hR hd ho hE
    · exact hE.elim
  · rename_i f args argTypes ho
    obtain ⟨xs, h1, h2, h3⟩ := hE
    obtain ⟨e1, e2, e3⟩ := omap_at h1
    have hcall := h3 w0 w ρ (args.map a.eval) hR.g (by simp [e1]) (fun j x hj => by
      obtain ⟨y, h4, h5⟩ := e2 j x hj
      have h4' : args[j]? = some y := by simpa using h4
      exact ⟨a.eval y, by simp [h4'], hR.evO y x h5⟩)
    have hrun : (execOp a.eval o).run P w = .ok (.enter f (args.map a.eval)) w := by
      unfold execOp
      simp only [ho, resolve, Act.eval, Deferred.ofValue, invoke, Sem.run_bind, Sem.run_pure, Result.andThen_ok, Array.empty_append, Array.append_empty, run_enter h2]
    unfold Oper.wp
    rw [hrun, Oper.upon_enter]
    refine hcall.mono ?_
    rintro e w' ⟨v, x, h', ρ', rfl, k, hG', ha, hx⟩
    exact ⟨_, h', ρ', k, hR.put hd hG' ha hx, ha⟩
  · rename_i i args argTypes ho
    obtain ⟨c, hc, ⟨f, cs⟩, hcl, xs, h1, h2, h3⟩ := hE
    obtain ⟨e1, e2, e3⟩ := omap_at h1
    have hcv : AR ρ w c (a.eval (.tmp i)) := hR.slots i c hc
    obtain ⟨vs, hv1, hv2, hv3⟩ : ∃ vs : Array Value, a.eval (.tmp i) = .func (.func f) #[] vs ∧ vs.size = cs.length ∧ ∀ (j : Nat) x, cs[j]? = some x → ∃ u, vs[j]? = some u ∧ AR ρ w x u := by
      unfold cloOf at hcl
      split at hcl
      · cases hcl
        obtain ⟨⟨vs, k1, k2, k3⟩, _⟩ := hcv
        refine ⟨vs, k1, by simpa using k2, fun j x hj => ?_⟩
        rw [List.getElem?_map, Option.map_eq_some_iff] at hj
        obtain ⟨cp, hj, rfl⟩ := hj
        obtain ⟨u, k4, k5⟩ := k3 j cp hj
        refine ⟨u, k4, ?_⟩
        cases cp with
        | ptr m b i j => obtain ⟨g, o, k6, k7⟩ := k5; exact ⟨⟨g, o, k6, k7⟩, by rw [k7]; rfl⟩
        | val x => obtain ⟨k5, k6⟩ := k5; subst k5; exact ⟨.val _, k6⟩
      · rename_i f' a' b'
        split at hcl
        · rename_i hab
          cases hcl
          have ha0 : a' = #[] := Array.eq_empty_of_size_eq_zero hab.1
          have hb0 : b' = #[] := Array.eq_empty_of_size_eq_zero hab.2
          subst ha0; subst hb0
          exact ⟨#[], hcv.1.val_eq, rfl, fun j x hj => by simp at hj⟩
        · cases hcl
      · cases hcl
    have hcall := h3 w0 w ρ (args.map a.eval ++ vs) hR.g (by simp [e1, hv2]) (fun j x hj => by
      by_cases hlt : j < xs.length
      · rw [List.getElem?_append_left hlt] at hj
        obtain ⟨y, h4, h5⟩ := e2 j x hj
        have h4' : args[j]? = some y := by simpa using h4
        have hja : j < (args.map a.eval).size := by have := (Array.getElem?_eq_some_iff.1 h4').1; simpa using this
        exact ⟨a.eval y, by rw [Array.getElem?_append_left hja]; simp [h4'], hR.evO y x h5⟩
      · rw [List.getElem?_append_right (by omega)] at hj
        obtain ⟨u, h4, h5⟩ := hv3 _ x hj
        refine ⟨u, ?_, h5⟩
        have hsz : (args.map a.eval).size = xs.length := by simp [e1]
        rw [Array.getElem?_append_right (by omega), hsz]
        exact h4)
    have hrun : (execOp a.eval o).run P w = .ok (.enter f (args.map a.eval ++ vs)) w := by
      unfold execOp
      simp only [ho, resolve, hv1, Deferred.ofValue, invoke, Sem.run_bind, Sem.run_pure, Result.andThen_ok, Array.empty_append, run_enter h2]
    unfold Oper.wp
    rw [hrun, Oper.upon_enter]
    refine hcall.mono ?_
    rintro e w' ⟨v, x, h', ρ', rfl, k, hG', ha, hx⟩
    exact ⟨_, h', ρ', k, hR.put hd hG' ha hx, ha⟩
  · refine Oper.wp_mono ?_ (opF_sound hR.g (fun b blk hb => hb) hR.fresh (fun x _ v hv => hR.evO x v hv) hE)
    rintro a' w' ⟨v, rfl, x, bs, ρ', k, hb, hx, hbs⟩
    cases bs with
    | none =>
      dsimp only at hbs
      subst hbs
      have ha : Adv ρ' w ρ' w' := .of_below hb
      exact ⟨_, _, ρ', k, hR.put hd (hR.g.pass hb) ha hx, ha⟩
    | some blk =>
      obtain ⟨g, rfl, hg1, hg2, hblk⟩ := hbs
      have ha := adv_new (o := 0) hb hR.fresh hg1
      have hG' := (hR.g.more [some blk]).new hb hR.fresh (by simp) hg1 hg2 (by simp) hblk
      exact ⟨_, _, _, k, hR.put hd hG' ha hx, ha⟩
theorem guardE_sound (hR : Rel t h N w0 ρ a w) {ops : Array Oper} {o : Oper} {Ky Kn : Slots → Prop} (hg : guardE ops t o Ky Kn) :
    (∃ t', Region.wanted o (yielded ops a.tmps) = true ∧ Ky t' ∧ Rel t' h N w0 ρ a w) ∨ (∃ t', Region.wanted o (yielded ops a.tmps) = false ∧ Kn t' ∧ Rel t' h N w0 ρ a w) := by
  unfold guardE at hg
  split at hg
  · rename_i hn
    exact .inl ⟨t, by unfold Region.wanted; rw [hn], hg, hR⟩
  · rename_i j b hn
    obtain ⟨d, h1, v, h2, h3⟩ := hg
    have hv := hR.slots d v h2
    split at h3
    · rename_i c
      have e := hv.1.val_eq
      have hw := wanted_sym (a := a) hn h1 e
      by_cases hc : c = b
      · subst hc
        exact .inl ⟨_, by rw [hw]; simp, h3.1 rfl, hR.refine h2⟩
      · have hc' : c = !b := by cases c <;> cases b <;> simp_all
        subst hc'
        exact .inr ⟨_, by rw [hw]; cases b <;> rfl, h3.2 rfl, hR.refine h2⟩
    · exact .inr ⟨t, wanted_undef hn h1 hv, h3, hR⟩
    · exact h3.elim
theorem opsE_sound {ops : Array Oper} {Q : Exit → Act → World → Prop} {K : Slots → Heap → Prop} : ∀ (l : List Oper) (k : Nat) (t : Slots) (h : Heap) (ρ : Own) (a : Act) (w : World), (∀ i o, l[i]? = some o → ops[k + i]? = some o) → Rel t h N w0 ρ a w → opsE P ops N l t h K →
    (∀ t' h' ρ' a' w', K t' h' → Rel t' h' N w0 ρ' a' w' → Adv ρ w ρ' w' → Q .normal a' w') → wpOps P ops Q (List.range' k l.length) a w
  | [], k, t, h, ρ, a, w, _, hR, hE, hQ => hQ t h ρ a w hE hR (Adv.refl _ _)
  | o :: r, k, t, h, ρ, a, w, hl, hR, hE, hQ => by
    obtain ⟨hd, hE⟩ := hE
    have ho : ops[k]? = some o := by simpa using hl 0 o rfl
    rw [List.length_cons, List.range'_succ]
    simp only [wpOps, ho]
    have hr : ∀ i o', r[i]? = some o' → ops[k + 1 + i]? = some o' := fun i o' hi => by rw [show k + 1 + i = k + (i + 1) by omega]; exact hl (i + 1) o' hi
    rcases guardE_sound hR hE with ⟨t', hw, hK, hR'⟩ | ⟨t', hw, hK, hR'⟩
    · rw [if_pos hw]
      refine .inl (Oper.wp_mono ?_ (opE_sound hR' hd hK))
      rintro a' w' ⟨t'', h'', ρ', hK', hR'', ha⟩
      exact opsE_sound r (k + 1) t'' h'' ρ' a' w' hr hR'' hK' (fun t3 h3 ρ3 a3 w3 k3 r3 a3' => hQ t3 h3 ρ3 a3 w3 k3 r3 (ha.trans a3'))
    · rw [if_neg (by rw [hw]; simp)]
      exact opsE_sound r (k + 1) _ h ρ _ w hr (hR'.put hd hR'.g (Adv.refl _ _) AR_und) hK hQ
end
end AM
end Go.Proofs.Ytfbnjemmmgobkaa

namespace Go.Proofs.Ytfbnjemmmgobkaa
open Go.RowKit
set_option linter.unusedVariables false
set_option linter.unusedSimpArgs false
namespace AM
section
variable {P : Program}
/-- Every number waits for smaller ones alone, as far as the drawn order heeds it. -/
def inOrderA (ops : Array Oper) : Bool := (List.range ops.size).all fun i => match ops[i]? with | some o => o.after.toList.all fun e => !Region.binds .any e || decide (e.on < i) | none => true
/-- A region whose order is drawn, by one statement of what stands when the numbers of 'listed' have come up. -/
theorem wpAny_joint {ops : Array Oper} {Q : Exit → Act → World → Prop} {J : Array Bool → Act → World → Prop} (hord : inOrderA ops = true)
    (hop : ∀ (listed : Array Bool) (i : Nat) (o : Oper) (a : Act) (w : World), listed.size = ops.size → (∀ j i, listed.getD j false = true → waitsFor ops j i = true → listed.getD i false = true) → J listed a w → ops[i]? = some o → listed.getD i false = false →
      (∀ j, waitsFor ops i j = true → listed.getD j false = true) → wpOp P ops Q i (J (listed.setIfInBounds i true)) a w)
    (hend : ∀ (listed : Array Bool) (a : Act) (w : World), listed.size = ops.size → (∀ j, j < ops.size → listed.getD j false = true) → J listed a w → Q .normal a w) :
    ∀ (fuel : Nat) (listed : Array Bool) (a : Act) (w : World), listed.toList.count false ≤ fuel → listed.size = ops.size → (∀ j i, listed.getD j false = true → waitsFor ops j i = true → listed.getD i false = true) → J listed a w → wpAny P .any ops Q fuel listed a w := by
  have hall : ∀ listed : Array Bool, listed.size = ops.size → Region.ready .any ops listed = [] → ∀ j, j < ops.size → listed.getD j false = true := by
    intro listed hl hr j
    induction j using Nat.strongRecOn with
    | _ j ih =>
      intro hj
      rcases hb : listed.getD j false with _ | _
      · exfalso
        have ho : ops[j]? = some ops[j] := Array.getElem?_eq_getElem hj
        have hm : j ∈ Region.ready .any ops listed := by
          refine mem_ready.2 ⟨?_, ops[j], ho, fun e he hbd => ?_⟩
          · have : j < listed.size := by omega
            simpa [Array.getD, this] using hb
          · have h1 := List.all_eq_true.1 hord j (List.mem_range.2 hj)
            simp only [ho] at h1
            have h2 := List.all_eq_true.1 h1 e (by simpa using he)
            have h3 : e.on < j := by rw [hbd] at h2; simpa using h2
            exact ih e.on h3 (by omega)
        rw [hr] at hm
        cases hm
      · rfl
  intro fuel
  induction fuel with
  | zero =>
    intro listed a w hc hs hcl hJ
    have hr : Region.ready .any ops listed = [] := by
      refine List.eq_nil_iff_forall_not_mem.2 fun j hj => ?_
      obtain ⟨h1, oj, hoj, _⟩ := mem_ready.1 hj
      have hjl : j < listed.size := by
        rw [hs]
        exact (Array.getElem?_eq_some_iff.1 hoj).1
      have h2 : listed[j] = false := by simpa [Array.getD, hjl] using h1
      have h3 : false ∈ listed.toList := by rw [← h2]; simp
      have := List.count_pos_iff.2 h3
      omega
    exact ⟨hr, hend listed a w hs (hall listed hs hr) hJ⟩
  | succ fuel ih =>
    intro listed a w hc hs hcl hJ
    refine ⟨fun hr => hend listed a w hs (hall listed hs hr) hJ, fun i hi => ?_⟩
    obtain ⟨h1, o, ho, hdep⟩ := mem_ready.1 hi
    have hil : i < ops.size := (Array.getElem?_eq_some_iff.1 ho).1
    have hil' : i < listed.size := by rw [hs]; exact hil
    have h1' : listed.getD i false = false := by simpa [Array.getD, hil'] using h1
    have hdeps : ∀ j, waitsFor ops i j = true → listed.getD j false = true := fun j hj => by
      simp only [waitsFor, ho, List.any_eq_true] at hj
      obtain ⟨e, he, hbe⟩ := hj
      simp only [Bool.and_eq_true, beq_iff_eq] at hbe
      rw [← hbe.2]; exact hdep e (by simpa using he) hbe.1
    refine wpOp_mono (fun a' w' hJ' => ih _ a' w' ?_ (by simpa using hs) (fun j m hj hwt => ?_) hJ') (hop listed i o a w hs hcl hJ ho h1' hdeps)
    · have h2 : listed[i] = false := by simpa [Array.getD, hil'] using h1
      have h3 : false ∈ listed.toList := by rw [← h2]; simp
      have h4 := List.count_pos_iff.2 h3
      have h5 : (listed.setIfInBounds i true).toList.count false = listed.toList.count false - 1 := by
        rw [Array.toList_setIfInBounds, List.count_set (by simpa using hil')]
        simp only [Array.getElem_toList, h2]
        rfl
      omega
    · rw [getD_set _ _ _ hil'] at hj ⊢
      by_cases e : j = i
      · subst e
        rw [hdeps m hwt, Bool.or_true]
      · have : listed.getD j false = true := by simpa [e] using hj
        rw [hcl j m this hwt, Bool.or_true]
/-! ### What an operation yields is one -/
theorem pk_choice {α : Type} : ∀ (s : Sem α) (K : α → Prop), pk P s K → ∃ v, K v ∧ pk P s (· = v)
  | .pure a, K, h => ⟨a, h, rfl⟩
  | .program k, K, h => pk_choice (k P) K h
  | .mark _ k, K, h => pk_choice k K h
abbrev Is (x : AV) (bs : Option Blk) (y : AV) (c : Option Blk) : Prop := y = x ∧ c = bs
theorem litF_choice {t : Slots} {o : Oper} {K : AV → Option Blk → Prop} (h : litF P t o K) : ∃ x bs, K x bs ∧ litF P t o (Is x bs) := by
  obtain ⟨h1, h2, h3⟩ := h
  obtain ⟨nx, h4, h5⟩ := pk_choice _ _ h3
  cases nx with
  | value v =>
    obtain ⟨x, h6, h7⟩ := h4
    refine ⟨x, none, h7, h1, h2, ?_⟩
    have mono : ∀ {α : Type} (s : Sem α) (K K' : α → Prop), (∀ v, K v → K' v) → pk P s K → pk P s K' := fun s K K' hk => by
      intro hp
      induction s with
      | pure a => exact hk a hp
      | program k ih => exact ih P hp
      | mark m k ih => exact ih hp
      | _ => exact hp.elim
    exact mono _ _ _ (fun nx e => by subst e; exact ⟨x, h6, rfl, rfl⟩) h5
  | _ => exact h4.elim
theorem opF_choice {t : Slots} {h : Heap} {n : Nat} {o : Oper} {K : AV → Option Blk → Prop} (hF : opF P t h n o K) : ∃ x bs, K x bs ∧ opF P t h n o (Is x bs) := by
  unfold opF at hF
  split at hF
  · rename_i x ho
    obtain ⟨v, h1, h2⟩ := hF
    exact ⟨_, _, h2, by unfold opF; rw [ho]; exact ⟨v, h1, rfl, rfl⟩⟩
  · rename_i x ho
    obtain ⟨v, h1, h2⟩ := hF
    exact ⟨_, _, h2, by unfold opF; rw [ho]; exact ⟨v, h1, rfl, rfl⟩⟩
  · rename_i c x y ho
    obtain ⟨b, h1, u, h2, v, h3, h4⟩ := hF
    exact ⟨_, _, h4, by unfold opF; rw [ho]; exact ⟨b, h1, u, h2, v, h3, rfl, rfl⟩⟩
  · rename_i T ho
    obtain ⟨z, h1, h2⟩ := hF
    exact ⟨_, _, h2, by unfold opF; rw [ho]; exact ⟨z, h1, rfl, rfl⟩⟩
  · rename_i T x ho
    obtain ⟨v, h1, cs, h2, h3⟩ := hF
    exact ⟨_, _, h3, by unfold opF; rw [ho]; exact ⟨v, h1, cs, h2, rfl, rfl⟩⟩
  · rename_i T parts ho
    obtain ⟨l, h1, z, h2, ps, h3, out, h4, h5⟩ := hF
    exact ⟨_, _, h5, by unfold opF; rw [ho]; exact ⟨l, h1, z, h2, ps, h3, out, h4, rfl, rfl⟩⟩
  · rename_i T len parts ho
    split at hF
    · rename_i hlen
      obtain ⟨h1, em, h2, h3⟩ := hF
      exact ⟨_, _, h3, by unfold opF; rw [ho]; dsimp only; rw [if_pos hlen]; exact ⟨h1, em, h2, rfl, rfl⟩⟩
    · rename_i hlen
      obtain ⟨em, h1, z, h2, h3, h4, h5, ps, h6, out, h7, h8⟩ := hF
      exact ⟨_, _, h8, by unfold opF; rw [ho]; dsimp only; rw [if_neg hlen]; exact ⟨em, h1, z, h2, h3, h4, h5, ps, h6, out, h7, rfl, rfl⟩⟩
  · rename_i T x ho
    obtain ⟨v, h1, y, h2, h3⟩ := hF
    exact ⟨_, _, h3, by unfold opF; rw [ho]; exact ⟨v, h1, y, h2, rfl, rfl⟩⟩
  · rename_i T x f ho
    obtain ⟨v, h1, cs, h2, l, h3, s, h4, y, h5, h6⟩ := hF
    exact ⟨_, _, h6, by unfold opF; rw [ho]; exact ⟨v, h1, cs, h2, l, h3, s, h4, y, h5, rfl, rfl⟩⟩
  · rename_i T x f ho
    obtain ⟨v, h1, l, h2, s, h3, h4, y, h5, h6⟩ := hF
    exact ⟨_, _, h6, by unfold opF; rw [ho]; exact ⟨v, h1, l, h2, s, h3, h4, y, h5, rfl, rfl⟩⟩
  · rename_i x i ho
    obtain ⟨v, h1, xs, h2, y, h3, h4⟩ := hF
    exact ⟨_, _, h4, by unfold opF; rw [ho]; exact ⟨v, h1, xs, h2, y, h3, rfl, rfl⟩⟩
  · rename_i T x ix ho
    obtain ⟨v, h1, i, h2, em, h3, h4⟩ := hF
    have : ∃ x bs, K x bs ∧ idxF v i em (Is x bs) := by
      unfold idxF at h4
      split at h4
      · obtain ⟨h5, h6, row, h7, h8⟩ := h4; exact ⟨_, _, h8, h5, h6, row, h7, rfl, rfl⟩
      · obtain ⟨h5, h6, h7, h8⟩ := h4; exact ⟨_, _, h8, h5, h6, h7, rfl, rfl⟩
      · exact h4.elim
    obtain ⟨x', bs, k, h5⟩ := this
    exact ⟨x', bs, k, by unfold opF; rw [ho]; exact ⟨v, h1, i, h2, em, h3, h5⟩⟩
  · rename_i T x lo hi mx ho
    obtain ⟨v, h1, h2⟩ := hF
    split at h2
    · rename_i hs
      obtain ⟨x', bs, k, h5⟩ := litF_choice h2
      exact ⟨x', bs, k, by unfold opF; rw [ho]; exact ⟨v, h1, by dsimp only; rw [if_pos hs]; exact h5⟩⟩
    · rename_i hs
      obtain ⟨h3, em, h4, h5⟩ := h2
      have : ∃ x bs, K x bs ∧ slcF v t lo hi em (Is x bs) := by
        unfold slcF at h5
        split at h5
        · obtain ⟨h6, l, h7, hh, h8, h9, h10, h11, h12⟩ := h5; exact ⟨_, _, h12, h6, l, h7, hh, h8, h9, h10, h11, rfl, rfl⟩
        · obtain ⟨h6, l, h7, hh, h8, h9, h10, h11, h12⟩ := h5; exact ⟨_, _, h12, h6, l, h7, hh, h8, h9, h10, h11, rfl, rfl⟩
        · exact h5.elim
      obtain ⟨x', bs, k, h6⟩ := this
      exact ⟨x', bs, k, by unfold opF; rw [ho]; exact ⟨v, h1, by dsimp only; rw [if_neg hs]; exact ⟨h3, em, h4, h6⟩⟩⟩
  · rename_i T l c ho
    obtain ⟨l', h1, c', h2, em, h3, z, h4, by_, h5, h6, h7, h8, h9, h10, h11, h12⟩ := hF
    exact ⟨_, _, h12, by unfold opF; rw [ho]; exact ⟨l', h1, c', h2, em, h3, z, h4, by_, h5, h6, h7, h8, h9, h10, h11, rfl, rfl⟩⟩
  · rename_i f first caps ho
    obtain ⟨h1, cs, h2, h3⟩ := hF
    exact ⟨_, _, h3, by unfold opF; rw [ho]; exact ⟨h1, cs, h2, rfl, rfl⟩⟩
  · rename_i S D x ho
    obtain ⟨v, h1, h2⟩ := hF
    split at h2
    · rename_i hs
      obtain ⟨x', bs, k, h5⟩ := litF_choice h2
      exact ⟨x', bs, k, by unfold opF; rw [ho]; exact ⟨v, h1, by dsimp only; rw [if_pos hs]; exact h5⟩⟩
    · rename_i hs
      have : ∃ x bs, K x bs ∧ convF P h n S D v (Is x bs) := by
        unfold convF at h2
        split at h2
        · obtain ⟨e, h3, h4, h5, h6, h7⟩ := h2; exact ⟨_, _, h7, e, h3, h4, h5, h6, rfl, rfl⟩
        · obtain ⟨e, l, h3, h4, h5, h6, h7, h8⟩ := h2; exact ⟨_, _, h8, e, l, h3, h4, h5, h6, h7, rfl, rfl⟩
        · obtain ⟨e, l, h3, h4, h5, h6, h7, h8⟩ := h2; exact ⟨_, _, h8, e, l, h3, h4, h5, h6, h7, rfl, rfl⟩
        · exact h2.elim
      obtain ⟨x', bs, k, h6⟩ := this
      exact ⟨x', bs, k, by unfold opF; rw [ho]; exact ⟨v, h1, by dsimp only; rw [if_neg hs]; exact h6⟩⟩
  · rename_i op_ T x y ty_ ho
    obtain ⟨u, h1, h2⟩ := hF
    split at h2
    · rename_i hs
      obtain ⟨h3, h4, r, h5, h6⟩ := h2
      exact ⟨_, _, h6, by unfold opF; rw [ho]; exact ⟨u, h1, by dsimp only; rw [if_pos hs]; exact ⟨h3, h4, r, h5, rfl, rfl⟩⟩⟩
    · rename_i hs
      split at h2
      · rename_i b hb
        exact ⟨_, _, h2.2, by unfold opF; rw [ho]; exact ⟨u, h1, by dsimp only; rw [if_neg hs, hb]; exact ⟨h2.1, rfl, rfl⟩⟩⟩
      · rename_i hb
        obtain ⟨x', bs, k, h5⟩ := litF_choice h2
        exact ⟨x', bs, k, by unfold opF; rw [ho]; exact ⟨u, h1, by dsimp only; rw [if_neg hs, hb]; exact h5⟩⟩
  · rename_i b args argTypes ho
    split at hF
    · rename_i x T ha ht
      obtain ⟨v, h1, h2⟩ := hF
      split at h2
      · rename_i hs
        obtain ⟨x', bs, k, h5⟩ := litF_choice h2
        exact ⟨x', bs, k, by unfold opF; rw [ho]; dsimp only; rw [ha, ht]; exact ⟨v, h1, by dsimp only; rw [if_pos hs]; exact h5⟩⟩
      · rename_i hs
        have : ∃ x bs, K x bs ∧ lenF P T v (Is x bs) := by
          unfold lenF at h2
          split at h2
          · obtain ⟨em, h3, h4⟩ := h2; exact ⟨_, _, h4, em, h3, rfl, rfl⟩
          · obtain ⟨em, h3, h4⟩ := h2; exact ⟨_, _, h4, em, h3, rfl, rfl⟩
          · obtain ⟨em, h3, h4⟩ := h2; exact ⟨_, _, h4, em, h3, rfl, rfl⟩
          · exact h2.elim
        obtain ⟨x', bs, k, h6⟩ := this
        exact ⟨x', bs, k, by unfold opF; rw [ho]; dsimp only; rw [ha, ht]; exact ⟨v, h1, by dsimp only; rw [if_neg hs]; exact h6⟩⟩
    · rename_i hne
      obtain ⟨x', bs, k, h5⟩ := litF_choice hF
      refine ⟨x', bs, k, ?_⟩
      unfold opF; rw [ho]; dsimp only
      split
      · rename_i x T ha ht; exact absurd ht (fun e => hne x T rfl ha e)
      · exact h5
  · rename_i f args argTypes ho
    obtain ⟨xs, h1, r, h2, h3⟩ := hF
    exact ⟨_, _, h3, by unfold opF; rw [ho]; exact ⟨xs, h1, r, h2, rfl, rfl⟩⟩
  · rename_i x ho
    obtain ⟨u, h1, h2⟩ := hF
    split at h2
    · rename_i hp
      exact ⟨_, _, h2, by unfold opF; rw [ho]; exact ⟨u, h1, by dsimp only; rw [if_pos hp]; exact ⟨rfl, rfl⟩⟩⟩
    · rename_i hp
      obtain ⟨x', bs, k, h5⟩ := litF_choice h2
      exact ⟨x', bs, k, by unfold opF; rw [ho]; exact ⟨u, h1, by dsimp only; rw [if_neg hp]; exact h5⟩⟩
  · obtain ⟨x', bs, k, h5⟩ := litF_choice hF
    refine ⟨x', bs, k, ?_⟩
    unfold opF
    split
    case h_13 hq => exact (‹∀ (T : TypeId) (x : Operand) (lo hi mx : Option Operand), o.op = Op.slice T x lo hi mx → False› _ _ _ _ _ hq).elim
    case h_17 hq => exact (‹∀ (op : BinOp) (xType : TypeId) (x y : Operand) (yType : TypeId), o.op = Op.binOp op xType x y yType → False› _ _ _ _ _ hq).elim
    all_goals first | exact h5 | (exfalso; simp_all; done)
/-! ### The chain of the first k operations -/
/-- What the first operations yield, one after another; each has a number for a block. -/
inductive Chain (P : Program) (ops : Array Oper) (N : Nat) : List Oper → Slots → Heap → List AV → List (Option Blk) → Slots → Heap → Prop
  | nil (t : Slots) (h : Heap) : Chain P ops N [] t h [] [] t h
  | plain (o : Oper) (r : List Oper) (t : Slots) (h : Heap) (x : AV) (bs : Option Blk) (V : List AV) (B : List (Option Blk)) (t' : Slots) (h' : Heap) (hd : ∀ d, o.dst = some d → d < N) (hg : o.guard = none)
      (hF : opF P t h h.length o (Is x bs)) (hr : Chain P ops N r (putS o.dst x t) (h ++ [bs]) V B t' h') : Chain P ops N (o :: r) t h (x :: V) (bs :: B) t' h'
  | yes (o : Oper) (r : List Oper) (t : Slots) (h : Heap) (j : Nat) (b : Bool) (d : Nat) (x : AV) (bs : Option Blk) (V : List AV) (B : List (Option Blk)) (t' : Slots) (h' : Heap) (hd : ∀ d, o.dst = some d → d < N) (hg : o.guard = some (j, b)) (hs : gslot ops j = some d) (hv : get t d = some (AM.V (.bool b)))
      (hF : opF P ((d, AM.V (.bool b)) :: t) h h.length o (Is x bs)) (hr : Chain P ops N r (putS o.dst x ((d, AM.V (.bool b)) :: t)) (h ++ [bs]) V B t' h') : Chain P ops N (o :: r) t h (x :: V) (bs :: B) t' h'
  | no (o : Oper) (r : List Oper) (t : Slots) (h : Heap) (j : Nat) (b : Bool) (d : Nat) (V : List AV) (B : List (Option Blk)) (t' : Slots) (h' : Heap) (hd : ∀ d, o.dst = some d → d < N) (hg : o.guard = some (j, b)) (hs : gslot ops j = some d) (hv : get t d = some (AM.V (.bool !b)))
      (hr : Chain P ops N r (putS o.dst .und ((d, AM.V (.bool !b)) :: t)) (h ++ [none]) V B t' h') : Chain P ops N (o :: r) t h (.und :: V) (none :: B) t' h'
  | skip (o : Oper) (r : List Oper) (t : Slots) (h : Heap) (j : Nat) (b : Bool) (d : Nat) (V : List AV) (B : List (Option Blk)) (t' : Slots) (h' : Heap) (hd : ∀ d, o.dst = some d → d < N) (hg : o.guard = some (j, b)) (hs : gslot ops j = some d) (hv : get t d = some .und)
      (hr : Chain P ops N r (putS o.dst .und t) (h ++ [none]) V B t' h') : Chain P ops N (o :: r) t h (.und :: V) (none :: B) t' h'
/-- The evaluation of the chain. -/
def chainE (P : Program) (ops : Array Oper) (N : Nat) : List Oper → Slots → Heap → (Slots → Heap → Prop) → Prop
  | [], t, h, K => K t h
  | o :: r, t, h, K => (∀ d, o.dst = some d → d < N) ∧ guardE ops t o (fun t' => opF P t' h h.length o fun x bs => chainE P ops N r (putS o.dst x t') (h ++ [bs]) K) (fun t' => chainE P ops N r (putS o.dst .und t') (h ++ [none]) K)
theorem chainE_chain {ops : Array Oper} {N : Nat} {K : Slots → Heap → Prop} : ∀ (l : List Oper) (t : Slots) (h : Heap), chainE P ops N l t h K → ∃ V B t' h', Chain P ops N l t h V B t' h' ∧ K t' h'
  | [], t, h, hE => ⟨[], [], t, h, .nil t h, hE⟩
  | o :: r, t, h, hE => by
    obtain ⟨hd, hE⟩ := hE
    unfold guardE at hE
    split at hE
    · rename_i hg
      obtain ⟨x, bs, h1, h2⟩ := opF_choice hE
      obtain ⟨V, B, t', h', h3, h4⟩ := chainE_chain r _ _ h1
      exact ⟨_, _, t', h', .plain o r t h x bs V B t' h' hd hg h2 h3, h4⟩
    · rename_i j b hg
      obtain ⟨d, hs, v, hv, hE⟩ := hE
      split at hE
      · rename_i c
        by_cases hc : c = b
        · subst hc
          obtain ⟨x, bs, h1, h2⟩ := opF_choice (hE.1 rfl)
          obtain ⟨V, B, t', h', h3, h4⟩ := chainE_chain r _ _ h1
          exact ⟨_, _, t', h', .yes o r t h j c d x bs V B t' h' hd hg hs hv h2 h3, h4⟩
        · have hc' : c = !b := by cases c <;> cases b <;> simp_all
          subst hc'
          obtain ⟨V, B, t', h', h3, h4⟩ := chainE_chain r _ _ (hE.2 rfl)
          exact ⟨_, _, t', h', .no o r t h j b d V B t' h' hd hg hs hv h3, h4⟩
      · obtain ⟨V, B, t', h', h3, h4⟩ := chainE_chain r _ _ hE
        exact ⟨_, _, t', h', .skip o r t h j b d V B t' h' hd hg hs hv h3, h4⟩
      · exact hE.elim
end
end AM
end Go.Proofs.Ytfbnjemmmgobkaa

namespace Go.Proofs.Ytfbnjemmmgobkaa
open Go.RowKit
set_option linter.unusedVariables false
set_option linter.unusedSimpArgs false
namespace AM
/-! ### What waits for what -/
def direct (o : Oper) : List Nat := (o.after.toList.filter (Region.binds .any)).map (·.on)
def ins (s : List Nat) (e : Nat) : List Nat := if s.contains e then s else e :: s
theorem mem_ins : ∀ (l s : List Nat) (x : Nat), x ∈ l.foldl ins s → x ∈ s ∨ x ∈ l
  | [], s, x, h => .inl h
  | e :: r, s, x, h => by
    rcases mem_ins r (ins s e) x h with h1 | h1
    · unfold ins at h1
      split at h1
      · exact .inl h1
      · rcases List.mem_cons.1 h1 with rfl | h2
        · exact .inr (List.mem_cons_self ..)
        · exact .inl h2
    · exact .inr (List.mem_cons_of_mem _ h1)
def closure : List (List Nat) → List Oper → List (List Nat)
  | acc, [] => acc
  | acc, o :: r => closure (acc ++ [((direct o) ++ (direct o).flatMap fun e => acc.getD e []).foldl ins []]) r
theorem closure_sound {ops : Array Oper} {L : Nat → Prop} (hcl : ∀ i j, L i → waitsFor ops i j = true → L j) : ∀ (l : List Oper) (acc : List (List Nat)), (∀ i o, l[i]? = some o → ops[acc.length + i]? = some o) →
    (∀ i, i < acc.length → (∀ j, waitsFor ops i j = true → L j) → ∀ j ∈ acc.getD i [], L j) → ∀ i, i < acc.length + l.length → (∀ j, waitsFor ops i j = true → L j) → ∀ j ∈ (closure acc l).getD i [], L j
  | [], acc, hl, ha, i, hi, hw, j, hj => ha i (by simpa using hi) hw j hj
  | o :: r, acc, hl, ha, i, hi, hw, j, hj => by
    refine closure_sound hcl r (acc ++ [_]) (fun i o' h => by
      have := hl (i + 1) o' h
      rwa [List.length_append, List.length_singleton, show acc.length + 1 + i = acc.length + (i + 1) by omega]) (fun i hi hw j hj => ?_) i (by simp at hi ⊢; omega) hw j hj
    by_cases hlt : i < acc.length
    · rw [List.getD_eq_getElem?_getD, List.getElem?_append_left hlt, ← List.getD_eq_getElem?_getD] at hj
      exact ha i hlt hw j hj
    · have e : i = acc.length := by simp at hi; omega
      subst e
      have ho : ops[acc.length]? = some o := by simpa using hl 0 o rfl
      rw [List.getD_eq_getElem?_getD, List.getElem?_append_right (Nat.le_refl _), Nat.sub_self] at hj
      have hd : ∀ e ∈ direct o, L e := fun e he => hw e (by
        unfold direct at he
        obtain ⟨ed, h1, rfl⟩ := List.mem_map.1 he
        obtain ⟨h2, h3⟩ := List.mem_filter.1 h1
        simp only [waitsFor, ho, List.any_eq_true, Bool.and_eq_true, beq_iff_eq]
        exact ⟨ed, h2, h3, rfl⟩)
      rcases mem_ins _ _ j hj with h1 | h1
      · cases h1
      · rcases List.mem_append.1 h1 with h2 | h2
        · exact hd j h2
        · obtain ⟨e, he, h3⟩ := List.mem_flatMap.1 h2
          by_cases hel : e < acc.length
          · exact ha e hel (fun j' hj' => hcl e j' (hd e he) hj') j h3
          · rw [List.getD_eq_getElem?_getD, List.getElem?_eq_none (by omega)] at h3; cases h3
/-- The form that the rule asks: whoever reads a slot waits for its writer, or the writer for it; behind k each waits for all. -/
def drawOk (ops : Array Oper) (k N : Nat) : Bool :=
  inOrderA ops && onceOnly ops N && Region.noSelect ops && decide (k ≤ ops.size) &&
  (List.range k).all (fun i => match ops[i]? with
    | some o => (o.looksAt ops).all fun d => (List.range ops.size).all fun j => i == j || dstOf ops j != some d || (if j < i then waitsFor ops i j else waitsFor ops j i)
    | none => true) &&
  (let c := closure [] ops.toList; (List.range ops.size).all fun i => decide (i < k) || (List.range i).all fun j => (c.getD i []).contains j)
/-! ### The chain, seen from one place -/
def Look (base : Slots) (ops : Array Oper) (V : List AV) (i : Nat) (t : Slots) : Prop :=
  ∀ d x, get t d = some x → (∃ j, j < i ∧ dstOf ops j = some d ∧ V[j]? = some x) ∨ ((∀ j, j < i → dstOf ops j ≠ some d) ∧ get base d = some x)
theorem Look.same {base : Slots} {ops : Array Oper} {V : List AV} {i : Nat} {t : Slots} (h : Look base ops V i t) {d : Nat} {x : AV} (hx : get t d = some x) : Look base ops V i ((d, x) :: t) := fun d' y hy => by
  simp only [get] at hy
  split at hy
  · rename_i e; cases hy; subst e; exact h d' x hx
  · exact h d' y hy
theorem Look.more {base : Slots} {ops : Array Oper} {V W : List AV} {i : Nat} {t : Slots} (h : Look base ops V i t) (hi : i ≤ V.length) : Look base ops (V ++ W) i t := fun d x hx => by
  rcases h d x hx with ⟨j, h1, h2, h3⟩ | h1
  · exact .inl ⟨j, h1, h2, by rw [List.getElem?_append_left (by omega)]; exact h3⟩
  · exact .inr h1
theorem Look.put {base : Slots} {ops : Array Oper} {V : List AV} {t : Slots} {o : Oper} {x : AV} (h : Look base ops V V.length t) (ho : ops[V.length]? = some o) : Look base ops (V ++ [x]) (V.length + 1) (putS o.dst x t) := fun d y hy => by
  have hdst : dstOf ops V.length = o.dst := by unfold dstOf; rw [ho]; rfl
  rw [get_putS] at hy
  by_cases e : o.dst = some d
  · rw [if_pos e] at hy
    cases hy
    exact .inl ⟨V.length, by omega, hdst.trans e, by simp⟩
  · rw [if_neg e] at hy
    rcases h d y hy with ⟨j, h1, h2, h3⟩ | ⟨h1, h2⟩
    · exact .inl ⟨j, by omega, h2, by rw [List.getElem?_append_left h1]; exact h3⟩
    · refine .inr ⟨fun j hj => ?_, h2⟩
      by_cases e2 : j = V.length
      · subst e2; rw [hdst]; exact e
      · exact h1 j (by omega)
def Step1 (P : Program) (ops : Array Oper) (t : Slots) (h : Heap) (o : Oper) (x : AV) (bs : Option Blk) : Prop :=
  (o.guard = none ∧ opF P t h h.length o (Is x bs)) ∨ (∃ j b d, o.guard = some (j, b) ∧ gslot ops j = some d ∧ get t d = some (V (.bool b)) ∧ opF P t h h.length o (Is x bs)) ∨
    (∃ j b d, o.guard = some (j, b) ∧ gslot ops j = some d ∧ (get t d = some (V (.bool !b)) ∨ get t d = some .und) ∧ x = .und ∧ bs = none)
section
variable {P : Program}
theorem chain_at {ops : Array Oper} {N : Nat} {base : Slots} {hb : Heap} {l : List Oper} {t : Slots} {h : Heap} {V : List AV} {B : List (Option Blk)} {t' : Slots} {h' : Heap} (hc : Chain P ops N l t h V B t' h') : ∀ (pV : List AV) (pB : List (Option Blk)), pB.length = pV.length →
    (∀ i o, l[i]? = some o → ops[pV.length + i]? = some o) → h = hb ++ pB → Look base ops pV pV.length t →
    (∀ i o, l[i]? = some o → ∃ ti x bs, (pV ++ V)[pV.length + i]? = some x ∧ (pB ++ B)[pV.length + i]? = some bs ∧ (∀ d, o.dst = some d → d < N) ∧ Look base ops (pV ++ V) (pV.length + i) ti ∧ Step1 P ops ti (hb ++ (pB ++ B).take (pV.length + i)) o x bs) ∧
      Look base ops (pV ++ V) (pV.length + l.length) t' ∧ h' = hb ++ (pB ++ B) ∧ V.length = l.length ∧ B.length = l.length := by
  -- one operation more
  have key : ∀ (o : Oper) (r : List Oper) (t ti tn : Slots) (h : Heap) (x : AV) (bs : Option Blk) (V : List AV) (B : List (Option Blk)) (t' : Slots) (h' : Heap) (pV : List AV) (pB : List (Option Blk)), pB.length = pV.length → (∀ i o', (o :: r)[i]? = some o' → ops[pV.length + i]? = some o') → h = hb ++ pB →
      Look base ops pV pV.length ti → (∀ d, o.dst = some d → d < N) → Step1 P ops ti h o x bs → tn = putS o.dst x ti →
      (∀ (pV : List AV) (pB : List (Option Blk)), pB.length = pV.length → (∀ i o, r[i]? = some o → ops[pV.length + i]? = some o) → (h ++ [bs]) = hb ++ pB → Look base ops pV pV.length tn →
        (∀ i o, r[i]? = some o → ∃ ti x bs, (pV ++ V)[pV.length + i]? = some x ∧ (pB ++ B)[pV.length + i]? = some bs ∧ (∀ d, o.dst = some d → d < N) ∧ Look base ops (pV ++ V) (pV.length + i) ti ∧ Step1 P ops ti (hb ++ (pB ++ B).take (pV.length + i)) o x bs) ∧
          Look base ops (pV ++ V) (pV.length + r.length) t' ∧ h' = hb ++ (pB ++ B) ∧ V.length = r.length ∧ B.length = r.length) →
      (∀ i o', (o :: r)[i]? = some o' → ∃ ti x' bs', (pV ++ x :: V)[pV.length + i]? = some x' ∧ (pB ++ bs :: B)[pV.length + i]? = some bs' ∧ (∀ d, o'.dst = some d → d < N) ∧ Look base ops (pV ++ x :: V) (pV.length + i) ti ∧ Step1 P ops ti (hb ++ (pB ++ bs :: B).take (pV.length + i)) o' x' bs') ∧
        Look base ops (pV ++ x :: V) (pV.length + (o :: r).length) t' ∧ h' = hb ++ (pB ++ bs :: B) ∧ (x :: V).length = (o :: r).length ∧ (bs :: B).length = (o :: r).length := by
    intro o r t ti tn h x bs V B t' h' pV pB hl hops hh hL hd hS htn ih
    subst htn
    have ho : ops[pV.length]? = some o := by simpa using hops 0 o rfl
    have ih' := ih (pV ++ [x]) (pB ++ [bs]) (by simp [hl]) (fun i o' hi => by
      have := hops (i + 1) o' hi
      rw [List.length_append, List.length_singleton, show pV.length + 1 + i = pV.length + (i + 1) by omega]
      exact this) (by rw [hh, List.append_assoc]) (by rw [List.length_append, List.length_singleton]; exact hL.put ho)
    simp only [List.append_assoc, List.singleton_append, List.length_append, List.length_singleton] at ih'
    obtain ⟨i1, i2, i3, i4, i5⟩ := ih'
    refine ⟨fun i o' hi => ?_, by rw [List.length_cons, show pV.length + (r.length + 1) = pV.length + 1 + r.length by omega]; exact i2, i3, by simp [i4], by simp [i5]⟩
    cases i with
    | zero =>
      cases hi
      refine ⟨ti, x, bs, by simp, by rw [Nat.add_zero, ← hl]; simp, hd, ?_, ?_⟩
      · exact hL.more (Nat.le_refl _)
      · rw [Nat.add_zero, ← hl, List.take_left' rfl, ← hh]; exact hS
    | succ i =>
      obtain ⟨t2, x2, b2, k1, k2, k3, k4, k5⟩ := i1 i o' hi
      rw [show pV.length + 1 + i = pV.length + (i + 1) by omega] at k1 k2 k4 k5
      exact ⟨t2, x2, b2, k1, k2, k3, k4, k5⟩
  induction hc with
  | nil t h =>
    intro pV pB hl hops hh hL
    exact ⟨fun i o hi => by simp at hi, by simpa using hL, by simpa using hh, rfl, rfl⟩
  | plain o r t h x bs V B t' h' hd hg hF hr ih =>
    intro pV pB hl hops hh hL
    exact key o r t t _ h x bs V B t' h' pV pB hl hops hh hL hd (.inl ⟨hg, hF⟩) rfl ih
  | yes o r t h j b d x bs V B t' h' hd hg hs hv hF hr ih =>
    intro pV pB hl hops hh hL
    exact key o r t _ _ h x bs V B t' h' pV pB hl hops hh (hL.same hv) hd (.inr (.inl ⟨j, b, d, hg, hs, by simp [get], hF⟩)) rfl ih
  | no o r t h j b d V B t' h' hd hg hs hv hr ih =>
    intro pV pB hl hops hh hL
    exact key o r t _ _ h .und none V B t' h' pV pB hl hops hh (hL.same hv) hd (.inr (.inr ⟨j, b, d, hg, hs, .inl (by simp [get]), rfl, rfl⟩)) rfl ih
  | skip o r t h j b d V B t' h' hd hg hs hv hr ih =>
    intro pV pB hl hops hh hL
    exact key o r t _ _ h .und none V B t' h' pV pB hl hops hh hL hd (.inr (.inr ⟨j, b, d, hg, hs, .inr hv, rfl, rfl⟩)) rfl ih
end
end AM
end Go.Proofs.Ytfbnjemmmgobkaa

namespace Go.Proofs.Ytfbnjemmmgobkaa
open Go.RowKit
set_option linter.unusedVariables false
set_option linter.unusedSimpArgs false
namespace AM
section
variable {P : Program}
/-- What stands while the first k operations come up, in any order. -/
structure Pre (ops : Array Oper) (k N : Nat) (hb : Heap) (V : List AV) (B : List (Option Blk)) (w0 : World) (ρ0 : Own) (a0 : Act) (wd : World) (listed : Array Bool) (a : Act) (w : World) (ρ : Own) : Prop where
  low : ∀ i, k ≤ i → listed.getD i false = false
  g : G (hb ++ B) w0 ρ w
  adv : Adv ρ0 wd ρ w
  size : a.tmps.size = N
  defers : a.defers = []
  done : ∀ j d x, listed.getD j false = true → dstOf ops j = some d → V[j]? = some x → AR ρ w x (a.tmps.getD d undef)
  rest : ∀ d, (∀ j, listed.getD j false = true → dstOf ops j ≠ some d) → a.tmps.getD d undef = a0.tmps.getD d undef
  own : ∀ b, ρ b ≠ none → ρ0 b ≠ none ∨ ∃ j, b = hb.length + j ∧ listed.getD j false = true
theorem Pre.fresh {ops : Array Oper} {k N : Nat} {hb : Heap} {V : List AV} {B : List (Option Blk)} {w0 : World} {ρ0 : Own} {a0 : Act} {wd : World} {listed : Array Bool} {a : Act} {w : World} {ρ : Own} (hP : Pre ops k N hb V B w0 ρ0 a0 wd listed a w ρ) (hG0 : G hb w0 ρ0 wd) {i : Nat} (hi : listed.getD i false = false) : ρ (hb.length + i) = none := by
  cases hc : ρ (hb.length + i) with
  | none => rfl
  | some x =>
    exfalso
    rcases hP.own _ (by rw [hc]; simp) with h1 | ⟨j, h1, h2⟩
    · cases hc0 : ρ0 (hb.length + i) with
      | none => exact h1 hc0
      | some y => have := (hG0.lo _ y.1 y.2 hc0).2.2; omega
    · have : i = j := by omega
      subst this; rw [hi] at h2; cases h2
/-- The rule. -/
theorem draw_sound {id : Nat} {ops : Array Oper} {Q : Exit → Act → World → Prop} {K : Slots → Heap → Prop} {N : Nat} {t : Slots} {h : Heap} {w0 : World} {ρ0 : Own} {a0 : Act} {wd : World} (hm : P.follows .mixedOrders = true) (k : Nat) (hok : drawOk ops k N = true)
    (hR : Rel t h N w0 ρ0 a0 wd) (hE : chainE P ops N (ops.toList.take k) t h fun t' h' => opsE P ops N (ops.toList.drop k) t' h' K)
    (hQ : ∀ t' h' ρ' a' w', K t' h' → Rel t' h' N w0 ρ' a' w' → Adv ρ0 wd ρ' w' → Q .normal a' w') : (Code.region id ops true).wp P Q a0 wd := by
  unfold drawOk at hok
  simp only [Bool.and_eq_true] at hok
  obtain ⟨⟨⟨⟨⟨hord, honce⟩, hsel⟩, hk⟩, hreads⟩, hwait⟩ := hok
  have hk : k ≤ ops.size := by simpa using hk
  obtain ⟨V, B, t', h', hC, hE'⟩ := chainE_chain _ _ _ hE
  obtain ⟨hat, hLend, rfl, hVl, hBl⟩ := chain_at (hb := h) hC [] [] rfl (fun i o hi => by
    have hlt : i < k := by have := (List.getElem?_eq_some_iff.1 hi).1; simp at this; omega
    rw [List.getElem?_take_of_lt hlt] at hi
    simpa using hi) (by simp) (fun d x hx => .inr ⟨fun j hj => by simp at hj, hx⟩)
  simp only [List.nil_append, List.length_nil, Nat.zero_add] at hat hLend hE'
  have hkl : (ops.toList.take k).length = k := by simp; omega
  rw [hkl] at hLend hVl hBl
  have hprefix : ∀ i o, i < k → ops[i]? = some o → (ops.toList.take k)[i]? = some o := fun i o hi ho => by rw [List.getElem?_take_of_lt hi]; simpa using ho
  have hwd : Rel t h N w0 ρ0 a0 wd.drew := ⟨⟨hR.g.below.drew, hR.g.lo, fun b blk g o h1 h2 => (hR.g.held b blk g o h1 h2).adv (Adv.of_below below_drew) rfl, hR.g.inj, hR.g.past⟩, fun i x hx => (hR.slots i x hx).adv (Adv.of_below below_drew), hR.size, hR.defers⟩
  have hadv0 : Adv ρ0 wd ρ0 wd.drew := Adv.of_below below_drew
  -- who reads a slot
  have hread : ∀ i o d j, i < k → ops[i]? = some o → d ∈ o.looksAt ops → dstOf ops j = some d → j ≠ i → (j < i → waitsFor ops i j = true) ∧ (i < j → waitsFor ops j i = true) := fun i o d j hi ho hd hj hne => by
    have h1 := List.all_eq_true.1 hreads i (List.mem_range.2 hi)
    simp only [ho] at h1
    have h2 := List.all_eq_true.1 (List.all_eq_true.1 h1 d hd) j (List.mem_range.2 (dstOf_lt hj))
    simp only [Bool.or_eq_true, beq_iff_eq, hj, bne_iff_ne, ne_eq, not_true_eq_false, or_false] at h2
    rcases h2 with h2 | h2
    · exact absurd h2.symm hne
    · refine ⟨fun hlt => ?_, fun hlt => ?_⟩
      · rw [if_pos hlt] at h2; exact h2
      · rw [if_neg (by omega)] at h2; exact h2
  have honce' : ∀ i j d, dstOf ops i = some d → dstOf ops j = some d → i = j := fun i j d hi hj => by
    have h1 := List.all_eq_true.1 honce i (List.mem_range.2 (dstOf_lt hi))
    simp only [Bool.and_eq_true] at h1
    have h2 := List.all_eq_true.1 h1.2 j (List.mem_range.2 (dstOf_lt hj))
    simp only [hi, hj, Bool.or_eq_true, beq_iff_eq, bne_iff_ne, ne_eq, not_true_eq_false, or_false] at h2
    exact h2
  let Suf : Array Bool → Act → World → Prop := fun listed a w => ∃ i, k < i ∧ i ≤ ops.size ∧ (∀ j, j < ops.size → (listed.getD j false = true ↔ j < i)) ∧ ∃ t h ρ, Rel t h N w0 ρ a w ∧ Adv ρ0 wd.drew ρ w ∧ opsE P ops N (ops.toList.drop i) t h K
  let J : Array Bool → Act → World → Prop := fun listed a w => (∃ ρ, Pre ops k N h V B w0 ρ0 a0 wd.drew listed a w ρ) ∨ Suf listed a w
  -- all that stands behind the first k
  have hmid : ∀ listed a w ρ, Pre ops k N h V B w0 ρ0 a0 wd.drew listed a w ρ → (∀ j, j < k → listed.getD j false = true) → Rel t' (h ++ B) N w0 ρ a w := fun listed a w ρ hP hl => by
    refine ⟨hP.g, fun d x hx => ?_, hP.size, hP.defers⟩
    rcases hLend d x hx with ⟨j, h1, h2, h3⟩ | ⟨h1, h2⟩
    · exact hP.done j d x (hl j h1) h2 h3
    · rw [hP.rest d (fun j hj => by
        by_cases hjk : j < k
        · exact h1 j hjk
        · rw [hP.low j (by omega)] at hj; cases hj)]
      exact (hwd.slots d x h2).adv hP.adv
  -- one operation of the others
  have hsuf : ∀ (listed : Array Bool) (i : Nat) (o : Oper) (a : Act) (w : World) (t : Slots) (h : Heap) (ρ : Own), listed.size = ops.size → ops[i]? = some o → k ≤ i → (∀ j, j < ops.size → (listed.getD j false = true ↔ j < i)) → Rel t h N w0 ρ a w → Adv ρ0 wd.drew ρ w → opsE P ops N (ops.toList.drop i) t h K →
      wpOp P ops Q i (J (listed.setIfInBounds i true)) a w := by
    intro listed i o a w t h ρ hs ho hki hl hR' hadv hE
    have hil : i < ops.size := (Array.getElem?_eq_some_iff.1 ho).1
    have hdrop : ops.toList.drop i = o :: ops.toList.drop (i + 1) := by
      rw [List.drop_eq_getElem_cons (by simpa using hil)]
      congr 1
      have : ops[i]? = some ops[i] := Array.getElem?_eq_getElem hil
      rw [this] at ho; simpa using Option.some.inj ho
    rw [hdrop] at hE
    obtain ⟨hd, hE⟩ := hE
    have hl' : ∀ j, j < ops.size → ((listed.setIfInBounds i true).getD j false = true ↔ j < i + 1) := fun j hj => by
      rw [getD_set _ _ _ (by rw [hs]; exact hil)]
      by_cases e : j = i
      · subst e; simp
      · simp only [beq_eq_false_iff_ne.2 e, Bool.false_or]
        rw [hl j hj]; omega
    unfold wpOp
    simp only [ho]
    rcases guardE_sound hR' hE with ⟨t2, hw, hK, hR2⟩ | ⟨t2, hw, hK, hR2⟩
    · rw [if_pos hw]
      refine .inl (Oper.wp_mono ?_ (opE_sound hR2 hd hK))
      rintro a' w' ⟨t3, h3, ρ3, hK3, hR3, ha3⟩
      exact .inr ⟨i + 1, by omega, by omega, hl', t3, h3, ρ3, hR3, hadv.trans ha3, hK3⟩
    · rw [if_neg (by rw [hw]; simp)]
      exact .inr ⟨i + 1, by omega, by omega, hl', _, h, ρ, hR2.put hd hR2.g (Adv.refl _ _) AR_und, hadv, hK⟩
  refine wp_region_any hm (wpAny_joint (J := J) hord ?_ ?_ ops.size _ a0 _ (by simp) (by simp) (fun j i hj => by rw [none_listed] at hj; cases hj) (.inl ⟨ρ0, fun i _ => none_listed _ _, ?_, Adv.refl _ _, hwd.size, hwd.defers, fun j d x hj => (by rw [none_listed] at hj; cases hj), fun _ _ => rfl, fun b hb => .inl hb⟩))
  · -- one operation
    intro listed i o a w hs hcl hJ ho hni hdep
    have hil : i < ops.size := (Array.getElem?_eq_some_iff.1 ho).1
    have hil' : i < listed.size := by rw [hs]; exact hil
    have hpre : k ≤ i → ∀ j, j < i → listed.getD j false = true := fun hki j hj => by
      have h1 := List.all_eq_true.1 hwait i (List.mem_range.2 hil)
      simp only [Bool.or_eq_true, decide_eq_true_eq] at h1
      have h2 := List.all_eq_true.1 (h1.resolve_left (by omega)) j (List.mem_range.2 hj)
      exact closure_sound (ops := ops) (L := fun j => listed.getD j false = true) (fun i j h1 h2 => hcl i j h1 h2) ops.toList [] (fun i o hi => by simpa using hi) (fun i hi => by simp at hi) i (by simpa using hil) (fun j hj => hdep j hj) j (by simpa using h2)
    rcases hJ with ⟨ρ, hP⟩ | ⟨i', hki', hi's, hl, t2, h2, ρ2, hR2, ha2, hE2⟩
    · by_cases hik : i < k
      · -- one of the first
        obtain ⟨ti, x, bs, hx, hbs, hd, hL, hS⟩ := hat i o (hprefix i o hik ho)
        have hdst : dstOf ops i = o.dst := by unfold dstOf; rw [ho]; rfl
        have hslot : ∀ d y, d ∈ o.looksAt ops → get ti d = some y → AR ρ w y (a.tmps.getD d undef) := fun d y hd hy => by
          rcases hL d y hy with ⟨j, h1, h2, h3⟩ | ⟨h1, h2⟩
          · exact hP.done j d y (hdep j ((hread i o d j hik ho hd h2 (by omega)).1 h1)) h2 h3
          · rw [hP.rest d (fun j hj hjd => by
              by_cases e : j = i
              · subst e; rw [hni] at hj; cases hj
              · by_cases hlt : j < i
                · exact h1 j hlt hjd
                · have := hcl j i hj ((hread i o d j hik ho hd hjd e).2 (by omega))
                  rw [hni] at this; cases this)]
            exact (hwd.slots d y h2).adv hP.adv
        -- what stands behind it
        have hput : ∀ (v : Value) (w' : World) (ρ' : Own), Adv ρ w ρ' w' → G (h ++ B) w0 ρ' w' → AR ρ' w' x v → (∀ b, ρ' b ≠ none → ρ b ≠ none ∨ b = h.length + i) → J (listed.setIfInBounds i true) (a.put o.dst v) w' := fun v w' ρ' ha hG' hxv hown => by
          have hset : ∀ j, (listed.setIfInBounds i true).getD j false = (j == i || listed.getD j false) := fun j => getD_set _ _ _ hil'
          refine .inl ⟨ρ', fun j hj => ?_, hG', hP.adv.trans ha, by rw [size_put]; exact hP.size, by rw [defers_put]; exact hP.defers, fun j d y hj hjd hy => ?_, fun d hd' => ?_, fun b hb => ?_⟩
          · rw [hset, hP.low j hj, Bool.or_false]; simp; omega
          · rw [hset] at hj
            by_cases e : j = i
            · subst e
              rw [hdst] at hjd
              rw [hjd, getD_put_same a d v (by rw [hP.size]; exact hd d hjd)]
              rw [hx] at hy; cases hy; exact hxv
            · have hj' : listed.getD j false = true := by simpa [e] using hj
              rw [getD_put_ne a o.dst d v (fun e2 => e (honce' j i d hjd (hdst.trans e2)))]
              exact (hP.done j d y hj' hjd hy).adv ha
          · have hne : o.dst ≠ some d := by
              have := hd' i (by rw [hset]; simp)
              rwa [hdst] at this
            rw [getD_put_ne a o.dst d v hne]
            exact hP.rest d (fun j hj => hd' j (by rw [hset, hj, Bool.or_true]))
          · rcases hown b hb with h1 | h1
            · rcases hP.own b h1 with h2 | ⟨j, h2, h3⟩
              · exact .inl h2
              · exact .inr ⟨j, h2, by rw [hset, h3, Bool.or_true]⟩
            · exact .inr ⟨i, h1, by rw [hset]; simp⟩
        have hunw : x = .und → J (listed.setIfInBounds i true) (a.put o.dst undef) w := fun e => hput undef w ρ (Adv.refl _ _) hP.g (by rw [e]; exact AR_und) (fun b hb => .inl hb)
        have hrun : ∀ tj, (∀ d y, d ∈ o.looksAt ops → get tj d = some y → AR ρ w y (a.tmps.getD d undef)) → opF P tj (h ++ B.take i) (h ++ B.take i).length o (Is x bs) → o.wp P a w (J (listed.setIfInBounds i true)) Q := fun tj htj hF => by
          have hlen : (h ++ B.take i).length = h.length + i := by rw [List.length_append, List.length_take]; omega
          have hn : ρ (h ++ B.take i).length = none := by rw [hlen]; exact hP.fresh hwd.g hni
          have hH : ∀ (b : Nat) blk, (h ++ B.take i)[b]? = some (some blk) → (h ++ B)[b]? = some (some blk) := fun b blk hb => by
            have hlt := (List.getElem?_eq_some_iff.1 hb).1
            by_cases e : b < h.length
            · rw [List.getElem?_append_left e] at hb ⊢; exact hb
            · rw [List.getElem?_append_right (by omega)] at hb ⊢
              rw [List.getElem?_take_of_lt (by omega)] at hb
              exact hb
          refine Oper.wp_mono ?_ (opF_sound hP.g hH hn (fun y hy v hv => ?_) hF)
          · rintro a' w' ⟨v, rfl, x', bs', ρ', ⟨rfl, rfl⟩, hb', hx', hbs'⟩
            cases bs' with
            | none =>
              dsimp only at hbs'
              subst hbs'
              exact hput v w' ρ' (Adv.of_below hb') (hP.g.pass hb') hx' (fun b hb => .inl hb)
            | some blk =>
              obtain ⟨g, rfl, hg1, hg2, hblk⟩ := hbs'
              have hbi : (h ++ B)[(h ++ B.take i).length]? = some (some blk) := by
                rw [hlen, List.getElem?_append_right (by omega), Nat.add_sub_cancel_left]
                exact hbs
              refine hput v w' _ (adv_new (o := 0) hb' hn hg1) (hP.g.new hb' hn (by rw [hlen, List.length_append]; omega) hg1 hg2 hbi hblk) hx' (fun b hb => ?_)
              by_cases e : b = (h ++ B.take i).length
              · exact .inr (by rw [e, hlen])
              · refine .inl ?_
                unfold Own.with at hb
                dsimp only at hb
                rw [if_neg e] at hb
                exact hb
          · cases y with
            | tmp d => exact htj d v (List.mem_append_left _ (List.mem_filterMap.2 ⟨.tmp d, hy, rfl⟩)) hv
            | const c => exact ofV_R hv
            | global g => cases hv; exact ⟨.val _, rfl⟩
            | func f => cases hv; exact ⟨.val _, rfl⟩
        have hgmem : ∀ j b d, o.guard = some (j, b) → gslot ops j = some d → d ∈ o.looksAt ops := fun j b d hg hs => List.mem_append_right _ (by
          rw [hg]
          unfold gslot at hs
          simp [hs])
        unfold wpOp
        simp only [ho]
        rcases hS with ⟨hg, hF⟩ | ⟨j, b, d, hg, hs', hv, hF⟩ | ⟨j, b, d, hg, hs', hv, hxu, hbu⟩
        · rw [if_pos (by unfold Region.wanted; rw [hg])]
          exact .inl (hrun ti hslot hF)
        · have e := (hslot d _ (hgmem j b d hg hs') hv).1.val_eq
          rw [if_pos (by rw [wanted_sym (a := a) hg hs' e]; simp)]
          exact .inl (hrun ti hslot hF)
        · have hnw : Region.wanted o (yielded ops a.tmps) = false := by
            rcases hv with hv | hv
            · have e := (hslot d _ (hgmem j b d hg hs') hv).1.val_eq
              rw [wanted_sym (a := a) hg hs' e]; cases b <;> rfl
            · exact wanted_undef hg hs' (hslot d _ (hgmem j b d hg hs') hv)
          rw [if_neg (by rw [hnw]; simp)]
          exact hunw hxu
      · -- the first of the others
        have hall := hpre (by omega)
        have hik' : i = k := by
          by_cases e : i = k
          · exact e
          · have := hall k (by omega)
            rw [hP.low k (Nat.le_refl _)] at this; cases this
        subst hik'
        exact hsuf listed i o a w _ _ ρ hs ho (Nat.le_refl _) (fun j hj => ⟨fun hjl => (by
          rcases Nat.lt_or_ge j i with h1 | h1
          · exact h1
          · rw [hP.low j h1] at hjl; cases hjl), fun hji => hall j hji⟩) (hmid listed a w ρ hP hall) hP.adv hE'
    · have hge : i' ≤ i := by
        rcases Nat.lt_or_ge i i' with h1 | h1
        · rw [(hl i hil).2 h1] at hni; cases hni
        · exact h1
      have hle : i ≤ i' := by
        rcases Nat.lt_or_ge i' i with h1 | h1
        · have := hpre (by omega) i' h1
          have := (hl i' (by omega)).1 this
          omega
        · exact h1
      have e : i' = i := by omega
      subst e
      exact hsuf listed i' o a w t2 h2 ρ2 hs ho (by omega) hl hR2 ha2 hE2
  · -- the end
    intro listed a w hs hall hJ
    rcases hJ with ⟨ρ, hP⟩ | ⟨i', hki', hi's, hl, t2, h2, ρ2, hR2, ha2, hE2⟩
    · have hks : k = ops.size := by
        rcases Nat.lt_or_ge k ops.size with h1 | h1
        · have := hall k h1
          rw [hP.low k (Nat.le_refl _)] at this; cases this
        · omega
      rw [hks, List.drop_of_length_le (by simp)] at hE'
      exact hQ _ _ ρ a w hE' (hmid listed a w ρ hP (fun j hj => hall j (by omega))) (hadv0.trans hP.adv)
    · have e : i' = ops.size := by
        rcases Nat.lt_or_ge i' ops.size with h1 | h1
        · have := (hl i' h1).1 (hall i' h1); omega
        · omega
      rw [e, List.drop_of_length_le (by simp)] at hE2
      exact hQ _ _ ρ2 a w hE2 hR2 (hadv0.trans ha2)
  · exact hwd.g.more B
end
end AM
end Go.Proofs.Ytfbnjemmmgobkaa

namespace Go.Proofs.Ytfbnjemmmgobkaa
open Go.RowKit
set_option linter.unusedVariables false
set_option linter.unusedSimpArgs false
namespace AM
/-! ### Fewer facts, other numbers -/
def Cap.ren (ι : Nat → Nat) : Cap → Cap
  | .ptr m b i j => .ptr m (ι b) i j
  | .val x => .val x
def CV.ren (ι : Nat → Nat) : CV → CV
  | .ptr m b i j => .ptr m (ι b) i j
  | .sl m b i n => .sl m (ι b) i n
  | .clo f caps => .clo f (caps.map (Cap.ren ι))
  | c => c
def A1.ren (ι : Nat → Nat) : A1 → A1
  | .one c => .one (c.ren ι)
  | .agg cs => .agg (cs.map (CV.ren ι))
def AV.ren (ι : Nat → Nat) : AV → AV
  | .a x => .a (x.ren ι)
  | .tup xs => .tup (xs.map (A1.ren ι))
  | .und => .und
def Blk.ren (ι : Nat → Nat) (b : Blk) : Blk := ⟨b.T, b.m, b.rows.map (·.map (CV.ren ι))⟩
/-- From own numbers to others. -/
def Own.ren (ρ : Own) (ι : Nat → Nat) (n : Nat) : Own := ⟨fun b => if b < n then ρ (ι b) else none, ρ.A⟩
structure Weak (n0 : Nat) (ι : Nat → Nat) (t : Slots) (h : Heap) (t2 : Slots) (h2 : Heap) : Prop where
  slots : ∀ i x, get t2 i = some x → ∃ y, get t i = some y ∧ ∀ v ρ w, AR ρ w y v → AR (ρ.ren ι h2.length) w x v
  heap : ∀ (b : Nat) blk, h2[b]? = some (some blk) → h.length ≤ ι b ∨ ∃ blk1, h[ι b]? = some (some blk1) ∧ ∀ ρ w g o, BlkR ρ w g o blk1 → BlkR (ρ.ren ι h2.length) w g o blk
  inj : ∀ b b', b < h2.length → b' < h2.length → ι b = ι b' → b = b'
  low : ∀ b, b < n0 → ι b = b
  long : n0 ≤ h2.length
/-- Between worlds, but for numbers below n alone. -/
structure AdvN (n : Nat) (ρ : Own) (w : World) (ρ' : Own) (w' : World) : Prop where
  os : w'.os = w.os
  tape : w'.tape = w.tape
  output : w'.output = w.output
  size : w.heap.size ≤ w'.heap.size
  blk : ∀ g, g < w.heap.size → (∀ b o, ρ b ≠ some (g, o)) → w'.heap[g]? = w.heap[g]?
  row : ∀ (g : Nat) c T fr, w.heap[g]? = some (.cells c T fr) → ∃ c' fr', w'.heap[g]? = some (.cells c' T fr') ∧ c'.size = c.size
  keep : ∀ b x, b < n → ρ b = some x → ρ' b = some x
  new : ∀ b g o, ρ' b = some (g, o) → (∃ b₀ o₀, ρ b₀ = some (g, o₀)) ∨ w.heap.size ≤ g
  A : ρ'.A = ρ.A
theorem Adv.n {ρ ρ' : Own} {w w' : World} (h : Adv ρ w ρ' w') (n : Nat) : AdvN n ρ w ρ' w' := ⟨h.os, h.tape, h.output, h.size, h.blk, h.row, fun b x _ hb => h.keep b x hb, h.new, h.A⟩
theorem AdvN.full {n : Nat} {ρ ρ' : Own} {w w' : World} (h : AdvN n ρ w ρ' w') (hn : ∀ b x, ρ b = some x → b < n) : Adv ρ w ρ' w' := ⟨h.os, h.tape, h.output, h.size, h.blk, h.row, fun b x hb => h.keep b x (hn b x hb) hb, h.new, h.A⟩
theorem AdvN.trans {n : Nat} {ρ ρ' ρ'' : Own} {w w' w'' : World} (h : AdvN n ρ w ρ' w') (k : AdvN n ρ' w' ρ'' w'') : AdvN n ρ w ρ'' w'' :=
  ⟨k.os.trans h.os, k.tape.trans h.tape, k.output.trans h.output, Nat.le_trans h.size k.size,
   fun g hg hn => (k.blk g (Nat.lt_of_lt_of_le hg h.size) (fun b o hb => by
    rcases h.new b g o hb with ⟨b₀, o₀, h0⟩ | h0
    · exact hn b₀ o₀ h0
    · omega)).trans (h.blk g hg hn),
   fun g c T fr hc => by
    obtain ⟨c', fr', h1, h2⟩ := h.row g c T fr hc
    obtain ⟨c'', fr'', h3, h4⟩ := k.row g c' T fr' h1
    exact ⟨c'', fr'', h3, h4.trans h2⟩,
   fun b x hn hb => k.keep b x hn (h.keep b x hn hb),
   fun b g o hb => by
    rcases k.new b g o hb with ⟨b₀, o₀, h0⟩ | h0
    · exact h.new b₀ g o₀ h0
    · exact .inr (Nat.le_trans h.size h0), k.A.trans h.A⟩
section
variable {ρ : Own} {w w0 : World} {h : Heap} {t : Slots} {N : Nat} {a : Act}
theorem ren_fz {ι : Nat → Nat} {n g : Nat} (h : Fz ρ w g) : Fz (ρ.ren ι n) w g := ⟨h.1, fun b o hb => (by
  unfold Own.ren at hb
  dsimp only at hb
  split at hb
  · exact h.2.1 _ _ hb
  · cases hb), h.2.2⟩
def Cap.lt (n : Nat) : Cap → Prop
  | .ptr _ b _ _ => b < n
  | _ => True
/-- The numbers in a value lie below n. -/
def CV.lt (n : Nat) : CV → Prop
  | .ptr _ b _ _ => b < n
  | .sl _ b _ _ => b < n
  | .clo _ caps => ∀ c ∈ caps, c.lt n
  | _ => True
theorem CR.ren {ι : Nat → Nat} {n : Nat} {c : CV} {v : Value} (hc : c.lt n) (hR : CR ρ w (c.ren ι) v) : CR (ρ.ren ι n) w c v := by
  cases c with
  | p x => exact PR.later (fun g hg => ren_fz hg) (fun _ _ _ => rfl) hR
  | vp cells =>
    obtain ⟨g, q, f, h1, h2, h3, h4⟩ := hR
    exact ⟨g, q, f, h1, ren_fz h2, h3, fun j x hj => ⟨(h4 j x hj).1.later (fun g hg => ren_fz hg) (fun _ _ _ => rfl), (h4 j x hj).2⟩⟩
  | ptr m b i j =>
    obtain ⟨g, o, h1, h2⟩ := hR
    exact ⟨g, o, (if_pos hc).trans h1, h2⟩
  | sl m b i k =>
    rcases hR with hR | ⟨g, o, c, h1, h2, h3⟩
    · exact .inl hR
    · exact .inr ⟨g, o, c, (if_pos hc).trans h1, h2, h3⟩
  | nilsl => exact hR
  | clo f caps =>
    obtain ⟨vs, h1, h2, h3⟩ := hR
    refine ⟨vs, h1, by simpa using h2, fun j c hj => ?_⟩
    obtain ⟨u, h4, h5⟩ := h3 j (c.ren ι) (by rw [List.getElem?_map, hj]; rfl)
    refine ⟨u, h4, ?_⟩
    cases c with
    | ptr m b i j => obtain ⟨g, o, h6, h7⟩ := h5; exact ⟨g, o, (if_pos (hc _ (List.mem_of_getElem? hj))).trans h6, h7⟩
    | val x => exact h5
def A1.lt (n : Nat) : A1 → Prop
  | .one c => c.lt n
  | .agg cs => ∀ c ∈ cs, c.lt n
def AV.lt (n : Nat) : AV → Prop
  | .a x => x.lt n
  | .tup xs => ∀ x ∈ xs, x.lt n
  | .und => True
theorem R1.ren {ι : Nat → Nat} {n : Nat} {x : A1} {v : Value} (hx : x.lt n) (hR : R1 ρ w (x.ren ι) v) : R1 (ρ.ren ι n) w x v := by
  cases x with
  | one c => exact ⟨hR.1.ren hx, hR.2⟩
  | agg cs =>
    obtain ⟨vs, h1, h2, h3⟩ := hR
    refine ⟨vs, h1, by simpa using h2, fun j c hj => ?_⟩
    obtain ⟨u, h4, h5, h6⟩ := h3 j (c.ren ι) (by rw [List.getElem?_map, hj]; rfl)
    exact ⟨u, h4, h5.ren (hx c (List.mem_of_getElem? hj)), h6⟩
theorem AR.ren {ι : Nat → Nat} {n : Nat} {x : AV} {v : Value} (hx : x.lt n) (hR : AR ρ w (x.ren ι) v) : AR (ρ.ren ι n) w x v := by
  cases x with
  | a x => exact R1.ren hx hR
  | tup xs =>
    obtain ⟨vs, h1, h2, h3⟩ := hR
    refine ⟨vs, h1, by simpa using h2, fun j c hj => ?_⟩
    obtain ⟨u, h4, h5⟩ := h3 j (c.ren ι) (by rw [List.getElem?_map, hj]; rfl)
    exact ⟨u, h4, h5.ren (hx c (List.mem_of_getElem? hj))⟩
  | und => exact hR
theorem BlkR.ren {ι : Nat → Nat} {n g o : Nat} {blk : Blk} (hx : ∀ row ∈ blk.rows, ∀ c ∈ row, c.lt n) (hR : BlkR ρ w g o (blk.ren ι)) : BlkR (ρ.ren ι n) w g o blk := by
  obtain ⟨c, fr, h1, h2, h3, h4, h5⟩ := hR
  refine ⟨c, fr, h1, h2, by simpa [Blk.ren] using h3, fun i row hi => ?_, fun i j row x hi hj => ?_⟩
  · have := h4 i (row.map (CV.ren ι)) (by simp [Blk.ren, hi])
    simpa [Blk.ren] using this
  · obtain ⟨v, h6, h7, h8⟩ := h5 i j (row.map (CV.ren ι)) (x.ren ι) (by simp [Blk.ren, hi]) (by simp [hj])
    exact ⟨v, h6, h7.ren (hx row (List.mem_of_getElem? hi) x (List.mem_of_getElem? hj)), h8⟩
theorem G.weak (hG : G h w0 ρ w) {n0 : Nat} {ι : Nat → Nat} {h2 : Heap} (heap : ∀ (b : Nat) blk, h2[b]? = some (some blk) → h.length ≤ ι b ∨ ∃ blk1, h[ι b]? = some (some blk1) ∧ ∀ ρ w g o, BlkR ρ w g o blk1 → BlkR (ρ.ren ι h2.length) w g o blk)
    (inj : ∀ b b', b < h2.length → b' < h2.length → ι b = ι b' → b = b') (low : ∀ b, b < n0 → ι b = b) (long : n0 ≤ h2.length) : G h2 w0 (ρ.ren ι h2.length) w ∧ AdvN n0 ρ w (ρ.ren ι h2.length) w := by
  have hat : ∀ b x, ρ.ren ι h2.length b = some x → b < h2.length ∧ ρ (ι b) = some x := fun b x hb => by
    unfold Own.ren at hb
    dsimp only at hb
    split at hb
    · rename_i e; exact ⟨e, hb⟩
    · cases hb
  have real : ∀ b blk x, h2[b]? = some (some blk) → ρ (ι b) = some x → ∃ blk1, h[ι b]? = some (some blk1) ∧ ∀ ρ w g o, BlkR ρ w g o blk1 → BlkR (ρ.ren ι h2.length) w g o blk := fun b blk x h1 hx => by
    rcases heap b blk h1 with hc | hc
    · have := (hG.lo _ x.1 x.2 hx).2.2; omega
    · exact hc
  refine ⟨⟨hG.below, fun b g o hb => ?_, fun b blk g o h1 hb => ?_, fun b b' blk blk' g o o' h1 h2' hb hb' => ?_, hG.past⟩, ⟨rfl, rfl, rfl, Nat.le_refl _, fun _ _ _ => rfl, fun g c T fr hc => ⟨c, fr, hc, rfl⟩, fun b x hb hx => ?_, fun b g o hb => .inl ⟨ι b, o, (hat b _ hb).2⟩, rfl⟩⟩
  · obtain ⟨e1, e2⟩ := hat b _ hb
    obtain ⟨k1, k2, _⟩ := hG.lo _ g o e2
    exact ⟨k1, k2, e1⟩
  · obtain ⟨e1, e2⟩ := hat b _ hb
    obtain ⟨blk1, k1, k2⟩ := real b blk _ h1 e2
    exact k2 _ _ _ _ (hG.held _ _ g o k1 e2)
  · obtain ⟨e1, e2⟩ := hat b _ hb
    obtain ⟨e3, e4⟩ := hat b' _ hb'
    obtain ⟨blk1, k1, _⟩ := real b blk _ h1 e2
    obtain ⟨blk2, k2, _⟩ := real b' blk' _ h2' e4
    exact inj b b' e1 e3 (hG.inj _ _ _ _ g o o' k1 k2 e2 e4)
  · show (if b < h2.length then ρ (ι b) else none) = some x
    rw [if_pos (Nat.lt_of_lt_of_le hb long), low b hb]
    exact hx
/-- The weaker state holds too. -/
theorem Rel.weak (hR : Rel t h N w0 ρ a w) {n0 : Nat} {ι : Nat → Nat} {t2 : Slots} {h2 : Heap} (hW : Weak n0 ι t h t2 h2) : Rel t2 h2 N w0 (ρ.ren ι h2.length) a w ∧ AdvN n0 ρ w (ρ.ren ι h2.length) w := by
  obtain ⟨h1, h3⟩ := hR.g.weak hW.heap hW.inj hW.low hW.long
  refine ⟨⟨h1, fun i x hx => ?_, hR.size, hR.defers⟩, h3⟩
  obtain ⟨y, h4, h5⟩ := hW.slots i x hx
  exact h5 _ _ _ (hR.slots i y h4)
end
/-! ### Code -/
/-- A state that some fewer facts describe. -/
def WeakE (n0 : Nat) (t : Slots) (h : Heap) (t2 : Slots) (h2 : Heap) : Prop := ∃ ι, Weak n0 ι t h t2 h2
/-- The code, in every world that the state describes. -/
def WpE (P : Program) (N n0 : Nat) (c : Code) (t : Slots) (h : Heap) (K : Exit → Slots → Heap → Prop) : Prop := ∀ (w0 : World) (ρe : Own) (we : World) (Q : Exit → Act → World → Prop) (ρ : Own) (a : Act) (w : World), Rel t h N w0 ρ a w → AdvN n0 ρe we ρ w →
    (∀ e t' h' ρ' a' w', K e t' h' → Rel t' h' N w0 ρ' a' w' → AdvN n0 ρe we ρ' w' → Q e a' w') → c.wp P Q a w
def codeE (P : Program) (N n0 : Nat) : Code → Slots → Heap → (Exit → Slots → Heap → Prop) → Prop
  | .skip, t, h, K => K .normal t h
  | .label _, t, h, K => K .normal t h
  | .region _ ops draw, t, h, K => if draw then ∃ k, drawOk ops k N = true ∧ P.follows .mixedOrders = true ∧ chainE P ops N (ops.toList.take k) t h (fun t' h' => opsE P ops N (ops.toList.drop k) t' h' (K .normal)) else opsE P ops N ops.toList t h (K .normal)
  | .seq x y, t, h, K => codeE P N n0 x t h fun e t' h' => match e with
    | .normal => codeE P N n0 y t' h' K
    | e => K e t' h'
  | .cond c x y, t, h, K => ow (evB t c) fun b => (b = true → codeE P N n0 x t h K) ∧ (b = false → codeE P N n0 y t h K)
  | .block id c, t, h, K => codeE P N n0 c t h fun e t' h' => match e with
    | .exit id' => if id' = id then K .normal t' h' else K (.exit id') t' h'
    | e => K e t' h'
  | .loop c, t, h, K => ∃ (I : Nat → Slots → Heap → Prop) (n : Nat), (∃ t2 h2, WeakE n0 t h t2 h2 ∧ I n t2 h2) ∧ ∀ n t h, I n t h → codeE P N n0 c t h fun e t' h' => match e with
    | .normal => ∃ m, m < n ∧ ∃ t2 h2, WeakE n0 t' h' t2 h2 ∧ I m t2 h2
    | e => K e t' h'
  | .exit id, t, h, K => K (.exit id) t h
  | .goto l, t, h, K => K (.goto l) t h
  | .ret, t, h, K => K .ret t h
  | .scope c, t, h, K => WpE P N n0 (.scope c) t h K
  | .rangeFunc f ps x y, t, h, K => WpE P N n0 (.rangeFunc f ps x y) t h K
  | .refuse _, _, _, _ => False
theorem wp_loop_rel {P : Program} {Q : Exit → Act → World → Prop} {c : Code} {a : Act} {w : World} (I : Nat → Act → World → Prop) (n : Nat) (h₀ : I n a w) (round : ∀ n a w, I n a w → c.wp P (Exit.then (fun a' w' => ∃ m, m < n ∧ I m a' w') Q) a w) : (Code.loop c).wp P Q a w := by
  intro b k cs
  have key : ∀ n a w, I n a w → ∃ e a' w', Q e a' w' ∧ Arrives P (lone (b.at a (.code c :: .inLoop c :: k)) cs w) b k cs e a' w' := by
    intro n
    induction n using Nat.strongRecOn with
    | _ n ih =>
      intro a w hI
      obtain ⟨e, a₁, w₁, hq, harr⟩ := round n a w hI b (.inLoop c :: k) cs
      cases e with
      | normal =>
        obtain ⟨m, hlt, hI₁⟩ := hq
        obtain ⟨e₂, a₂, w₂, hq₂, harr₂⟩ := ih m hlt a₁ w₁ hI₁
        exact ⟨e₂, a₂, w₂, hq₂, .of_steps (Steps.trans harr (.one step_inLoop)) harr₂⟩
      | exit id => exact ⟨_, a₁, w₁, hq, .pass (x := .inLoop c) rfl (fun _ _ => .inl (by simp)) harr⟩
      | goto l => exact ⟨_, a₁, w₁, hq, .pass (x := .inLoop c) rfl (fun _ _ => .inl (by simp)) harr⟩
      | ret => exact ⟨_, a₁, w₁, hq, .pass (x := .inLoop c) rfl (fun _ _ => .inl (by simp)) harr⟩
      | panic ch => exact ⟨_, a₁, w₁, hq, .pass (x := .inLoop c) rfl (fun _ _ => .inl (by simp)) harr⟩
      | outgrown => exact ⟨_, a₁, w₁, hq, .pass (x := .inLoop c) rfl (fun _ _ => .inl (by simp)) harr⟩
  obtain ⟨e, a', w', hq, harr⟩ := key n a w h₀
  exact ⟨e, a', w', hq, .of_steps (.one step_loop) harr⟩
/-- A scope in which the run jumps back to one label: a, then the label, then r. -/
theorem wp_scope_rel {P : Program} {Q : Exit → Act → World → Prop} {x r : Code} {l : Nat} {a : Act} {w : World} (I : Nat → Act → World → Prop) (hf : findLabel (.seq x (.seq (.label l) r)) l = some r)
    (first : x.wp P (fun e a w => match e with | .normal => ∃ n, I n a w | .goto _ => False | e => Q e a w) a w)
    (pass : ∀ n a w, I n a w → r.wp P (fun e a' w' => match e with | .goto l' => l' = l ∧ ∃ m, m < n ∧ I m a' w' | e => Q e a' w') a w) : (Code.scope (.seq x (.seq (.label l) r))).wp P Q a w := by
  have hr : ∀ n a w, I n a w → r.wp P (Exit.jump l (fun a' w' => ∃ m, m < n ∧ I m a' w') Q) a w := fun n a w hI b k cs => by
    obtain ⟨e, a₁, w₁, hq, harr⟩ := pass n a w hI b k cs
    exact ⟨e, a₁, w₁, by cases e <;> exact hq, harr⟩
  have hseq : (Code.seq x (.seq (.label l) r)).wp P (Exit.jump l (fun a' w' => ∃ m, I m a' w') Q) a w := by
    refine wp_seq (fun b k cs => ?_)
    obtain ⟨e, a₁, w₁, hq, harr⟩ := first b k cs
    refine ⟨e, a₁, w₁, ?_, harr⟩
    cases e with
    | normal =>
      obtain ⟨n, hI⟩ := hq
      refine wp_seq (wp_label fun b k cs => ?_)
      obtain ⟨e, a₁, w₁, hq, harr⟩ := hr n _ _ hI b k cs
      refine ⟨e, a₁, w₁, ?_, harr⟩
      cases e with
      | goto l' => exact ⟨hq.1, hq.2.elim fun m hm => ⟨m, hm.2⟩⟩
      | _ => exact hq
    | goto l' => exact hq.elim
    | _ => exact hq
  intro b k cs
  have hg : gotoIn l (.inScope (.seq x (.seq (.label l) r)) :: k) = some (.code r :: .inScope (.seq x (.seq (.label l) r)) :: k) := by simp [gotoIn, hf]
  have key : ∀ n a w, I n a w → ∃ e a' w', Q e a' w' ∧ Arrives P (lone (b.at a (.code r :: .inScope (.seq x (.seq (.label l) r)) :: k)) cs w) b k cs e a' w' := by
    intro n
    induction n using Nat.strongRecOn with
    | _ n ih =>
      intro a w hJ
      obtain ⟨e, a₁, w₁, hq, harr⟩ := hr n a w hJ b (.inScope (.seq x (.seq (.label l) r)) :: k) cs
      cases e with
      | normal => exact ⟨.normal, a₁, w₁, hq, Steps.trans harr (.one step_inScope)⟩
      | exit id => exact ⟨.exit id, a₁, w₁, hq, fun k' hk => harr k' (by simp [exitTo, hk])⟩
      | goto l' =>
        obtain ⟨rfl, m, hlt, hJ'⟩ := hq
        obtain ⟨e₂, a₂, w₂, hq₂, harr₂⟩ := ih m hlt a₁ w₁ hJ'
        exact ⟨e₂, a₂, w₂, hq₂, .of_steps (harr _ hg) harr₂⟩
      | ret => exact ⟨_, a₁, w₁, hq, harr⟩
      | panic ch => exact ⟨_, a₁, w₁, hq, harr⟩
      | outgrown => exact ⟨_, a₁, w₁, hq, harr⟩
  obtain ⟨e, a₁, w₁, hq, harr⟩ := hseq b (.inScope (.seq x (.seq (.label l) r)) :: k) cs
  cases e with
  | normal => exact ⟨.normal, a₁, w₁, hq, .head step_scope (Steps.trans harr (.one step_inScope))⟩
  | exit id => exact ⟨.exit id, a₁, w₁, hq, fun k' hk => .head step_scope (harr k' (by simp [exitTo, hk]))⟩
  | goto l' =>
    obtain ⟨rfl, m, hJ'⟩ := hq
    obtain ⟨e₂, a₂, w₂, hq₂, harr₂⟩ := key _ a₁ w₁ hJ'
    exact ⟨e₂, a₂, w₂, hq₂, .of_steps (.head step_scope (harr _ hg)) harr₂⟩
  | ret => exact ⟨_, a₁, w₁, hq, .of_steps (.one step_scope) harr⟩
  | panic ch => exact ⟨_, a₁, w₁, hq, .of_steps (.one step_scope) harr⟩
  | outgrown => exact ⟨_, a₁, w₁, hq, .of_steps (.one step_scope) harr⟩
section
variable {P : Program} {w0 : World} {N n0 : Nat} {ρe : Own} {we : World}
theorem codeE_sound : ∀ (c : Code) (t : Slots) (h : Heap) (K : Exit → Slots → Heap → Prop) (Q : Exit → Act → World → Prop) (ρ : Own) (a : Act) (w : World), codeE P N n0 c t h K → Rel t h N w0 ρ a w → AdvN n0 ρe we ρ w →
    (∀ e t' h' ρ' a' w', K e t' h' → Rel t' h' N w0 ρ' a' w' → AdvN n0 ρe we ρ' w' → Q e a' w') → c.wp P Q a w
  | .skip, t, h, K, Q, ρ, a, w, hE, hR, hA, hQ => wp_skip (hQ _ _ _ _ _ _ hE hR hA)
  | .label _, t, h, K, Q, ρ, a, w, hE, hR, hA, hQ => wp_label (hQ _ _ _ _ _ _ hE hR hA)
  | .region id ops draw, t, h, K, Q, ρ, a, w, hE, hR, hA, hQ => by
    cases draw with
    | true =>
      obtain ⟨k, h1, h2, h3⟩ := hE
      exact draw_sound h2 k h1 hR h3 (fun t' h' ρ' a' w' hK hR' ha => hQ _ _ _ _ _ _ hK hR' (hA.trans (ha.n n0)))
    | false =>
      refine wp_region ?_
      have hE' : opsE P ops N ops.toList t h (K .normal) := hE
      have := opsE_sound (P := P) (ops := ops) (Q := Q) ops.toList 0 t h ρ a w (fun i o hi => by simpa using hi) hR hE' (fun t' h' ρ' a' w' hK hR' ha => hQ _ _ _ _ _ _ hK hR' (hA.trans (ha.n n0)))
      rw [List.range_eq_range']
      simpa using this
  | .seq x y, t, h, K, Q, ρ, a, w, hE, hR, hA, hQ => by
    refine wp_seq (codeE_sound x t h _ _ ρ a w hE hR hA fun e t' h' ρ' a' w' hK hR' hA' => ?_)
    cases e with
    | normal => exact codeE_sound y t' h' K Q ρ' a' w' hK hR' hA' hQ
    | _ => exact hQ _ _ _ _ _ _ hK hR' hA'
  | .cond c x y, t, h, K, Q, ρ, a, w, hE, hR, hA, hQ => by
    obtain ⟨b, h1, h2, h3⟩ := hE
    have hb := evB_R (fun v hv => hR.evO c v hv) h1
    exact wp_cond_split hb (fun e => codeE_sound x t h K Q ρ a w (h2 e) hR hA hQ) (fun e => codeE_sound y t h K Q ρ a w (h3 e) hR hA hQ)
  | .block id c, t, h, K, Q, ρ, a, w, hE, hR, hA, hQ => by
    refine wp_block (codeE_sound c t h _ _ ρ a w hE hR hA fun e t' h' ρ' a' w' hK hR' hA' => ?_)
    cases e with
    | exit id' =>
      dsimp only at hK
      by_cases hid : id' = id
      · rw [if_pos hid] at hK
        simp only [Exit.inBlock, hid, if_true]
        exact hQ _ _ _ _ _ _ hK hR' hA'
      · rw [if_neg hid] at hK
        simp only [Exit.inBlock, hid, if_false]
        exact hQ _ _ _ _ _ _ hK hR' hA'
    | _ => exact hQ _ _ _ _ _ _ hK hR' hA'
  | .loop c, t, h, K, Q, ρ, a, w, hE, hR, hA, hQ => by
    obtain ⟨I, n, ⟨t2, h2, ⟨ι, hW⟩, hI⟩, hround⟩ := hE
    obtain ⟨hR2, hA2⟩ := hR.weak hW
    refine wp_loop_rel (fun n a w => ∃ t h ρ, I n t h ∧ Rel t h N w0 ρ a w ∧ AdvN n0 ρe we ρ w) n ⟨t2, h2, _, hI, hR2, hA.trans hA2⟩ ?_
    rintro n a w ⟨t, h, ρ, hI, hR, hA⟩
    refine codeE_sound c t h _ _ ρ a w (hround n t h hI) hR hA fun e t' h' ρ' a' w' hK hR' hA' => ?_
    cases e with
    | normal =>
      obtain ⟨m, hm, t2, h2, ⟨ι, hW⟩, hI'⟩ := hK
      obtain ⟨hR2, hA2⟩ := hR'.weak hW
      exact ⟨m, hm, t2, h2, _, hI', hR2, hA'.trans hA2⟩
    | _ => exact hQ _ _ _ _ _ _ hK hR' hA'
  | .exit id, t, h, K, Q, ρ, a, w, hE, hR, hA, hQ => wp_exit (hQ _ _ _ _ _ _ hE hR hA)
  | .goto l, t, h, K, Q, ρ, a, w, hE, hR, hA, hQ => wp_goto (hQ _ _ _ _ _ _ hE hR hA)
  | .ret, t, h, K, Q, ρ, a, w, hE, hR, hA, hQ => wp_ret (hQ _ _ _ _ _ _ hE hR hA)
  | .rangeFunc .., t, h, K, Q, ρ, a, w, hE, hR, hA, hQ => hE w0 ρe we Q ρ a w hR hA hQ
  | .scope _, t, h, K, Q, ρ, a, w, hE, hR, hA, hQ => hE w0 ρe we Q ρ a w hR hA hQ
  | .refuse _, t, h, K, Q, ρ, a, w, hE, hR, hA, hQ => hE.elim
/-- The scope's rule: I holds at the label, with a number that sinks. -/
def passK (n0 l : Nat) (I : Nat → Slots → Heap → Prop) (n : Nat) (K : Exit → Slots → Heap → Prop) (e : Exit) (t : Slots) (h : Heap) : Prop := match e with
  | .goto l' => l' = l ∧ ∃ m, m < n ∧ ∃ t2 h2, WeakE n0 t h t2 h2 ∧ I m t2 h2
  | e => K e t h
def firstK (n0 : Nat) (I : Nat → Slots → Heap → Prop) (n : Nat) (K : Exit → Slots → Heap → Prop) (e : Exit) (t : Slots) (h : Heap) : Prop := match e with
  | .normal => ∃ t2 h2, WeakE n0 t h t2 h2 ∧ I n t2 h2
  | .goto _ => False
  | e => K e t h
theorem codeE_scope {x r : Code} {l : Nat} {t : Slots} {h : Heap} {K : Exit → Slots → Heap → Prop} (I : Nat → Slots → Heap → Prop) (n : Nat) (hf : findLabel (.seq x (.seq (.label l) r)) l = some r)
    (h1 : codeE P N n0 x t h (firstK n0 I n K)) (h2 : ∀ n t h, I n t h → codeE P N n0 r t h (passK n0 l I n K)) : codeE P N n0 (.scope (.seq x (.seq (.label l) r))) t h K := by
  intro w0 ρe we Q ρ a w hR hA hQ
  refine wp_scope_rel (fun n a w => ∃ t h ρ, I n t h ∧ Rel t h N w0 ρ a w ∧ AdvN n0 ρe we ρ w) hf ?_ ?_
  · refine codeE_sound x t h _ _ ρ a w h1 hR hA fun e t' h' ρ' a' w' hK hR' hA' => ?_
    cases e with
    | normal =>
      obtain ⟨t2, h2, ⟨ι, hW⟩, hI'⟩ := hK
      obtain ⟨hR2, hA2⟩ := hR'.weak hW
      exact ⟨n, t2, h2, _, hI', hR2, hA'.trans hA2⟩
    | goto l' => exact hK.elim
    | _ => exact hQ _ _ _ _ _ _ hK hR' hA'
  · rintro n a w ⟨t, h, ρ, hI, hR, hA⟩
    refine codeE_sound r t h _ _ ρ a w (h2 n t h hI) hR hA fun e t' h' ρ' a' w' hK hR' hA' => ?_
    cases e with
    | goto l' =>
      obtain ⟨rfl, m, hm, t2, h2, ⟨ι, hW⟩, hI'⟩ := hK
      obtain ⟨hR2, hA2⟩ := hR'.weak hW
      exact ⟨rfl, m, hm, t2, h2, _, hI', hR2, hA'.trans hA2⟩
    | _ => exact hQ _ _ _ _ _ _ hK hR' hA'
end
end AM
end Go.Proofs.Ytfbnjemmmgobkaa

namespace Go.Proofs.Ytfbnjemmmgobkaa
open Go.RowKit
set_option linter.unusedVariables false
set_option linter.unusedSimpArgs false
namespace AM
def argS : Nat → List AV → Slots
  | _, [] => []
  | k, x :: r => (k, x) :: argS (k + 1) r
def resOf (P : Program) (t : Slots) (h : Heap) : ResultVar → Option A1
  | .tmp i => match get t i with
    | some (.a x) => some x
    | _ => none
  | .cell i T => (get t i).bind (loadA P h T)
def pack : List A1 → AV
  | [x] => .a x
  | xs => .tup xs
def resE (P : Program) (fn : Func) (t : Slots) (h : Heap) (K : AV → Prop) : Prop := ow (omap (resOf P t h) fn.results.toList) fun xs => K (pack xs)
section
variable {P : Program} {ρ : Own} {w w0 : World} {h : Heap} {t : Slots} {N : Nat} {a : Act}
theorem argS_get : ∀ (xs : List AV) (k i : Nat) (x : AV), get (argS k xs) i = some x → k ≤ i ∧ xs[i - k]? = some x
  | [], k, i, x, h => by cases h
  | y :: r, k, i, x, h => by
    simp only [argS, get] at h
    split at h
    · rename_i e; subst e; cases h; exact ⟨Nat.le_refl _, by simp⟩
    · obtain ⟨h1, h2⟩ := argS_get r (k + 1) i x h
      exact ⟨by omega, by rw [show i - k = (i - (k + 1)) + 1 by omega]; exact h2⟩
theorem resE_sound (hR : Rel t h N w0 ρ a w) {fn : Func} {K : AV → Prop} (hE : resE P fn t h K) : ∃ v r, (results fn a.tmps).run P w = .ok v w ∧ K r ∧ AR ρ w r v := by
  obtain ⟨xs, h1, h2⟩ := hE
  have one : ∀ (rv : ResultVar) (x : A1), resOf P t h rv = some x → ∃ v, ((match rv with | .tmp t => pure (a.tmps.getD t undef) | .cell b t => do loadVar t (← asAddr (a.tmps.getD b undef))) : Sem Value).run P w = .ok v w ∧ R1 ρ w x v := fun rv x hx => by
    cases rv with
    | tmp i =>
      simp only [resOf] at hx
      split at hx
      · rename_i y hg; cases hx; exact ⟨_, rfl, hR.slots i _ hg⟩
      · cases hx
    | cell i T =>
      simp only [resOf, Option.bind_eq_some_iff] at hx
      obtain ⟨u, hg, hl⟩ := hx
      obtain ⟨v, w', hrun, x', bs, ρ', ⟨e1, e2⟩, _, hxr, hbs⟩ := s_load (P := P) (n := 0) (K := fun y c => y = .a x ∧ c = none) hR.g (fun b blk hb => hb) (hR.slots i u hg) hl ⟨rfl, rfl⟩
      subst e1; subst e2
      dsimp only at hbs
      subst hbs
      have hp : ∃ ad, a.tmps.getD i undef = .pointer (some ad) := by
        have hu := hR.slots i u hg
        unfold loadA at hl
        cases hs : sizeL P T with
        | none => rw [hs] at hl; cases hl
        | some s =>
          rw [hs, Option.bind_some] at hl
          split at hl
          · obtain ⟨⟨g, q, f, e, _⟩, _⟩ := hu; exact ⟨_, e⟩
          · obtain ⟨⟨g, o, _, e⟩, _⟩ := hu; exact ⟨_, e⟩
          · cases hl
      obtain ⟨ad, hp⟩ := hp
      have hw : w' = w := by
        rw [hp] at hrun
        have := hrun
        unfold loadA at hl
        cases hs : sizeL P T with
        | none => rw [hs] at hl; cases hl
        | some s =>
          obtain ⟨i0, d, hi, hsz, hu', hd⟩ := sizeL_parts (k := s.1) (b := s.2) hs
          have hagg : (isAgg T).run P w = .ok d.isRow w := by
            unfold isAgg; rw [Sem.run_bind, run_underlying hu' w]; cases d <;> rfl
          have hsame : ∀ (n k : Nat) (acc : Array Value) (v : Array Value) (w' : World), (loadCellsFrom ad k n acc).run P w = .ok v w' → w' = w := by
            intro n
            induction n with
            | zero => intro k acc v w' hr; simp [loadCellsFrom] at hr; exact hr.2.symm
            | succ n ih =>
              intro k acc v w' hr
              simp only [loadCellsFrom, Sem.run_bind] at hr
              cases hc : (load (ad.add k)).run P w with
              | ok u w1 =>
                have : w1 = w := by
                  simp only [load, Sem.run] at hc
                  split at hc
                  · cases hc; rfl
                  · split at hc
                    · cases hc; rfl
                    · cases hc
                rw [hc] at hr
                subst this
                exact ih _ _ _ _ hr
              | halt x w1 => rw [hc] at hr; cases hr
          simp only [Instr.loadAt, Instr.sureAddr, loadVar, Sem.run_bind, Sem.run_pure, Result.andThen_ok, hagg] at hrun
          cases hb : d.isRow with
          | true =>
            rw [hb] at hrun
            simp only [if_true, Sem.run_bind, sizeOf, typeInfo, hi] at hrun
            cases hc : (loadCells ad i0.size).run P w with
            | ok u w1 =>
              have e := hsame _ _ _ _ _ hc
              subst e
              simp [hi, hc] at hrun
              exact hrun.2.symm
            | halt x w1 => simp [hi, hc] at hrun
          | false =>
            rw [hb] at hrun
            simp only [Bool.false_eq_true, if_false, load, Sem.run] at hrun
            split at hrun
            · cases hrun; rfl
            · split at hrun
              · cases hrun; rfl
              · cases hrun
      subst hw
      refine ⟨v, ?_, hxr⟩
      dsimp only
      rw [hp] at hrun ⊢
      simp only [Instr.loadAt, Instr.sureAddr, Sem.run_bind, Sem.run_pure, Result.andThen_ok] at hrun
      simp only [asAddr, Sem.run_bind, Sem.run_pure, Result.andThen_ok, hrun]
  have all : ∀ (l : List ResultVar) (xs : List A1), omap (resOf P t h) l = some xs → ∃ vs : List Value, (l.mapM fun rv => ((match rv with | .tmp t => pure (a.tmps.getD t undef) | .cell b t => do loadVar t (← asAddr (a.tmps.getD b undef))) : Sem Value)).run P w = .ok vs w ∧ vs.length = xs.length ∧ ∀ (j : Nat) x, xs[j]? = some x → ∃ u, vs[j]? = some u ∧ R1 ρ w x u := by
    intro l
    induction l with
    | nil => intro xs hx; cases hx; exact ⟨[], by simp, rfl, fun j x hj => by simp at hj⟩
    | cons rv r ih =>
      intro xs hx
      simp only [omap] at hx
      split at hx
      · rename_i y l' hy hl'
        cases hx
        obtain ⟨v, h3, h4⟩ := one rv y hy
        obtain ⟨vs, h5, h6, h7⟩ := ih l' hl'
        refine ⟨v :: vs, ?_, by simp [h6], fun j x hj => ?_⟩
        · rw [List.mapM_cons, Sem.run_bind, h3]
          simp only [Result.andThen_ok, Sem.run_bind, h5, Sem.run_pure]
        · cases j with
          | zero => cases hj; exact ⟨v, rfl, h4⟩
          | succ j => exact h7 j x hj
      · cases hx
  obtain ⟨vs, h3, h4, h5⟩ := all _ xs h1
  have hm : (fn.results.mapM fun rv => ((match rv with | .tmp t => pure (a.tmps.getD t undef) | .cell b t => do loadVar t (← asAddr (a.tmps.getD b undef))) : Sem Value)).run P w = .ok vs.toArray w := by
    rw [Array.mapM_eq_mapM_toList]
    show Sem.run P ((fn.results.toList.mapM _) >>= fun l => pure l.toArray) w = _
    rw [Sem.run_bind, h3]
    rfl
  have hres : (results fn a.tmps).run P w = .ok (if h : vs.toArray.size = 1 then vs.toArray[0] else .tuple vs.toArray) w := by
    unfold results
    rw [Sem.run_bind]
    erw [hm]
    rfl
  refine ⟨_, pack xs, hres, h2, ?_⟩
  unfold pack
  split
  · rename_i x
    have hv : vs.length = 1 := by simpa using h4
    rw [dif_pos (by simpa using hv)]
    obtain ⟨u, h6, h7⟩ := h5 0 x rfl
    have : vs[0]? = some vs[0] := List.getElem?_eq_getElem (by omega)
    rw [this] at h6
    cases h6
    exact h7
  · rename_i hne
    have hv : vs.length ≠ 1 := fun e => by
      rw [h4] at e
      obtain ⟨x, hx⟩ := List.length_eq_one_iff.1 e
      exact hne x hx
    rw [dif_neg (by simpa using hv)]
    exact ⟨vs.toArray, rfl, by simpa using h4, fun j x hj => by obtain ⟨u, h6, h7⟩ := h5 j x hj; exact ⟨u, by simpa using h6, h7⟩⟩
/-- The end of a function's body. -/
def endK (P : Program) (fn : Func) (K : AV → Heap → Prop) (e : Exit) (t : Slots) (h : Heap) : Prop := match e with
  | .normal | .ret => resE P fn t h fun r => K r h
  | _ => False
theorem body_sound {f : FuncId} {fn : Func} {c : Code} {xs : List AV} {K : AV → Heap → Prop} (hf : P.funcs[f]? = some fn) (hb : fn.body = some c) (hx : xs.length ≤ fn.ntmps) (hE : codeE P fn.ntmps h.length c (argS 0 xs) h (endK P fn K)) (hG : G h w0 ρ w) {vs : Array Value} (hs : vs.size = xs.length)
    (hv : ∀ (j : Nat) x, xs[j]? = some x → ∃ u, vs[j]? = some u ∧ AR ρ w x u) : Calls P f vs w fun e w' => ∃ v x h' ρ', e = .returned v ∧ K x h' ∧ G h' w0 ρ' w' ∧ Adv ρ w ρ' w' ∧ AR ρ' w' x v := by
  refine calls_of_wp hf hb (codeE_sound (N := fn.ntmps) (n0 := h.length) (ρe := ρ) (we := w) (w0 := w0) c _ h _ _ ρ _ w hE ⟨hG, fun i x hi => ?_, by simp; omega, rfl⟩ ((Adv.refl ρ w).n _) ?_)
  · obtain ⟨_, h1⟩ := argS_get xs 0 i x hi
    obtain ⟨u, h2, h3⟩ := hv i x (by simpa using h1)
    have : (vs ++ Array.replicate (fn.ntmps - vs.size) undef).getD i undef = u := by
      rw [Array.getD_eq_getD_getElem?, Array.getElem?_append_left (Array.getElem?_eq_some_iff.1 h2).1, h2]
      rfl
    dsimp only
    rw [this]; exact h3
  · intro e t' h' ρ' a' w' hK hR' hA'
    have ha : Adv ρ w ρ' w' := hA'.full (fun b x hb => (hG.lo b x.1 x.2 hb).2.2)
    cases e with
    | normal =>
      obtain ⟨v, r, h1, h2, h3⟩ := resE_sound (fn := fn) (K := fun r => K r h') hR' hK
      exact ⟨hR'.defers, v, h1, v, r, h', ρ', rfl, h2, hR'.g, ha, h3⟩
    | ret =>
      obtain ⟨v, r, h1, h2, h3⟩ := resE_sound (fn := fn) (K := fun r => K r h') hR' hK
      exact ⟨hR'.defers, v, h1, v, r, h', ρ', rfl, h2, hR'.g, ha, h3⟩
    | _ => exact hK.elim
theorem eff_of_code {f : FuncId} {fn : Func} {c : Code} {xs : List AV} {K : AV → Heap → Prop} (he : canEnter P f = true) (hf : P.funcs[f]? = some fn) (hb : fn.body = some c) (hx : xs.length ≤ fn.ntmps) (hE : codeE P fn.ntmps h.length c (argS 0 xs) h (endK P fn K)) : Eff P h f xs K :=
  ⟨he, fun _ _ _ _ hG hs hv => body_sound hf hb hx hE hG hs hv⟩
theorem pure_of_code {f : FuncId} {fn : Func} {c : Code} {xs : List AV} {fresh : Bool} {r : AV} (he : canEnter P f = true) (hf : P.funcs[f]? = some fn) (hb : fn.body = some c) (hx : xs.length ≤ fn.ntmps) (hE : codeE P fn.ntmps 0 c (argS 0 xs) [] (endK P fn fun r' h' => ExpA fresh h' r' r)) : Pure P fresh f xs r := by
  refine ⟨he, fun w S vs hS hs hv => ?_⟩
  let ρ0 : Own := ⟨fun _ => none, fun g => S g ∨ w.heap.size ≤ g⟩
  have hG : G [] w ρ0 w := ⟨Below.refl _ _, fun b g o hb => (by cases hb), fun b blk g o hb => (by simp at hb), fun b b' blk blk' g o o' hb => (by simp at hb), fun g hg => .inr hg⟩
  refine (body_sound (h := []) hf hb hx hE hG hs (fun j x hj => ?_)).mono ?_
  · obtain ⟨u, h1, h2⟩ := hv j x hj
    exact ⟨u, h1, PA.ar (h2.mono (fun g hg => ⟨hS g hg, fun b o hb => (by cases hb), .inl hg⟩) (fun _ _ _ => rfl))⟩
  · rintro e w' ⟨v, x, h', ρ', rfl, hexp, hG', ha, hxr⟩
    refine ⟨v, rfl, hG'.below, hexp.sound (fun hfr g hg => ?_) (fun b g o hb => ?_) hG' (fun b blk hb => hb) hxr⟩
    · have hA := hg.2.2
      rw [ha.A] at hA
      rcases hA with hA | hA
      · exact .inl ⟨hfr, hA⟩
      · exact .inr ⟨hA, hg.1⟩
    · obtain ⟨k1, k2, _⟩ := hG'.lo b g o hb
      exact .inr ⟨k1, k2⟩
end
end AM
end Go.Proofs.Ytfbnjemmmgobkaa
