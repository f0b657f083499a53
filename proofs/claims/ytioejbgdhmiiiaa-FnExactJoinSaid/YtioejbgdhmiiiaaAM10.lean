/- The abstract machine, 10: stores and appends. -/
import Derived.Test.YtioejbgdhmiiiaaAM9
import Derived.Deep.AppendSrc
import Derived.Deep.Upon
namespace Go.Proofs.Ytioejbgdhmiiiaa
open Go.RowKit
set_option linter.unusedVariables false
set_option linter.unusedSimpArgs false
namespace AM
theorem setCells_heap (g : Nat) (T : TypeId) (fr : Nat × Nat) : ∀ (vs : List Value) (off : Nat) (w : World) (c : Array Value), w.heap[g]? = some (.cells c T fr) → off + vs.length ≤ c.size →
    (w.setCells g off vs).os = w.os ∧ (w.setCells g off vs).tape = w.tape ∧ (w.setCells g off vs).output = w.output ∧ (w.setCells g off vs).heap.size = w.heap.size ∧ (∀ k, k ≠ g → (w.setCells g off vs).heap[k]? = w.heap[k]?) ∧
    ∃ c', (w.setCells g off vs).heap[g]? = some (.cells c' T fr) ∧ c'.size = c.size ∧ (∀ j, j < vs.length → c'[off + j]? = vs[j]?) ∧ ∀ q, q < off ∨ off + vs.length ≤ q → c'[q]? = c[q]?
  | [], off, w, c, h, hl => ⟨rfl, rfl, rfl, rfl, fun _ _ => rfl, c, h, rfl, fun j hj => by simp at hj, fun _ _ => rfl⟩
  | v :: r, off, w, c, h, hl => by
    have hfr : (w.setCell ⟨g, off, none⟩ v).heap[g]? = some (.cells (c.setIfInBounds off v) T fr) := by
      show (w.heap.modify g _)[g]? = _
      rw [Array.getElem?_modify, if_pos rfl, h]
      rfl
    obtain ⟨e1, e2, e3, e4, e5, c', e6, e7, e8, e9⟩ := setCells_heap g T fr r (off + 1) (w.setCell ⟨g, off, none⟩ v) _ hfr (by simp at hl ⊢; omega)
    refine ⟨e1, e2, e3, e4.trans (by simp), fun k hk => (e5 k hk).trans (heap_setCell_other w ⟨g, off, none⟩ k v hk), c', e6, by simpa using e7, fun j hj => ?_, fun q hq => ?_⟩
    · cases j with
      | zero =>
        have := e9 off (.inl (by omega))
        rw [Nat.add_zero, this, Array.getElem?_setIfInBounds_self_of_lt (by simp at hl; omega)]
        rfl
      | succ j =>
        have := e8 j (by simpa using hj)
        rw [show off + (j + 1) = off + 1 + j by omega, this]
        rfl
    · rw [e9 q (by simp at hq; omega), Array.getElem?_setIfInBounds_ne (by simp at hq; omega)]
section
variable {P : Program} {ρ : Own} {w w0 : World} {h : Heap}
/-- Cells of an own block are written. -/
theorem adv_setCells {b g o : Nat} {c : Array Value} {T : TypeId} {fr : Nat × Nat} (hρ : ρ b = some (g, o)) (hg : w.heap[g]? = some (.cells c T fr)) {off : Nat} {vs : List Value} (hl : off + vs.length ≤ c.size) : Adv ρ w ρ (w.setCells g off vs) := by
  obtain ⟨e1, e2, e3, e4, e5, c', e6, e7, e8, e9⟩ := setCells_heap g T fr vs off w c hg hl
  refine ⟨e1, e2, e3, by omega, fun k hk hn => e5 k (fun e => hn b o (by rw [e]; exact hρ)), fun k c1 T1 fr1 hk => ?_, fun _ _ h => h, fun b g o h => .inl ⟨b, o, h⟩, rfl⟩
  by_cases e : k = g
  · subst e
    rw [hg] at hk
    cases hk
    exact ⟨c', fr, e6, e7⟩
  · exact ⟨c1, fr1, (e5 k e).trans hk, rfl⟩
theorem below_setCells (hG : G h w0 ρ w) {b g o : Nat} {c : Array Value} {T : TypeId} {fr : Nat × Nat} (hρ : ρ b = some (g, o)) (hg : w.heap[g]? = some (.cells c T fr)) {off : Nat} {vs : List Value} (hl : off + vs.length ≤ c.size) : Below w0.heap.size w0 (w.setCells g off vs) := by
  obtain ⟨e1, e2, e3, e4, e5, _⟩ := setCells_heap g T fr vs off w c hg hl
  exact hG.below.trans ⟨e1, e2, e3, by omega, fun k hk => e5 k (fun e => by have := (hG.lo b g o hρ).1; omega)⟩
/-- The block b becomes another one; nothing else turns. -/
theorem G.turn (hG : G h w0 ρ w) {w' : World} {b g o : Nat} {blk blk' : Blk} (hb : h[b]? = some (some blk)) (hρ : ρ b = some (g, o)) (ha : Adv ρ w ρ w') (hbl : Below w0.heap.size w0 w') (hsame : ∀ k, k ≠ g → w'.heap[k]? = w.heap[k]?) (hR : BlkR ρ w' g o blk') : G (h.set b (some blk')) w0 ρ w' := by
  have hbl' : b < h.length := (List.getElem?_eq_some_iff.1 hb).1
  have live : ∀ (b₁ : Nat) blk₁, (h.set b (some blk'))[b₁]? = some (some blk₁) → ∃ blk₂, h[b₁]? = some (some blk₂) ∧ (b₁ = b ∧ blk₁ = blk' ∨ b₁ ≠ b ∧ blk₁ = blk₂) := fun b₁ blk₁ h1 => by
    rw [List.getElem?_set] at h1
    by_cases e : b = b₁
    · subst e
      rw [if_pos rfl, if_pos hbl'] at h1
      cases h1
      exact ⟨blk, hb, .inl ⟨rfl, rfl⟩⟩
    · rw [if_neg e] at h1
      exact ⟨blk₁, h1, .inr ⟨fun x => e x.symm, rfl⟩⟩
  refine ⟨hbl, fun b₁ g₁ o₁ h1 => by obtain ⟨h2, h3, h4⟩ := hG.lo b₁ g₁ o₁ h1; exact ⟨h2, Nat.lt_of_lt_of_le h3 ha.size, by simpa using h4⟩, fun b₁ blk₁ g₁ o₁ h1 h2 => ?_, fun b₁ b₂ blk₁ blk₂ g₁ o₁ o₂ h1 h2 h3 h4 => ?_, hG.past⟩
  · obtain ⟨blk₂, h3, ⟨rfl, rfl⟩ | ⟨h4, rfl⟩⟩ := live b₁ blk₁ h1
    · rw [hρ] at h2; cases h2; exact hR
    · exact (hG.held b₁ blk₁ g₁ o₁ h3 h2).adv ha (hsame g₁ (fun e => h4 (hG.inj b₁ b blk₁ blk g₁ o₁ o h3 hb h2 (by rw [e]; exact hρ))))
  · obtain ⟨x1, k1, _⟩ := live b₁ blk₁ h1
    obtain ⟨x2, k2, _⟩ := live b₂ blk₂ h2
    exact hG.inj b₁ b₂ x1 x2 g₁ o₁ o₂ k1 k2 h3 h4
/-! ### Stores -/
theorem over_at : ∀ (l cs : List CV) (off j : Nat), off + l.length ≤ cs.length → (over cs off l)[j]? = if off ≤ j ∧ j < off + l.length then l[j - off]? else cs[j]?
  | [], cs, off, j, _ => by rw [if_neg (by simp only [List.length_nil]; omega)]; rfl
  | c :: r, cs, off, j, h => by
    simp only [over]
    rw [over_at r (cs.set off c) (off + 1) j (by simp at h ⊢; omega)]
    by_cases e : j = off
    · subst e
      rw [if_neg (by omega), if_pos (by simp), Nat.sub_self, List.getElem?_set, if_pos rfl, if_pos (by simp at h; omega)]
      rfl
    · by_cases hin : off + 1 ≤ j ∧ j < off + 1 + r.length
      · rw [if_pos hin, if_pos (by simp; omega), show j - off = (j - (off + 1)) + 1 by omega]
        rfl
      · rw [if_neg hin, if_neg (by simp; omega), List.getElem?_set, if_neg (fun x => e x.symm)]
theorem e_store {T : TypeId} {m b i j k : Nat} {ag : Bool} {blk : Blk} {row cs : List CV} {y : AV} {u v : Value} (hG : G h w0 ρ w) (hb : h[b]? = some (some blk)) (hm : blk.m = m) (hrow : blk.rows[i]? = some row) (hs : sizeL P T = some (k, ag)) (hj : j + k ≤ row.length)
    (hx : AR ρ w (one (.ptr m b i j)) u) (hy : AR ρ w y v) (hc : cellsA y = some cs) (hk : cs.length = k) :
    ∃ w', (Instr.storeAt T u v).run P w = .ok () w' ∧ G (h.set b (some { blk with rows := blk.rows.set i (over row j cs) })) w0 ρ w' ∧ Adv ρ w ρ w' := by
  subst hm; subst hk
  obtain ⟨⟨g, o, hρ, rfl⟩, _⟩ := hx
  obtain ⟨i0, d, hi, hsz, hu, hd⟩ := sizeL_parts hs
  obtain ⟨c, fr, hg, hfr, hsize, hlen, hcell⟩ := hG.held b blk g o hb hρ
  have hC := cellsA_R hy hc
  have hil : i < blk.rows.length := (List.getElem?_eq_some_iff.1 hrow).1
  have hrl := hlen i row hrow
  have hmul := Nat.mul_le_mul_right blk.m (show i + 1 ≤ blk.rows.length by omega)
  rw [Nat.succ_mul] at hmul
  have hfit : o + (i * blk.m + j) + v.cells.toList.length ≤ c.size := by simp [hC.1]; omega
  have hthere : w.there g (o + (i * blk.m + j)) v.cells.size := fun q hq => by
    have hlt : o + (i * blk.m + j) + q < c.size := by simp at hfit; omega
    constructor
    · rw [cell_of_row w g _ c blk.T fr hg]; simp [hlt]
    · unfold World.frozen?
      rw [hg]
      have := hfr _ hlt
      simp only [Bool.and_eq_false_imp, decide_eq_true_eq]
      simpa using fun h1 => Nat.not_lt.1 (fun h2 => this ⟨h1, h2⟩)
  have hone : v.cells.all (·.oneCell') = true := by
    rw [Array.all_eq_true_iff_forall_mem]
    intro x hx
    obtain ⟨q, hq, rfl⟩ := Array.mem_iff_getElem.1 hx
    have hqc : q < cs.length := by rw [← hC.1]; exact hq
    obtain ⟨u, h1, _, h2⟩ := hC.2 q cs[q] (by simp [hqc])
    rw [Array.getElem?_eq_getElem hq] at h1
    rw [Option.some.inj h1]; exact h2
  have hrun : (Instr.storeAt T (.pointer (some ⟨g, o + (i * blk.m + j), none⟩)) v).run P w = .ok () (w.setCells g (o + (i * blk.m + j)) v.cells.toList) := by
    have := run_storeAt_mid (P := P) w g (o + (i * blk.m + j)) T v.cells hthere (by simp [hi, hsz, hC.1]) hone
    have e : (storeVar T ⟨g, o + (i * blk.m + j), none⟩ v) = storeVar T ⟨g, o + (i * blk.m + j), none⟩ (.agg v.cells) := by
      unfold storeVar; rfl
    simp only [Instr.storeAt, Instr.sureAddr, Sem.run_bind, Sem.run_pure, Result.andThen_ok] at this ⊢
    rw [e]; exact this
  have ha := adv_setCells (ρ := ρ) hρ hg hfit
  obtain ⟨_, _, _, _, e5, c', e6, e7, e8, e9⟩ := setCells_heap g blk.T fr v.cells.toList (o + (i * blk.m + j)) w c hg hfit
  refine ⟨_, hrun, hG.turn hb hρ ha (below_setCells hG hρ hg hfit) e5 ⟨c', fr, e6, by rw [e7]; exact hfr, by simp [e7]; exact hsize, fun i' row' hi' => ?_, fun i' j' row' x hi' hj' => ?_⟩, ha⟩
  · dsimp only at hi' ⊢
    rw [List.getElem?_set] at hi'
    by_cases ei : i = i'
    · rw [if_pos ei, if_pos hil] at hi'
      cases hi'; rw [over_len]; exact hrl
    · rw [if_neg ei] at hi'
      exact hlen i' row' hi'
  · dsimp only at hi' ⊢
    rw [List.getElem?_set] at hi'
    by_cases ei : i = i'
    · subst ei
      rw [if_pos rfl, if_pos hil] at hi'
      cases hi'
      rw [over_at cs row j j' (by omega)] at hj'
      by_cases hin : j ≤ j' ∧ j' < j + cs.length
      · rw [if_pos hin] at hj'
        obtain ⟨u, h1, h2, h3⟩ := hC.2 _ x hj'
        refine ⟨u, ?_, h2.adv ha, h3⟩
        have := e8 (j' - j) (by simp [hC.1]; omega)
        rw [show o + (i * blk.m + j) + (j' - j) = o + (i * blk.m + j') by omega] at this
        rw [this]; simpa using h1
      · rw [if_neg hin] at hj'
        obtain ⟨u, h1, h2, h3⟩ := hcell i j' row x hrow hj'
        exact ⟨u, by rw [e9 _ (by simp [hC.1]; omega)]; exact h1, h2.adv ha, h3⟩
    · rw [if_neg ei] at hi'
      obtain ⟨u, h1, h2, h3⟩ := hcell i' j' row' x hi' hj'
      have hj'm : j' < blk.m := by have h4 := hlen i' row' hi'; have := (List.getElem?_eq_some_iff.1 hj').1; omega
      refine ⟨u, ?_, h2.adv ha, h3⟩
      rw [e9 _ ?_]
      · exact h1
      · simp [hC.1]
        rcases Nat.lt_or_gt_of_ne ei with hlt | hgt
        · right
          have := Nat.mul_le_mul_right blk.m (show i + 1 ≤ i' by omega)
          rw [Nat.succ_mul] at this; omega
        · left
          have := Nat.mul_le_mul_right blk.m (show i' + 1 ≤ i by omega)
          rw [Nat.succ_mul] at this; omega
end
end AM
end Go.Proofs.Ytioejbgdhmiiiaa
