/- The abstract machine, 1: abstract values, own blocks, what they say of a world, and what later worlds leave of it. -/
import Derived.Test.YtioejbgdhmiiiaaRegionS
import Derived.Test.YtioejbgdhmiiiaaRows2
import Derived.Laws.CopyOwn
import Derived.Laws.OwnMore
import Derived.Laws.Rows
import Derived.Laws.Tables
namespace Go.Proofs.Ytioejbgdhmiiiaa
open Go.RowKit
set_option linter.unusedVariables false
set_option linter.unusedSimpArgs false
namespace AM
/-- A pure value of one cell: a value, or a slice that is read alone: its rows, m cells each. -/
inductive PV where
  | val (x : Value)
  | view (m : Nat) (rows : List (List PV))
  deriving Inhabited
/-- The value of one cell: pure; a pointer to cells that are read alone; a pointer into own block b, row i, cell j; a slice over own block b from row i on, of n rows; an empty slice without room. -/
inductive CV where
  | p (x : PV)
  | vp (cells : List PV)
  | ptr (m b i j : Nat)
  | sl (m b i n : Nat)
  | nilsl
  deriving Inhabited
inductive A1 where
  | one (c : CV)
  | agg (cs : List CV)
  deriving Inhabited
inductive AV where
  | a (x : A1)
  | tup (xs : List A1)
  | und
  deriving Inhabited
/-- An own block: its type, the cells of a row, the rows. -/
structure Blk where
  T : TypeId
  m : Nat
  rows : List (List CV)
abbrev Heap := List (Option Blk)
/-- Where own blocks lie: block and first cell; A: the blocks that may be read. -/
structure Own where
  f : Nat → Option (Nat × Nat)
  A : Nat → Prop
instance instOwn : CoeFun Own (fun _ => Nat → Option (Nat × Nat)) := ⟨Own.f⟩
/-- A block that was there, and is nobody's own. -/
def Fz (ρ : Own) (w : World) (g : Nat) : Prop := g < w.heap.size ∧ (∀ b o, ρ b ≠ some (g, o)) ∧ ρ.A g
inductive PR (S : Nat → Prop) (w : World) : PV → Value → Prop
  | val (x : Value) : PR S w (.val x) x
  | nil (m : Nat) (a : Option Addr) (c : Nat) : PR S w (.view m []) (.slice a 0 c)
  | view (m : Nat) (rows : List (List PV)) (g o c : Nat) (f : Nat → Nat → Value) (hne : rows ≠ []) (hS : S g) (hc : rows.length ≤ c)
      (hm : ∀ (i : Nat) (row : List PV), rows[i]? = some row → row.length = m)
      (hw : ∀ (i j : Nat) (row : List PV) (x : PV), rows[i]? = some row → row[j]? = some x → w.cell? ⟨g, o + (i * m + j), none⟩ = some (f i j))
      (ho : ∀ (i j : Nat) (row : List PV) (x : PV), rows[i]? = some row → row[j]? = some x → (f i j).oneCell' = true)
      (hr : ∀ (i j : Nat) (row : List PV) (x : PV), rows[i]? = some row → row[j]? = some x → PR S w x (f i j)) : PR S w (.view m rows) (.slice (some ⟨g, o, none⟩) rows.length c)
def CR (ρ : Own) (w : World) : CV → Value → Prop
  | .p x, v => PR (Fz ρ w) w x v
  | .vp cells, v => ∃ (g q : Nat) (f : Nat → Value), v = .pointer (some ⟨g, q, none⟩) ∧ Fz ρ w g ∧ (∀ (j : Nat) x, cells[j]? = some x → w.cell? ⟨g, q + j, none⟩ = some (f j)) ∧ ∀ (j : Nat) x, cells[j]? = some x → PR (Fz ρ w) w x (f j) ∧ (f j).oneCell' = true
  | .ptr m b i j, v => ∃ g o, ρ b = some (g, o) ∧ v = .pointer (some ⟨g, o + (i * m + j), none⟩)
  | .sl m b i n, v => (n = 0 ∧ ∃ a, v = .slice a 0 0) ∨ ∃ g o c, ρ b = some (g, o) ∧ v = .slice (some ⟨g, o + i * m, none⟩) n c ∧ n ≤ c ∧ c ≤ maxLen ∧ ∃ cs T fr, w.heap[g]? = some (.cells cs T fr) ∧ o + (i + c) * m ≤ cs.size
  | .nilsl, v => ∃ a, v = .slice a 0 0
def R1 (ρ : Own) (w : World) : A1 → Value → Prop
  | .one c, v => CR ρ w c v ∧ v.oneCell' = true
  | .agg cs, v => ∃ vs, v = .agg vs ∧ vs.size = cs.length ∧ ∀ (j : Nat) c, cs[j]? = some c → ∃ u, vs[j]? = some u ∧ CR ρ w c u ∧ u.oneCell' = true
def AR (ρ : Own) (w : World) : AV → Value → Prop
  | .a x, v => R1 ρ w x v
  | .tup xs, v => ∃ vs, v = .tuple vs ∧ vs.size = xs.length ∧ ∀ (j : Nat) x, xs[j]? = some x → ∃ u, vs[j]? = some u ∧ R1 ρ w x u
  | .und, v => v = undef
/-- No cell of n is frozen. -/
def Loose (fr : Nat × Nat) (n : Nat) : Prop := ∀ j, j < n → ¬ (fr.1 ≤ j ∧ j < fr.2)
/-- What an own block at (g, o) holds. -/
def BlkR (ρ : Own) (w : World) (g o : Nat) (blk : Blk) : Prop :=
  ∃ c fr, w.heap[g]? = some (.cells c blk.T fr) ∧ Loose fr c.size ∧ o + blk.rows.length * blk.m ≤ c.size ∧ (∀ (i : Nat) (row : List CV), blk.rows[i]? = some row → row.length = blk.m) ∧
    ∀ (i j : Nat) (row : List CV) (x : CV), blk.rows[i]? = some row → row[j]? = some x → ∃ v, c[o + (i * blk.m + j)]? = some v ∧ CR ρ w x v ∧ v.oneCell' = true
/-- From one world to a later one. -/
structure Adv (ρ : Own) (w : World) (ρ' : Own) (w' : World) : Prop where
  os : w'.os = w.os
  tape : w'.tape = w.tape
  output : w'.output = w.output
  size : w.heap.size ≤ w'.heap.size
  blk : ∀ g, g < w.heap.size → (∀ b o, ρ b ≠ some (g, o)) → w'.heap[g]? = w.heap[g]?
  row : ∀ (g : Nat) c T fr, w.heap[g]? = some (.cells c T fr) → ∃ c' fr', w'.heap[g]? = some (.cells c' T fr') ∧ c'.size = c.size
  keep : ∀ b x, ρ b = some x → ρ' b = some x
  new : ∀ b g o, ρ' b = some (g, o) → (∃ b₀ o₀, ρ b₀ = some (g, o₀)) ∨ w.heap.size ≤ g
  A : ρ'.A = ρ.A
theorem Adv.refl (ρ : Own) (w : World) : Adv ρ w ρ w := ⟨rfl, rfl, rfl, Nat.le_refl _, fun _ _ _ => rfl, fun _ c _ fr h => ⟨c, fr, h, rfl⟩, fun _ _ h => h, fun b g o h => .inl ⟨b, o, h⟩, rfl⟩
theorem Adv.fz {ρ ρ' : Own} {w w' : World} (h : Adv ρ w ρ' w') {g : Nat} (hg : Fz ρ w g) : Fz ρ' w' g :=
  ⟨Nat.lt_of_lt_of_le hg.1 h.size, fun b o hb => (by
    rcases h.new b g o hb with ⟨b₀, o₀, h0⟩ | h0
    · exact hg.2.1 b₀ o₀ h0
    · have := hg.1; omega), by rw [h.A]; exact hg.2.2⟩
theorem Adv.trans {ρ ρ' ρ'' : Own} {w w' w'' : World} (h : Adv ρ w ρ' w') (k : Adv ρ' w' ρ'' w'') : Adv ρ w ρ'' w'' :=
  ⟨k.os.trans h.os, k.tape.trans h.tape, k.output.trans h.output, Nat.le_trans h.size k.size,
   fun g hg hn => (k.blk g (Nat.lt_of_lt_of_le hg h.size) (fun b o hb => by
    rcases h.new b g o hb with ⟨b₀, o₀, h0⟩ | h0
    · exact hn b₀ o₀ h0
    · omega)).trans (h.blk g hg hn),
   fun g c T fr hc => by
    obtain ⟨c', fr', h1, h2⟩ := h.row g c T fr hc
    obtain ⟨c'', fr'', h3, h4⟩ := k.row g c' T fr' h1
    exact ⟨c'', fr'', h3, h4.trans h2⟩,
   fun b x hb => k.keep b x (h.keep b x hb),
   fun b g o hb => by
    rcases k.new b g o hb with ⟨b₀, o₀, h0⟩ | h0
    · exact h.new b₀ g o₀ h0
    · exact .inr (Nat.le_trans h.size h0), k.A.trans h.A⟩
theorem Adv.of_below {ρ : Own} {w w' : World} (h : Below w.heap.size w w') : Adv ρ w ρ w' :=
  ⟨h.os, h.tape, h.output, h.size, fun g hg _ => h.block g hg, fun g c T fr hc => ⟨c, fr, (h.block g (Array.getElem?_eq_some_iff.1 hc).1).trans hc, rfl⟩, fun _ _ h => h, fun b g o h => .inl ⟨b, o, h⟩, rfl⟩
theorem Adv.cell {ρ ρ' : Own} {w w' : World} (h : Adv ρ w ρ' w') {g q : Nat} (hg : Fz ρ w g) : w'.cell? ⟨g, q, none⟩ = w.cell? ⟨g, q, none⟩ :=
  World.cell?_of_block (w := w) (h.blk g hg.1 hg.2.1)
theorem PR.val_eq {S : Nat → Prop} {w : World} {x v : Value} (h : PR S w (.val x) v) : v = x := by cases h; rfl
theorem PR.later {S S' : Nat → Prop} {w w' : World} (hS : ∀ g, S g → S' g) (hc : ∀ g q, S g → w'.cell? ⟨g, q, none⟩ = w.cell? ⟨g, q, none⟩) {x : PV} {v : Value} (h : PR S w x v) : PR S' w' x v := by
  induction h with
  | val x => exact .val x
  | nil m a c => exact .nil m a c
  | view m rows g o c f hne hg hcap hm hw ho hr ih =>
    exact .view m rows g o c f hne (hS g hg) hcap hm (fun i j row x h1 h2 => (hc g _ hg).trans (hw i j row x h1 h2)) ho ih
theorem PR.adv {ρ ρ' : Own} {w w' : World} (h : Adv ρ w ρ' w') {x : PV} {v : Value} (hx : PR (Fz ρ w) w x v) : PR (Fz ρ' w') w' x v :=
  hx.later (fun _ hg => h.fz hg) (fun _ _ hg => h.cell hg)
theorem CR.adv {ρ ρ' : Own} {w w' : World} (h : Adv ρ w ρ' w') {x : CV} {v : Value} (hx : CR ρ w x v) : CR ρ' w' x v := by
  cases x with
  | p x => exact PR.adv h hx
  | vp cells =>
    obtain ⟨g, q, f, h1, h2, h3, h4⟩ := hx
    exact ⟨g, q, f, h1, h.fz h2, fun j x hj => (h.cell h2).trans (h3 j x hj), fun j x hj => ⟨(h4 j x hj).1.adv h, (h4 j x hj).2⟩⟩
  | ptr m b i j =>
    obtain ⟨g, o, h1, h2⟩ := hx
    exact ⟨g, o, h.keep b _ h1, h2⟩
  | sl m b i n =>
    rcases hx with hx | ⟨g, o, c, h1, h2, h3, h4, cs, T, fr, h5, h6⟩
    · exact .inl hx
    · obtain ⟨cs', fr', h7, h8⟩ := h.row g cs T fr h5
      exact .inr ⟨g, o, c, h.keep b _ h1, h2, h3, h4, cs', T, fr', h7, by omega⟩
  | nilsl => exact hx
theorem R1.adv {ρ ρ' : Own} {w w' : World} (h : Adv ρ w ρ' w') {x : A1} {v : Value} (hx : R1 ρ w x v) : R1 ρ' w' x v := by
  cases x with
  | one c => exact ⟨hx.1.adv h, hx.2⟩
  | agg cs =>
    obtain ⟨vs, h1, h2, h3⟩ := hx
    exact ⟨vs, h1, h2, fun j c hj => by obtain ⟨u, h4, h5, h6⟩ := h3 j c hj; exact ⟨u, h4, h5.adv h, h6⟩⟩
theorem AR.adv {ρ ρ' : Own} {w w' : World} (h : Adv ρ w ρ' w') {x : AV} {v : Value} (hx : AR ρ w x v) : AR ρ' w' x v := by
  cases x with
  | a x => exact R1.adv h hx
  | tup xs =>
    obtain ⟨vs, h1, h2, h3⟩ := hx
    exact ⟨vs, h1, h2, fun j c hj => by obtain ⟨u, h4, h5⟩ := h3 j c hj; exact ⟨u, h4, h5.adv h⟩⟩
  | und => exact hx
/-- An own block that the step did not touch. -/
theorem BlkR.adv {ρ ρ' : Own} {w w' : World} (h : Adv ρ w ρ' w') {g o : Nat} {blk : Blk} (hb : w'.heap[g]? = w.heap[g]?) (hx : BlkR ρ w g o blk) : BlkR ρ' w' g o blk := by
  obtain ⟨c, fr, h1, hl, h2, h3, h4⟩ := hx
  exact ⟨c, fr, hb.trans h1, hl, h2, h3, fun i j row x hi hj => by obtain ⟨v, h5, h6, h7⟩ := h4 i j row x hi hj; exact ⟨v, h5, h6.adv h, h7⟩⟩
/-- The state: what is known of slots, newest first; own blocks. -/
structure St where
  t : List (Nat × AV)
  h : Heap
/-- What the own blocks are in a world; w0 is the world of the call's beginning. -/
structure G (h : Heap) (w0 : World) (ρ : Own) (w : World) : Prop where
  below : Below w0.heap.size w0 w
  lo : ∀ b g o, ρ b = some (g, o) → w0.heap.size ≤ g ∧ g < w.heap.size ∧ b < h.length
  held : ∀ b blk g o, h[b]? = some (some blk) → ρ b = some (g, o) → BlkR ρ w g o blk
  inj : ∀ b b' blk blk' g o o', h[b]? = some (some blk) → h[b']? = some (some blk') → ρ b = some (g, o) → ρ b' = some (g, o') → b = b'
  past : ∀ g, w0.heap.size ≤ g → ρ.A g
/-- A step that touches no own block. -/
theorem G.pass {h : Heap} {w0 w w' : World} {ρ : Own} (hg : G h w0 ρ w) (hb : Below w.heap.size w w') : G h w0 ρ w' :=
  ⟨hg.below.trans (hb.mono hg.below.size), fun b g o h1 => by obtain ⟨h2, h3, h4⟩ := hg.lo b g o h1; exact ⟨h2, Nat.lt_of_lt_of_le h3 hb.size, h4⟩,
   fun b blk g o h1 h2 => (hg.held b blk g o h1 h2).adv (Adv.of_below hb) (hb.block g (hg.lo b g o h2).2.1), hg.inj, hg.past⟩
/-- Room for more numbers. -/
theorem G.more {h : Heap} {w0 w : World} {ρ : Own} (hg : G h w0 ρ w) (l : Heap) : G (h ++ l) w0 ρ w := by
  have hl : ∀ b x, ρ b = some x → (h ++ l)[b]? = h[b]? := fun b x hb => List.getElem?_append_left (hg.lo b x.1 x.2 hb).2.2
  exact ⟨hg.below, fun b g o h1 => by obtain ⟨h2, h3, h4⟩ := hg.lo b g o h1; exact ⟨h2, h3, by simp; omega⟩,
    fun b blk g o h1 h2 => hg.held b blk g o (by rw [← hl b _ h2]; exact h1) h2,
    fun b b' blk blk' g o o' h1 h2 h3 h4 => hg.inj b b' blk blk' g o o' (by rw [← hl b _ h3]; exact h1) (by rw [← hl b' _ h4]; exact h2) h3 h4, hg.past⟩
/-- A new block under a new number. -/
def Own.with (ρ : Own) (n g o : Nat) : Own := ⟨fun b => if b = n then some (g, o) else ρ b, ρ.A⟩
theorem adv_new {ρ : Own} {w w' : World} {n g o : Nat} (hb : Below w.heap.size w w') (hn : ρ n = none) (hg : w.heap.size ≤ g) : Adv ρ w (ρ.with n g o) w' := by
  have h0 : Adv ρ w ρ w' := .of_below hb
  refine ⟨h0.os, h0.tape, h0.output, h0.size, h0.blk, h0.row, fun b x hx => ?_, fun b g' o' hx => ?_, rfl⟩
  · unfold Own.with
    dsimp only
    rw [if_neg (fun e => by subst e; rw [hn] at hx; cases hx)]
    exact hx
  · unfold Own.with at hx
    dsimp only at hx
    split at hx
    · cases hx; exact .inr hg
    · exact .inl ⟨b, o', hx⟩
theorem G.new {h : Heap} {w0 w w' : World} {ρ : Own} (hg : G h w0 ρ w) (hb : Below w.heap.size w w') {n g o : Nat} {blk : Blk} (hn : ρ n = none) (hlt : n < h.length) (hgl : w.heap.size ≤ g) (hgs : g < w'.heap.size)
    (hh : h[n]? = some (some blk)) (hR : BlkR (ρ.with n g o) w' g o blk) : G h w0 (ρ.with n g o) w' := by
  have hadv := adv_new (o := o) hb hn hgl
  have hcase : ∀ b g' o', ρ.with n g o b = some (g', o') → (b = n ∧ g' = g ∧ o' = o) ∨ (b ≠ n ∧ ρ b = some (g', o')) := fun b g' o' hx => by
    unfold Own.with at hx
    dsimp only at hx
    split at hx
    · rename_i e; cases hx; exact .inl ⟨e, rfl, rfl⟩
    · rename_i e; exact .inr ⟨e, hx⟩
  refine ⟨hg.below.trans (hb.mono hg.below.size), fun b g' o' hx => ?_, fun b blk' g' o' h1 hx => ?_, fun b b' blk1 blk2 g' o1 o2 h1 h2 hx hx' => ?_, hg.past⟩
  · rcases hcase b g' o' hx with ⟨rfl, rfl, rfl⟩ | ⟨_, hx⟩
    · exact ⟨Nat.le_trans hg.below.size hgl, hgs, hlt⟩
    · obtain ⟨h2, h3, h4⟩ := hg.lo b g' o' hx; exact ⟨h2, Nat.lt_of_lt_of_le h3 hb.size, h4⟩
  · rcases hcase b g' o' hx with ⟨rfl, rfl, rfl⟩ | ⟨_, hx⟩
    · rw [hh] at h1; cases h1; exact hR
    · exact (hg.held b blk' g' o' h1 hx).adv hadv (hb.block g' (hg.lo b g' o' hx).2.1)
  · rcases hcase b g' o1 hx with ⟨e1, e2, _⟩ | ⟨e1, hx1⟩ <;> rcases hcase b' g' o2 hx' with ⟨e3, e2, _⟩ | ⟨e3, hx2⟩
    · rw [e1, e3]
    · subst e2; have := (hg.lo b' _ o2 hx2).2.1; omega
    · subst e2; have := (hg.lo b _ o1 hx1).2.1; omega
    · exact hg.inj b b' blk1 blk2 g' o1 o2 h1 h2 hx1 hx2
end AM
end Go.Proofs.Ytioejbgdhmiiiaa
