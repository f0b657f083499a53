/- The abstract machine, 1: abstract values, own blocks, what they say of a world, and what later worlds leave of it. -/
import Derived.Test.YtfbnjemmmgobkaaRegionS
import Derived.Test.YtfbnjemmmgobkaaRows2
import Derived.Laws.CopyOwn
import Derived.Laws.OwnMore
import Derived.Laws.Rows
import Derived.Laws.Tables
import Derived.Great.BuildSlice
import Derived.Deep.MidRow
import Derived.Laws.MakeOwn
import Derived.Laws.IdiomStrings
import Derived.Laws.Build
namespace Go.Proofs.Ytfbnjemmmgobkaa
open Go.RowKit
set_option linter.unusedVariables false
set_option linter.unusedSimpArgs false
namespace AM
/-- A pure value of one cell: a value, or a slice that is read alone: its rows, m cells each. -/
inductive PV where
  | val (x : Value)
  | view (m : Nat) (rows : List (List PV))
  deriving Inhabited
/-- What a closure has caught: a pointer to own memory, a value. -/
inductive Cap where
  | ptr (m b i j : Nat)
  | val (x : Value)
  deriving Inhabited
/-- The value of one cell: pure; a pointer to cells that are read alone; a pointer into own block b, row i, cell j; a slice over own block b from row i on, of n rows; an empty slice without room. -/
inductive CV where
  | p (x : PV)
  | vp (cells : List PV)
  | ptr (m b i j : Nat)
  | sl (m b i n : Nat)
  | nilsl
  | clo (f : FuncId) (caps : List Cap)
  deriving Inhabited
inductive A1 where
  | one (c : CV)
  | agg (cs : List CV)
  deriving Inhabited
inductive AV where
  | a (x : A1)
  | tup (xs : List A1)
  | und
  deriving Inhabited
/-- An own block: its type, the cells of a row, the rows. -/
structure Blk where
  T : TypeId
  m : Nat
  rows : List (List CV)
abbrev Heap := List (Option Blk)
/-- Where own blocks lie: block and first cell; A: the blocks that may be read. -/
structure Own where
  f : Nat → Option (Nat × Nat)
  A : Nat → Prop
instance instOwn : CoeFun Own (fun _ => Nat → Option (Nat × Nat)) := ⟨Own.f⟩
/-- A block that was there, and is nobody's own. -/
def Fz (ρ : Own) (w : World) (g : Nat) : Prop := g < w.heap.size ∧ (∀ b o, ρ b ≠ some (g, o)) ∧ ρ.A g
inductive PR (S : Nat → Prop) (w : World) : PV → Value → Prop
  | val (x : Value) : PR S w (.val x) x
  | nil (m : Nat) (a : Option Addr) (c : Nat) : PR S w (.view m []) (.slice a 0 c)
  | view (m : Nat) (rows : List (List PV)) (g o c : Nat) (f : Nat → Nat → Value) (hne : rows ≠ []) (hS : S g) (hc : rows.length ≤ c)
      (hm : ∀ (i : Nat) (row : List PV), rows[i]? = some row → row.length = m)
      (hw : ∀ (i j : Nat) (row : List PV) (x : PV), rows[i]? = some row → row[j]? = some x → w.cell? ⟨g, o + (i * m + j), none⟩ = some (f i j))
      (ho : ∀ (i j : Nat) (row : List PV) (x : PV), rows[i]? = some row → row[j]? = some x → (f i j).oneCell' = true)
      (hr : ∀ (i j : Nat) (row : List PV) (x : PV), rows[i]? = some row → row[j]? = some x → PR S w x (f i j)) : PR S w (.view m rows) (.slice (some ⟨g, o, none⟩) rows.length c)
def CapR (ρ : Own) : Cap → Value → Prop
  | .ptr m b i j, v => ∃ g o, ρ b = some (g, o) ∧ v = .pointer (some ⟨g, o + (i * m + j), none⟩)
  | .val x, v => v = x ∧ v.oneCell' = true
def CR (ρ : Own) (w : World) : CV → Value → Prop
  | .p x, v => PR (Fz ρ w) w x v
  | .vp cells, v => ∃ (g q : Nat) (f : Nat → Value), v = .pointer (some ⟨g, q, none⟩) ∧ Fz ρ w g ∧ (∀ (j : Nat) x, cells[j]? = some x → w.cell? ⟨g, q + j, none⟩ = some (f j)) ∧ ∀ (j : Nat) x, cells[j]? = some x → PR (Fz ρ w) w x (f j) ∧ (f j).oneCell' = true
  | .ptr m b i j, v => ∃ g o, ρ b = some (g, o) ∧ v = .pointer (some ⟨g, o + (i * m + j), none⟩)
  | .sl m b i n, v => (n = 0 ∧ ∃ a, v = .slice a 0 0) ∨ ∃ g o c, ρ b = some (g, o) ∧ v = .slice (some ⟨g, o + i * m, none⟩) n c ∧ n ≤ c ∧ c ≤ maxLen ∧ ∃ cs T fr, w.heap[g]? = some (.cells cs T fr) ∧ o + (i + c) * m ≤ cs.size
  | .nilsl, v => ∃ a, v = .slice a 0 0
  | .clo f caps, v => ∃ vs : Array Value, v = .func (.func f) #[] vs ∧ vs.size = caps.length ∧ ∀ (j : Nat) c, caps[j]? = some c → ∃ u, vs[j]? = some u ∧ CapR ρ c u
def R1 (ρ : Own) (w : World) : A1 → Value → Prop
  | .one c, v => CR ρ w c v ∧ v.oneCell' = true
  | .agg cs, v => ∃ vs, v = .agg vs ∧ vs.size = cs.length ∧ ∀ (j : Nat) c, cs[j]? = some c → ∃ u, vs[j]? = some u ∧ CR ρ w c u ∧ u.oneCell' = true
def AR (ρ : Own) (w : World) : AV → Value → Prop
  | .a x, v => R1 ρ w x v
  | .tup xs, v => ∃ vs, v = .tuple vs ∧ vs.size = xs.length ∧ ∀ (j : Nat) x, xs[j]? = some x → ∃ u, vs[j]? = some u ∧ R1 ρ w x u
  | .und, v => v = undef
/-- No cell of n is frozen. -/
def Loose (fr : Nat × Nat) (n : Nat) : Prop := ∀ j, j < n → ¬ (fr.1 ≤ j ∧ j < fr.2)
/-- What an own block at (g, o) holds. -/
def BlkR (ρ : Own) (w : World) (g o : Nat) (blk : Blk) : Prop :=
  ∃ c fr, w.heap[g]? = some (.cells c blk.T fr) ∧ Loose fr c.size ∧ o + blk.rows.length * blk.m ≤ c.size ∧ (∀ (i : Nat) (row : List CV), blk.rows[i]? = some row → row.length = blk.m) ∧
    ∀ (i j : Nat) (row : List CV) (x : CV), blk.rows[i]? = some row → row[j]? = some x → ∃ v, c[o + (i * blk.m + j)]? = some v ∧ CR ρ w x v ∧ v.oneCell' = true
/-- From one world to a later one. -/
structure Adv (ρ : Own) (w : World) (ρ' : Own) (w' : World) : Prop where
  os : w'.os = w.os
  tape : w'.tape = w.tape
  output : w'.output = w.output
  size : w.heap.size ≤ w'.heap.size
  blk : ∀ g, g < w.heap.size → (∀ b o, ρ b ≠ some (g, o)) → w'.heap[g]? = w.heap[g]?
  row : ∀ (g : Nat) c T fr, w.heap[g]? = some (.cells c T fr) → ∃ c' fr', w'.heap[g]? = some (.cells c' T fr') ∧ c'.size = c.size
  keep : ∀ b x, ρ b = some x → ρ' b = some x
  new : ∀ b g o, ρ' b = some (g, o) → (∃ b₀ o₀, ρ b₀ = some (g, o₀)) ∨ w.heap.size ≤ g
  A : ρ'.A = ρ.A
theorem Adv.refl (ρ : Own) (w : World) : Adv ρ w ρ w := ⟨rfl, rfl, rfl, Nat.le_refl _, fun _ _ _ => rfl, fun _ c _ fr h => ⟨c, fr, h, rfl⟩, fun _ _ h => h, fun b g o h => .inl ⟨b, o, h⟩, rfl⟩
theorem Adv.fz {ρ ρ' : Own} {w w' : World} (h : Adv ρ w ρ' w') {g : Nat} (hg : Fz ρ w g) : Fz ρ' w' g :=
  ⟨Nat.lt_of_lt_of_le hg.1 h.size, fun b o hb => (by
    rcases h.new b g o hb with ⟨b₀, o₀, h0⟩ | h0
    · exact hg.2.1 b₀ o₀ h0
    · have := hg.1; omega), by rw [h.A]; exact hg.2.2⟩
theorem Adv.trans {ρ ρ' ρ'' : Own} {w w' w'' : World} (h : Adv ρ w ρ' w') (k : Adv ρ' w' ρ'' w'') : Adv ρ w ρ'' w'' :=
  ⟨k.os.trans h.os, k.tape.trans h.tape, k.output.trans h.output, Nat.le_trans h.size k.size,
   fun g hg hn => (k.blk g (Nat.lt_of_lt_of_le hg h.size) (fun b o hb => by
    rcases h.new b g o hb with ⟨b₀, o₀, h0⟩ | h0
    · exact hn b₀ o₀ h0
    · omega)).trans (h.blk g hg hn),
   fun g c T fr hc => by
    obtain ⟨c', fr', h1, h2⟩ := h.row g c T fr hc
    obtain ⟨c'', fr'', h3, h4⟩ := k.row g c' T fr' h1
    exact ⟨c'', fr'', h3, h4.trans h2⟩,
   fun b x hb => k.keep b x (h.keep b x hb),
   fun b g o hb => by
    rcases k.new b g o hb with ⟨b₀, o₀, h0⟩ | h0
    · exact h.new b₀ g o₀ h0
    · exact .inr (Nat.le_trans h.size h0), k.A.trans h.A⟩
theorem Adv.of_below {ρ : Own} {w w' : World} (h : Below w.heap.size w w') : Adv ρ w ρ w' :=
  ⟨h.os, h.tape, h.output, h.size, fun g hg _ => h.block g hg, fun g c T fr hc => ⟨c, fr, (h.block g (Array.getElem?_eq_some_iff.1 hc).1).trans hc, rfl⟩, fun _ _ h => h, fun b g o h => .inl ⟨b, o, h⟩, rfl⟩
theorem Adv.cell {ρ ρ' : Own} {w w' : World} (h : Adv ρ w ρ' w') {g q : Nat} (hg : Fz ρ w g) : w'.cell? ⟨g, q, none⟩ = w.cell? ⟨g, q, none⟩ :=
  World.cell?_of_block (w := w) (h.blk g hg.1 hg.2.1)
theorem PR.val_eq {S : Nat → Prop} {w : World} {x v : Value} (h : PR S w (.val x) v) : v = x := by cases h; rfl
theorem PR.later {S S' : Nat → Prop} {w w' : World} (hS : ∀ g, S g → S' g) (hc : ∀ g q, S g → w'.cell? ⟨g, q, none⟩ = w.cell? ⟨g, q, none⟩) {x : PV} {v : Value} (h : PR S w x v) : PR S' w' x v := by
  induction h with
  | val x => exact .val x
  | nil m a c => exact .nil m a c
  | view m rows g o c f hne hg hcap hm hw ho hr ih =>
    exact .view m rows g o c f hne (hS g hg) hcap hm (fun i j row x h1 h2 => (hc g _ hg).trans (hw i j row x h1 h2)) ho ih
theorem PR.adv {ρ ρ' : Own} {w w' : World} (h : Adv ρ w ρ' w') {x : PV} {v : Value} (hx : PR (Fz ρ w) w x v) : PR (Fz ρ' w') w' x v :=
  hx.later (fun _ hg => h.fz hg) (fun _ _ hg => h.cell hg)
theorem CR.adv {ρ ρ' : Own} {w w' : World} (h : Adv ρ w ρ' w') {x : CV} {v : Value} (hx : CR ρ w x v) : CR ρ' w' x v := by
  cases x with
  | p x => exact PR.adv h hx
  | vp cells =>
    obtain ⟨g, q, f, h1, h2, h3, h4⟩ := hx
    exact ⟨g, q, f, h1, h.fz h2, fun j x hj => (h.cell h2).trans (h3 j x hj), fun j x hj => ⟨(h4 j x hj).1.adv h, (h4 j x hj).2⟩⟩
  | ptr m b i j =>
    obtain ⟨g, o, h1, h2⟩ := hx
    exact ⟨g, o, h.keep b _ h1, h2⟩
  | sl m b i n =>
    rcases hx with hx | ⟨g, o, c, h1, h2, h3, h4, cs, T, fr, h5, h6⟩
    · exact .inl hx
    · obtain ⟨cs', fr', h7, h8⟩ := h.row g cs T fr h5
      exact .inr ⟨g, o, c, h.keep b _ h1, h2, h3, h4, cs', T, fr', h7, by omega⟩
  | nilsl => exact hx
  | clo f caps =>
    obtain ⟨vs, h1, h2, h3⟩ := hx
    refine ⟨vs, h1, h2, fun j c hj => ?_⟩
    obtain ⟨u, h4, h5⟩ := h3 j c hj
    refine ⟨u, h4, ?_⟩
    cases c with
    | ptr m b i j => obtain ⟨g, o, h6, h7⟩ := h5; exact ⟨g, o, h.keep b _ h6, h7⟩
    | val x => exact h5
theorem R1.adv {ρ ρ' : Own} {w w' : World} (h : Adv ρ w ρ' w') {x : A1} {v : Value} (hx : R1 ρ w x v) : R1 ρ' w' x v := by
  cases x with
  | one c => exact ⟨hx.1.adv h, hx.2⟩
  | agg cs =>
    obtain ⟨vs, h1, h2, h3⟩ := hx
    exact ⟨vs, h1, h2, fun j c hj => by obtain ⟨u, h4, h5, h6⟩ := h3 j c hj; exact ⟨u, h4, h5.adv h, h6⟩⟩
theorem AR.adv {ρ ρ' : Own} {w w' : World} (h : Adv ρ w ρ' w') {x : AV} {v : Value} (hx : AR ρ w x v) : AR ρ' w' x v := by
  cases x with
  | a x => exact R1.adv h hx
  | tup xs =>
    obtain ⟨vs, h1, h2, h3⟩ := hx
    exact ⟨vs, h1, h2, fun j c hj => by obtain ⟨u, h4, h5⟩ := h3 j c hj; exact ⟨u, h4, h5.adv h⟩⟩
  | und => exact hx
/-- An own block that the step did not touch. -/
theorem BlkR.adv {ρ ρ' : Own} {w w' : World} (h : Adv ρ w ρ' w') {g o : Nat} {blk : Blk} (hb : w'.heap[g]? = w.heap[g]?) (hx : BlkR ρ w g o blk) : BlkR ρ' w' g o blk := by
  obtain ⟨c, fr, h1, hl, h2, h3, h4⟩ := hx
  exact ⟨c, fr, hb.trans h1, hl, h2, h3, fun i j row x hi hj => by obtain ⟨v, h5, h6, h7⟩ := h4 i j row x hi hj; exact ⟨v, h5, h6.adv h, h7⟩⟩
/-- The state: what is known of slots, newest first; own blocks. -/
structure St where
  t : List (Nat × AV)
  h : Heap
/-- What the own blocks are in a world; w0 is the world of the call's beginning. -/
structure G (h : Heap) (w0 : World) (ρ : Own) (w : World) : Prop where
  below : Below w0.heap.size w0 w
  lo : ∀ b g o, ρ b = some (g, o) → w0.heap.size ≤ g ∧ g < w.heap.size ∧ b < h.length
  held : ∀ b blk g o, h[b]? = some (some blk) → ρ b = some (g, o) → BlkR ρ w g o blk
  inj : ∀ b b' blk blk' g o o', h[b]? = some (some blk) → h[b']? = some (some blk') → ρ b = some (g, o) → ρ b' = some (g, o') → b = b'
  past : ∀ g, w0.heap.size ≤ g → ρ.A g
/-- A step that touches no own block. -/
theorem G.pass {h : Heap} {w0 w w' : World} {ρ : Own} (hg : G h w0 ρ w) (hb : Below w.heap.size w w') : G h w0 ρ w' :=
  ⟨hg.below.trans (hb.mono hg.below.size), fun b g o h1 => by obtain ⟨h2, h3, h4⟩ := hg.lo b g o h1; exact ⟨h2, Nat.lt_of_lt_of_le h3 hb.size, h4⟩,
   fun b blk g o h1 h2 => (hg.held b blk g o h1 h2).adv (Adv.of_below hb) (hb.block g (hg.lo b g o h2).2.1), hg.inj, hg.past⟩
/-- Room for more numbers. -/
theorem G.more {h : Heap} {w0 w : World} {ρ : Own} (hg : G h w0 ρ w) (l : Heap) : G (h ++ l) w0 ρ w := by
  have hl : ∀ b x, ρ b = some x → (h ++ l)[b]? = h[b]? := fun b x hb => List.getElem?_append_left (hg.lo b x.1 x.2 hb).2.2
  exact ⟨hg.below, fun b g o h1 => by obtain ⟨h2, h3, h4⟩ := hg.lo b g o h1; exact ⟨h2, h3, by simp; omega⟩,
    fun b blk g o h1 h2 => hg.held b blk g o (by rw [← hl b _ h2]; exact h1) h2,
    fun b b' blk blk' g o o' h1 h2 h3 h4 => hg.inj b b' blk blk' g o o' (by rw [← hl b _ h3]; exact h1) (by rw [← hl b' _ h4]; exact h2) h3 h4, hg.past⟩
/-- A new block under a new number. -/
def Own.with (ρ : Own) (n g o : Nat) : Own := ⟨fun b => if b = n then some (g, o) else ρ b, ρ.A⟩
theorem adv_new {ρ : Own} {w w' : World} {n g o : Nat} (hb : Below w.heap.size w w') (hn : ρ n = none) (hg : w.heap.size ≤ g) : Adv ρ w (ρ.with n g o) w' := by
  have h0 : Adv ρ w ρ w' := .of_below hb
  refine ⟨h0.os, h0.tape, h0.output, h0.size, h0.blk, h0.row, fun b x hx => ?_, fun b g' o' hx => ?_, rfl⟩
  · unfold Own.with
    dsimp only
    rw [if_neg (fun e => by subst e; rw [hn] at hx; cases hx)]
    exact hx
  · unfold Own.with at hx
    dsimp only at hx
    split at hx
    · cases hx; exact .inr hg
    · exact .inl ⟨b, o', hx⟩
theorem G.new {h : Heap} {w0 w w' : World} {ρ : Own} (hg : G h w0 ρ w) (hb : Below w.heap.size w w') {n g o : Nat} {blk : Blk} (hn : ρ n = none) (hlt : n < h.length) (hgl : w.heap.size ≤ g) (hgs : g < w'.heap.size)
    (hh : h[n]? = some (some blk)) (hR : BlkR (ρ.with n g o) w' g o blk) : G h w0 (ρ.with n g o) w' := by
  have hadv := adv_new (o := o) hb hn hgl
  have hcase : ∀ b g' o', ρ.with n g o b = some (g', o') → (b = n ∧ g' = g ∧ o' = o) ∨ (b ≠ n ∧ ρ b = some (g', o')) := fun b g' o' hx => by
    unfold Own.with at hx
    dsimp only at hx
    split at hx
    · rename_i e; cases hx; exact .inl ⟨e, rfl, rfl⟩
    · rename_i e; exact .inr ⟨e, hx⟩
  refine ⟨hg.below.trans (hb.mono hg.below.size), fun b g' o' hx => ?_, fun b blk' g' o' h1 hx => ?_, fun b b' blk1 blk2 g' o1 o2 h1 h2 hx hx' => ?_, hg.past⟩
  · rcases hcase b g' o' hx with ⟨rfl, rfl, rfl⟩ | ⟨_, hx⟩
    · exact ⟨Nat.le_trans hg.below.size hgl, hgs, hlt⟩
    · obtain ⟨h2, h3, h4⟩ := hg.lo b g' o' hx; exact ⟨h2, Nat.lt_of_lt_of_le h3 hb.size, h4⟩
  · rcases hcase b g' o' hx with ⟨rfl, rfl, rfl⟩ | ⟨_, hx⟩
    · rw [hh] at h1; cases h1; exact hR
    · exact (hg.held b blk' g' o' h1 hx).adv hadv (hb.block g' (hg.lo b g' o' hx).2.1)
  · rcases hcase b g' o1 hx with ⟨e1, e2, _⟩ | ⟨e1, hx1⟩ <;> rcases hcase b' g' o2 hx' with ⟨e3, e2, _⟩ | ⟨e3, hx2⟩
    · rw [e1, e3]
    · subst e2; have := (hg.lo b' _ o2 hx2).2.1; omega
    · subst e2; have := (hg.lo b _ o1 hx1).2.1; omega
    · exact hg.inj b b' blk1 blk2 g' o1 o2 h1 h2 hx1 hx2
end AM
end Go.Proofs.Ytfbnjemmmgobkaa

namespace Go.Proofs.Ytfbnjemmmgobkaa
open Go.RowKit
set_option linter.unusedVariables false
set_option linter.unusedSimpArgs false
namespace AM
def ow {α : Type} (o : Option α) (k : α → Prop) : Prop := ∃ x, o = some x ∧ k x
theorem ow_some {α : Type} (x : α) (k : α → Prop) : ow (some x) k = k x := by simp [ow]
theorem ow_none {α : Type} (k : α → Prop) : ow none k = False := by simp [ow]
/-- What a meaning says that asks nothing of the world. -/
def pk {α : Type} (P : Program) : Sem α → (α → Prop) → Prop
  | .pure a, K => K a
  | .program k, K => pk P (k P) K
  | .mark _ k, K => pk P k K
  | _, _ => False
theorem pk_sound {α : Type} {P : Program} : ∀ (s : Sem α) (K : α → Prop), pk P s K → ∃ v, K v ∧ ∀ w, s.run P w = .ok v w
  | .pure a, K, h => ⟨a, h, fun _ => rfl⟩
  | .program k, K, h => by
    obtain ⟨v, h1, h2⟩ := pk_sound (k P) K h
    exact ⟨v, h1, fun w => h2 w⟩
  | .mark _ k, K, h => by
    obtain ⟨v, h1, h2⟩ := pk_sound k K h
    exact ⟨v, h1, fun w => h2 w⟩
theorem pk_bind' {α β : Type} {P : Program} : ∀ (s : Sem α) (f : α → Sem β) (K : β → Prop), pk P (Sem.bind s f) K = pk P s (fun a => pk P (f a) K)
  | .pure a, f, K => rfl
  | .program k, f, K => pk_bind' (k P) f K
  | .mark _ k, f, K => pk_bind' k f K
  | .load .., _, _ | .store .., _, _ | .new .., _, _ | .shape .., _, _ | .freeze .., _, _ | .frozen .., _, _ | .getObj .., _, _ | .setObj .., _, _ | .choose .., _, _ | .sys .., _, _ | .halt .., _, _ => rfl
theorem pk_bind {α β : Type} {P : Program} (s : Sem α) (f : α → Sem β) (K : β → Prop) : pk P (s >>= f) K = pk P s (fun a => pk P (f a) K) := pk_bind' s f K
theorem pk_pure {α : Type} {P : Program} (a : α) (K : α → Prop) : pk P (pure a) K = K a := rfl
theorem pk_pure' {α : Type} {P : Program} (a : α) (K : α → Prop) : pk P (Sem.pure a) K = K a := rfl
theorem pk_program {P : Program} (K : Program → Prop) : pk P program K = K P := rfl
theorem pk_ite {α : Type} {P : Program} (c : Prop) [Decidable c] (s1 s2 : Sem α) (K : α → Prop) : pk P (if c then s1 else s2) K = if c then pk P s1 K else pk P s2 K := by split <;> rfl
theorem pk_under {P : Program} {T : TypeId} {d : TypeDesc} (h : P.underlying T = some d) (K : TypeDesc → Prop) : pk P (underlying T) K = K d := by
  unfold underlying; rw [pk_bind, pk_program, h]; rfl
theorem pk_info {P : Program} {T : TypeId} {i : TypeInfo} (h : P.info? T = some i) (K : TypeInfo → Prop) : pk P (typeInfo T) K = K i := by
  unfold typeInfo; rw [pk_bind, pk_program, h]; rfl
/-- Slots, newest first. -/
def get : List (Nat × AV) → Nat → Option AV
  | [], _ => none
  | (j, x) :: r, i => if i = j then some x else get r i
/-- A value as an abstract one. -/
def ofV : Value → Option AV
  | .agg cs => if cs.all (·.oneCell') then some (.a (.agg (cs.toList.map fun v => .p (.val v)))) else none
  | .tuple _ => none
  | v => some (.a (.one (.p (.val v))))
def evO (t : List (Nat × AV)) : Operand → Option AV
  | .tmp i => get t i
  | .const v => ofV v
  | .global g => some (.a (.one (.p (.val (.pointer (some ⟨g, 0, none⟩))))))
  | .func f => some (.a (.one (.p (.val (.func (.func f) #[] #[])))))
def lit1 : CV → Option Value
  | .p (.val x) => some x
  | _ => none
def litL : List CV → Option (List Value)
  | [] => some []
  | c :: r => match lit1 c, litL r with
    | some v, some l => some (v :: l)
    | _, _ => none
def litA : AV → Option Value
  | .a (.one c) => lit1 c
  | .a (.agg cs) => (litL cs).map fun l => .agg l.toArray
  | .tup _ | .und => none
def litO (t : List (Nat × AV)) (x : Operand) : Value := match evO t x with
  | some v => (litA v).getD undef
  | none => undef
def hasLit (t : List (Nat × AV)) (x : Operand) : Bool := match evO t x with
  | some v => (litA v).isSome
  | none => false
theorem ofV_R {ρ : Own} {w : World} {v : Value} {x : AV} (h : ofV v = some x) : AR ρ w x v := by
  cases v <;> simp only [ofV] at h <;> first
    | (cases h; exact ⟨.val _, rfl⟩)
    | (split at h
       · rename_i cs hc
         cases h
         refine ⟨cs, rfl, by simp, fun j c hj => ?_⟩
         rw [List.getElem?_map] at hj
         cases hv : cs.toList[j]? with
         | none => rw [hv] at hj; cases hj
         | some u =>
           rw [hv] at hj
           cases hj
           have hm : u ∈ cs := by simpa using List.mem_of_getElem? hv
           exact ⟨u, by simpa using hv, .val _, by simpa using Array.all_eq_true_iff_forall_mem.1 hc u hm⟩
       · cases h)
    | cases h
theorem lit1_eq {ρ : Own} {w : World} {c : CV} {u v : Value} (h : CR ρ w c v) (hl : lit1 c = some u) : v = u := by
  cases c with
  | p x =>
    cases x with
    | val y => cases hl; cases h; rfl
    | view m rows => cases hl
  | _ => cases hl
theorem litL_at : ∀ (cs : List CV) (l : List Value), litL cs = some l → l.length = cs.length ∧ ∀ (j : Nat) (c : CV), cs[j]? = some c → ∃ u, lit1 c = some u ∧ l[j]? = some u
  | [], l, h => by cases h; exact ⟨rfl, fun j c hj => by simp at hj⟩
  | c :: r, l, h => by
    simp only [litL] at h
    split at h
    · rename_i v l' h1 h2
      cases h
      obtain ⟨e, f⟩ := litL_at r l' h2
      refine ⟨by simp [e], fun j c' hj => ?_⟩
      cases j with
      | zero => cases hj; exact ⟨v, h1, rfl⟩
      | succ j => exact f j c' hj
    · cases h
theorem litA_eq {ρ : Own} {w : World} {x : AV} {u v : Value} (h : AR ρ w x v) (hl : litA x = some u) : v = u := by
  cases x with
  | a y =>
    cases y with
    | one c => exact lit1_eq h.1 hl
    | agg cs =>
      simp only [litA, Option.map_eq_some_iff] at hl
      obtain ⟨l, h1, rfl⟩ := hl
      obtain ⟨vs, rfl, h3, h4⟩ := h
      obtain ⟨h5, h6⟩ := litL_at cs l h1
      congr 1
      refine Array.ext (by simp; omega) fun j hj hj' => ?_
      have hjc : j < cs.length := by omega
      obtain ⟨u, h7, h8⟩ := h6 j cs[j] (by simp [hjc])
      obtain ⟨z, h9, h10, _⟩ := h4 j cs[j] (by simp [hjc])
      have e := lit1_eq h10 h7
      have e1 : vs[j] = z := by rw [Array.getElem?_eq_getElem hj] at h9; exact Option.some.inj h9
      have e2 : l[j]? = some l[j] := by simp [h5, hjc]
      rw [e2] at h8
      simp only [List.getElem_toArray]
      rw [e1, e, Option.some.inj h8]
  | tup xs => cases hl
  | und => cases hl
/-- What an operation that touches no own block leaves. -/
def Post (ρ : Own) (w : World) (n : Nat) (K : AV → Option Blk → Prop) (v : Value) (w' : World) : Prop :=
  ∃ x bs ρ', K x bs ∧ Below w.heap.size w w' ∧ AR ρ' w' x v ∧ match bs with
    | none => ρ' = ρ
    | some blk => ∃ g, ρ' = ρ.with n g 0 ∧ w.heap.size ≤ g ∧ g < w'.heap.size ∧ BlkR ρ' w' g 0 blk
theorem Post.val {ρ : Own} {w : World} {n : Nat} {K : AV → Option Blk → Prop} {v : Value} {x : AV} (h : K x none) (hR : AR ρ w x v) : Post ρ w n K v w := ⟨x, none, ρ, h, Below.refl _ _, hR, rfl⟩
/-- Cells that lie in one new block. -/
theorem Post.block {ρ : Own} {w : World} {n : Nat} {K : AV → Option Blk → Prop} {v : Value} {x : AV} {T : TypeId} {m : Nat} {rows : List (List CV)} (cs : Array Value)
    (hn : ρ n = none) (h : K x (some ⟨T, m, rows⟩)) (hs : rows.length * m ≤ cs.size) (hm : ∀ (i : Nat) (row : List CV), rows[i]? = some row → row.length = m)
    (hc : ∀ (i j : Nat) (row : List CV) (c : CV), rows[i]? = some row → row[j]? = some c → ∃ u, cs[i * m + j]? = some u ∧ CR ρ w c u ∧ u.oneCell' = true)
    (hx : ∀ ρ' w', ρ' n = some (w.heap.size, 0) → w' = w.alloc (.cells cs T) → AR ρ' w' x v) : Post ρ w n K v (w.alloc (.cells cs T)) := by
  have hb : Below w.heap.size w (w.alloc (.cells cs T)) := below_new _
  have ha : Adv ρ w (ρ.with n w.heap.size 0) (w.alloc (.cells cs T)) := adv_new hb hn (Nat.le_refl _)
  refine ⟨x, some ⟨T, m, rows⟩, ρ.with n w.heap.size 0, h, hb, hx _ _ (by simp [Own.with]) rfl, w.heap.size, rfl, Nat.le_refl _, by simp, ?_⟩
  refine ⟨cs, (0, 0), heap_alloc_new w _, fun j _ hj => by omega, by simpa using hs, hm, fun i j row c h1 h2 => ?_⟩
  obtain ⟨u, h3, h4, h5⟩ := hc i j row c h1 h2
  exact ⟨u, by simpa using h3, h4.adv ha, h5⟩
theorem wp_of_run {P : Program} {o : Oper} {a : Act} {w w' : World} {v : Value} {K : Act → World → Prop} {Q : Exit → Act → World → Prop} (h : (execOp a.eval o).run P w = .ok (.value v) w') (k : K (a.put o.dst v) w') : o.wp P a w K Q := by
  unfold Oper.wp; rw [h]; exact k
theorem run_v {P : Program} {s : Sem Value} {w w' : World} {v : Value} (h : s.run P w = .ok v w') : (do pure (.value (← s)) : Sem Next).run P w = .ok (.value v) w' := by
  rw [Sem.run_bind, h]; rfl
end AM
end Go.Proofs.Ytfbnjemmmgobkaa

namespace Go.Proofs.Ytfbnjemmmgobkaa
open Go.RowKit
set_option linter.unusedVariables false
set_option linter.unusedSimpArgs false
namespace AM
section
variable {P : Program} {ρ : Own} {w : World}
/-! ### Types -/
def sizeL (P : Program) (T : TypeId) : Option (Nat × Bool) := (P.info? T).bind fun i => (P.underlying T).map fun d => (i.size, d.isRow)
def omap {α β : Type} (f : α → Option β) : List α → Option (List β)
  | [] => some []
  | a :: r => match f a, omap f r with
    | some b, some l => some (b :: l)
    | _, _ => none
theorem omap_at {α β : Type} {f : α → Option β} : ∀ {l : List α} {m : List β}, omap f l = some m → m.length = l.length ∧ (∀ (j : Nat) b, m[j]? = some b → ∃ a, l[j]? = some a ∧ f a = some b) ∧ (∀ (j : Nat) a, l[j]? = some a → ∃ b, m[j]? = some b ∧ f a = some b)
  | [], m, h => by cases h; exact ⟨rfl, fun j b hj => by simp at hj, fun j b hj => by simp at hj⟩
  | a :: r, m, h => by
    simp only [omap] at h
    split at h
    · rename_i b l h1 h2
      cases h
      obtain ⟨e, f1, f2⟩ := omap_at h2
      refine ⟨by simp [e], fun j b' hj => ?_, fun j a' hj => ?_⟩
      · cases j with
        | zero => cases hj; exact ⟨a, rfl, h1⟩
        | succ j => exact f1 j b' hj
      · cases j with
        | zero => cases hj; exact ⟨b, rfl, h1⟩
        | succ j => exact f2 j a' hj
    · cases h
def fieldsL (P : Program) (T : TypeId) : Option (List (Nat × Nat × Bool)) := match P.underlying T with
  | some (.struct fs) => omap (fun f => (sizeL P f.type).map fun s => (f.offset, s.1, s.2)) fs.toList
  | _ => none
theorem fieldsL_parts {T : TypeId} {l : List (Nat × Nat × Bool)} (h : fieldsL P T = some l) : ∃ fs, P.underlying T = some (.struct fs) ∧ l.length = fs.size ∧ ∀ (j off k : Nat) (b : Bool), l[j]? = some (off, k, b) → ∃ f, fs[j]? = some f ∧ f.offset = off ∧ sizeL P f.type = some (k, b) := by
  unfold fieldsL at h
  split at h
  · rename_i fs hu
    obtain ⟨e, f1, _⟩ := omap_at h
    refine ⟨fs, hu, by simpa using e, fun j off k b hj => ?_⟩
    obtain ⟨f, h1, h2⟩ := f1 j _ hj
    refine ⟨f, by simpa using h1, ?_⟩
    cases hs : sizeL P f.type with
    | none => rw [hs] at h2; cases h2
    | some s => rw [hs] at h2; cases h2; exact ⟨rfl, rfl⟩
  · cases h
def zeroL (P : Program) (T : TypeId) : Option (List Value) := ((P.info? T).bind (·.zero)).bind fun z => if z.cells.all (·.oneCell') then some z.cells.toList else none
def elemL (P : Program) (T : TypeId) : Option (TypeId × Nat) := match P.underlying T with
  | some (.slice e) => (P.info? e).map fun i => (e, i.size)
  | _ => none
theorem sizeL_parts {T : TypeId} {k : Nat} {b : Bool} (h : sizeL P T = some (k, b)) : ∃ i d, P.info? T = some i ∧ i.size = k ∧ P.underlying T = some d ∧ d.isRow = b := by
  unfold sizeL at h
  cases hi : P.info? T with
  | none => rw [hi] at h; cases h
  | some i =>
    cases hd : P.underlying T with
    | none => rw [hi, hd] at h; cases h
    | some d => rw [hi, hd] at h; cases h; exact ⟨i, d, rfl, rfl, rfl, rfl⟩
theorem elemL_parts {T e : TypeId} {k : Nat} (h : elemL P T = some (e, k)) : ∃ i, P.underlying T = some (.slice e) ∧ P.info? e = some i ∧ i.size = k := by
  unfold elemL at h
  split at h
  · rename_i e' hd
    cases hi : P.info? e' with
    | none => rw [hi] at h; cases h
    | some i => rw [hi] at h; cases h; exact ⟨i, hd, hi, rfl⟩
  · cases h
theorem zeroL_parts {T : TypeId} {l : List Value} (h : zeroL P T = some l) : ∃ i z, P.info? T = some i ∧ i.zero = some z ∧ z.cells.toList = l ∧ ∀ v ∈ l, v.oneCell' = true := by
  unfold zeroL at h
  cases hi : P.info? T with
  | none => rw [hi] at h; cases h
  | some i =>
    cases hz : i.zero with
    | none => simp [hi, hz] at h
    | some z =>
      simp only [hi, hz, Option.bind_some] at h
      split at h
      · rename_i hc
        cases h
        exact ⟨i, z, rfl, hz, rfl, fun v hv => by simpa using Array.all_eq_true_iff_forall_mem.1 hc v (by simpa using hv)⟩
      · cases h
/-! ### Cells -/
def CellsR (ρ : Own) (w : World) (cs : List CV) (vs : Array Value) : Prop := vs.size = cs.length ∧ ∀ (j : Nat) c, cs[j]? = some c → ∃ u, vs[j]? = some u ∧ CR ρ w c u ∧ u.oneCell' = true
def cellsA : AV → Option (List CV)
  | .a (.one c) => some [c]
  | .a (.agg cs) => some cs
  | _ => none
theorem cells_one {v : Value} (h : v.oneCell' = true) : v.cells = #[v] := by cases v <;> first | rfl | cases h
theorem cellsA_R {x : AV} {v : Value} {cs : List CV} (h : AR ρ w x v) (hc : cellsA x = some cs) : CellsR ρ w cs v.cells := by
  cases x with
  | a y =>
    cases y with
    | one c =>
      cases hc
      rw [cells_one h.2]
      refine ⟨rfl, fun j c' hj => ?_⟩
      cases j with
      | zero => cases hj; exact ⟨v, rfl, h.1, h.2⟩
      | succ j => simp at hj
    | agg cs' => cases hc; obtain ⟨vs, rfl, h1, h2⟩ := h; exact ⟨h1, h2⟩
  | tup xs => cases hc
  | und => cases hc
theorem CellsR.lit {l : List Value} (h : ∀ v ∈ l, v.oneCell' = true) : CellsR ρ w (l.map fun v => .p (.val v)) l.toArray := by
  refine ⟨by simp, fun j c hj => ?_⟩
  rw [List.getElem?_map] at hj
  cases hv : l[j]? with
  | none => rw [hv] at hj; cases hj
  | some u => rw [hv] at hj; cases hj; exact ⟨u, by simpa using hv, .val u, h u (List.mem_of_getElem? hv)⟩
theorem CellsR.set {cs : List CV} {vs : Array Value} (h : CellsR ρ w cs vs) (k : Nat) {c : CV} {u : Value} (hc : CR ρ w c u) (h1 : u.oneCell' = true) : CellsR ρ w (cs.set k c) (vs.setIfInBounds k u) := by
  refine ⟨by simpa using h.1, fun j c' hj => ?_⟩
  rw [List.getElem?_set] at hj
  by_cases e : k = j
  · subst e
    split at hj
    · split at hj
      · rename_i hlt
        cases hj
        exact ⟨u, by rw [Array.getElem?_setIfInBounds_self_of_lt (by rw [h.1]; exact hlt)], hc, h1⟩
      · cases hj
    · rename_i hne; exact absurd rfl hne
  · rw [if_neg e] at hj
    obtain ⟨u', h2, h3⟩ := h.2 j c' hj
    exact ⟨u', by rw [Array.getElem?_setIfInBounds_ne e]; exact h2, h3⟩
/-- Cells written over, from an offset on. -/
def over (cs : List CV) (off : Nat) : List CV → List CV
  | [] => cs
  | c :: r => over (cs.set off c) (off + 1) r
theorem over_len : ∀ (l cs : List CV) (off : Nat), (over cs off l).length = cs.length
  | [], _, _ => rfl
  | c :: r, cs, off => by simp only [over]; rw [over_len r]; simp
theorem CellsR.over {off : Nat} : ∀ (l : List CV) (us : List Value) (k : Nat) (cs : List CV) (vs : Array Value), CellsR ρ w cs vs → us.length = l.length → (∀ (j : Nat) c, l[j]? = some c → ∃ u, us[j]? = some u ∧ CR ρ w c u ∧ u.oneCell' = true) →
    CellsR ρ w (AM.over cs (off + k) l) ((us.zipIdx k).foldl (fun cs (c, j) => cs.setIfInBounds (off + j) c) vs)
  | [], us, k, cs, vs, h, hl, _ => by
    have : us = [] := List.length_eq_zero_iff.1 hl
    subst this
    exact h
  | c :: r, [], k, cs, vs, h, hl, _ => by simp at hl
  | c :: r, u :: us, k, cs, vs, h, hl, hc => by
    obtain ⟨u', h1, h2, h3⟩ := hc 0 c rfl
    cases h1
    have := CellsR.over (off := off) r us (k + 1) (cs.set (off + k) c) (vs.setIfInBounds (off + k) u) (h.set _ h2 h3) (by simpa using hl) (fun j c' hj => hc (j + 1) c' hj)
    rw [← Nat.add_assoc] at this
    simpa [AM.over, List.zipIdx_cons] using this
def fillA (place : Nat → Option (Nat × Nat)) (cells : List CV) : List (Nat × List CV) → Option (List CV)
  | [] => some cells
  | (i, v) :: rest => match place i with
    | none => none
    | some (off, size) => if v.length = size ∧ off + v.length ≤ cells.length then fillA place (over cells off v) rest else none
theorem fillA_R (place : Nat → Option (Nat × Nat)) : ∀ (ps : List (Nat × List CV)) (vs : List (Nat × Value)) (cs : List CV) (us : Array Value) (out : List CV), CellsR ρ w cs us → vs.map (·.1) = ps.map (·.1) →
    (∀ (j : Nat) p q, ps[j]? = some p → vs[j]? = some q → CellsR ρ w p.2 q.2.cells) → fillA place cs ps = some out → ∃ o, Instr.fill place us vs = some o ∧ CellsR ρ w out o
  | [], vs, cs, us, out, h, hl, _, he => by
    have : vs = [] := by simpa using hl
    subst this
    cases he
    exact ⟨us, rfl, h⟩
  | (i, l) :: ps, [], cs, us, out, h, hl, _, _ => by simp at hl
  | (i, l) :: ps, (i', v) :: vs, cs, us, out, h, hl, hc, he => by
    have e : i' = i := by simp at hl; exact hl.1
    subst e
    have h0 := hc 0 (i', l) (i', v) rfl rfl
    simp only [fillA] at he
    split at he
    · cases he
    · rename_i off size hp
      split at he
      · rename_i hb
        have hn : v.cells.size = l.length := h0.1
        have ho := CellsR.over (off := off) l v.cells.toList 0 cs us h (by simpa using hn) (fun j c hj => by obtain ⟨u, h1, h2⟩ := h0.2 j c hj; exact ⟨u, by simpa using h1, h2⟩)
        obtain ⟨o, h1, h2⟩ := fillA_R place ps vs _ _ out ho (by simp at hl; exact hl) (fun j p q hj hq => hc (j + 1) p q hj hq) (by simpa using he)
        refine ⟨o, ?_, h2⟩
        simp only [Instr.fill, hp]
        have c1 : ¬ (v.cells.size ≠ size ∨ off + v.cells.size > us.size) := by rw [hn, h.1]; omega
        have c2 : (decide (v.cells.size ≠ size) || decide (off + v.cells.size > us.size)) = false := by simpa using c1
        simp only [ne_eq, gt_iff_lt, Bool.or_eq_true, decide_eq_true_eq] at c1 ⊢
        rw [if_neg c1]
        rw [← Array.foldl_toList, Array.toList_zipIdx]
        exact h1
      · cases he
end
end AM
end Go.Proofs.Ytfbnjemmmgobkaa

namespace Go.Proofs.Ytfbnjemmmgobkaa
open Go.RowKit
set_option linter.unusedVariables false
set_option linter.unusedSimpArgs false
namespace AM
section
variable {P : Program} {ρ : Own} {w : World} {n : Nat} {K : AV → Option Blk → Prop}
abbrev one (c : CV) : AV := .a (.one c)
abbrev V (x : Value) : AV := .a (.one (.p (.val x)))
theorem R_new (ρ' : Own) (w' : World) (m n g i j : Nat) (h : ρ' n = some (g, 0)) : AR ρ' w' (one (.ptr m n i j)) (.pointer (some ⟨g, i * m + j, none⟩)) := ⟨⟨g, 0, h, by rw [Nat.zero_add]⟩, rfl⟩
theorem CR_one_row {cs : List CV} {vs : Array Value} (h : CellsR ρ w cs vs) : ∀ (i j : Nat) (row : List CV) (c : CV), [cs][i]? = some row → row[j]? = some c → ∃ u, vs[i * cs.length + j]? = some u ∧ CR ρ w c u ∧ u.oneCell' = true := fun i j row c hi hj => by
  cases i with
  | zero => cases hi; rw [Nat.zero_mul, Nat.zero_add]; exact h.2 j c hj
  | succ i => simp at hi
theorem one_row_len (cs : List CV) : ∀ (i : Nat) (row : List CV), [cs][i]? = some row → row.length = cs.length := fun i row hi => by
  cases i with
  | zero => cases hi; rfl
  | succ i => simp at hi
theorem s_box {T : TypeId} {x : AV} {v : Value} {cs : List CV} (hn : ρ n = none) (hx : AR ρ w x v) (hc : cellsA x = some cs) (k : K (one (.ptr cs.length n 0 0)) (some ⟨T, cs.length, [cs]⟩)) :
    ∃ u w', (Instr.box T v).run P w = .ok u w' ∧ Post ρ w n K u w' := by
  have h := cellsA_R hx hc
  refine ⟨_, _, rfl, Post.block v.cells hn k (by simp [h.1]) (one_row_len cs) (CR_one_row h) fun ρ' w' hr _ => ?_⟩
  have := R_new ρ' w' cs.length n w.heap.size 0 0 hr
  simpa using this
theorem s_alloc {T : TypeId} {l : List Value} (hn : ρ n = none) (hz : zeroL P T = some l) (k : K (one (.ptr l.length n 0 0)) (some ⟨T, l.length, [l.map fun v => .p (.val v)]⟩)) :
    ∃ u w', (Instr.alloc T true (.tuple #[])).run P w = .ok u w' ∧ Post ρ w n K u w' := by
  obtain ⟨i, z, h1, h2, h3, h4⟩ := zeroL_parts hz
  have h := CellsR.lit (ρ := ρ) (w := w) h4
  have hl : (l.map fun v => CV.p (.val v)).length = l.length := by simp
  have he : l.toArray = z.cells := by rw [← h3]
  refine ⟨.pointer (some ⟨w.heap.size, 0, none⟩), w.alloc (.cells z.cells T), ?_, Post.block z.cells hn k (by rw [← he]; simp) (fun i row hi => by rw [one_row_len _ i row hi, hl]) (fun i j row c hi hj => by
    have := CR_one_row h i j row c hi hj
    rw [hl, he] at this
    exact this) fun ρ' w' hr _ => ?_⟩
  · simp [Instr.alloc, zeroValue, typeInfo, h1, h2, newVar, newRow]
  · have := R_new ρ' w' l.length n w.heap.size 0 0 hr
    simpa using this
theorem s_extract {x : AV} {v : Value} {xs : List A1} {i : Nat} {y : A1} (hx : AR ρ w x v) (he : x = .tup xs) (hi : xs[i]? = some y) (k : K (.a y) none) : ∃ u w', (Instr.extract v i).run P w = .ok u w' ∧ Post ρ w n K u w' := by
  subst he
  obtain ⟨vs, rfl, h1, h2⟩ := hx
  obtain ⟨u, h3, h4⟩ := h2 i y hi
  exact ⟨u, w, by simp [Instr.extract, h3], Post.val k h4⟩
def pickA (b : Bool) (x y : AV) : AV := match x, y with
  | .a (.one (.p (.val (.bool u)))), .a (.one (.p (.val (.bool v)))) => V (.bool (bif b then u else v))
  | .a (.one (.p (.val (.int k u)))), .a (.one (.p (.val (.int k' v)))) => if k = k' then V (.int k (bif b then u else v)) else bif b then x else y
  | .a (.one (.p (.val (.string u)))), .a (.one (.p (.val (.string v)))) => V (.string (bif b then u else v))
  | _, _ => bif b then x else y
theorem pickA_R {b : Bool} {x y : AV} {u v : Value} (hx : AR ρ w x u) (hy : AR ρ w y v) : AR ρ w (pickA b x y) (if b then u else v) := by
  unfold pickA
  split
  · cases b <;> assumption
  · split
    · rename_i e; subst e; cases b <;> assumption
    · cases b <;> assumption
  · cases b <;> assumption
  · cases b <;> assumption
/-! ### Loads -/
theorem run_load_one {T : TypeId} {d : TypeDesc} (a : Addr) (v : Value) (hu : P.underlying T = some d) (hd : d.isRow = false) (h : w.cell? a = some v) : (Instr.loadAt T (.pointer (some a))).run P w = .ok v w := by
  have hagg : (isAgg T).run P w = .ok false w := by
    unfold isAgg; rw [Sem.run_bind, run_underlying hu w]; cases d <;> simp_all
  simp [Instr.loadAt, Instr.sureAddr, loadVar, Sem.run_bind, hagg, load, Sem.run, h]
/-- What a load through a pointer gives. -/
def loadA (P : Program) (h : Heap) (T : TypeId) (x : AV) : Option A1 := (sizeL P T).bind fun s => match x with
  | .a (.one (.vp cells)) => if s.2 then (if s.1 ≤ cells.length then some (.agg ((cells.take s.1).map .p)) else none) else (cells[0]?).map fun c => .one (.p c)
  | .a (.one (.ptr m b i j)) => match h[b]? with
    | some (some blk) => if blk.m = m then (blk.rows[i]?).bind fun row => if s.2 then (if j + s.1 ≤ row.length then some (.agg ((row.drop j).take s.1)) else none) else (row[j]?).map .one else none
    | _ => none
  | _ => none
theorem s_load {h H : Heap} {w0 : World} {T : TypeId} {x : AV} {v : Value} {y : A1} (hG : G H w0 ρ w) (hH : ∀ (b : Nat) blk, h[b]? = some (some blk) → H[b]? = some (some blk)) (hx : AR ρ w x v) (hl : loadA P h T x = some y) (k : K (.a y) none) :
    ∃ u w', (Instr.loadAt T v).run P w = .ok u w' ∧ Post ρ w n K u w' := by
  unfold loadA at hl
  cases hs : sizeL P T with
  | none => rw [hs] at hl; cases hl
  | some s =>
    obtain ⟨s, ag⟩ := s
    obtain ⟨i0, d, hi, hsz, hu, hd⟩ := sizeL_parts hs
    rw [hs, Option.bind_some] at hl
    dsimp only at hl
    split at hl
    · rename_i cells
      obtain ⟨⟨g, q, f, rfl, hg, hw, hr⟩, _⟩ := hx
      cases ag with
      | true =>
        simp only [if_true] at hl
        split at hl
        · rename_i hle
          cases hl
          refine ⟨.agg ((List.range s).map f).toArray, w, run_loadAt_mid (P := P) w g q T ((List.range s).map f) d (fun j u hj => ?_) hu hd (by simp [hi, hsz]), Post.val k ⟨_, rfl, by simp; omega, fun j c hj => ?_⟩⟩
          · have hjs : j < s := by have := (List.getElem?_eq_some_iff.1 hj).1; simpa using this
            rw [List.getElem?_map, List.getElem?_range hjs] at hj
            cases hj
            have hjc : j < cells.length := by omega
            exact hw j cells[j] (by simp [hjc])
          · rw [List.getElem?_map] at hj
            cases hv : (cells.take s)[j]? with
            | none => rw [hv] at hj; cases hj
            | some c' =>
              rw [hv] at hj; cases hj
              have hjs : j < s := by have := (List.getElem?_eq_some_iff.1 hv).1; simp at this; omega
              rw [List.getElem?_take_of_lt hjs] at hv
              exact ⟨f j, by simp [hjs], (hr j c' hv).1, (hr j c' hv).2⟩
        · cases hl
      | false =>
        simp only [Bool.false_eq_true, if_false, Option.map_eq_some_iff] at hl
        obtain ⟨c, hc, rfl⟩ := hl
        exact ⟨f 0, w, run_load_one _ _ hu hd (hw 0 c hc), Post.val k ⟨(hr 0 c hc).1, (hr 0 c hc).2⟩⟩
    · rename_i m b i j
      obtain ⟨⟨g, o, hb, rfl⟩, _⟩ := hx
      split at hl
      · rename_i blk hblk
        split at hl
        · rename_i hm
          subst hm
          obtain ⟨c, fr, hc, _, _, hm, hv⟩ := hG.held b blk g o (hH b blk hblk) hb
          cases hrow : blk.rows[i]? with
          | none => rw [hrow] at hl; cases hl
          | some row =>
            rw [hrow, Option.bind_some] at hl
            have hcell : ∀ q u, c[o + (i * blk.m + q)]? = some u → w.cell? ⟨g, o + (i * blk.m + q), none⟩ = some u := fun q u hq => by rw [cell_of_row w g _ c blk.T fr hc]; exact hq
            cases ag with
            | true =>
              simp only [if_true] at hl
              split at hl
              · rename_i hle
                cases hl
                have key : ∀ q, q < s → ∃ u, c[o + (i * blk.m + (j + q))]? = some u ∧ CR ρ w (row.getD (j + q) default) u ∧ u.oneCell' = true := fun q hq => by
                  have hlt : j + q < row.length := by omega
                  obtain ⟨u, h1, h2, h3⟩ := hv i (j + q) row row[j + q] hrow (by simp [hlt])
                  exact ⟨u, h1, by simpa [hlt] using h2, h3⟩
                let f : Nat → Value := fun q => (c[o + (i * blk.m + (j + q))]?).getD undef
                refine ⟨.agg ((List.range s).map f).toArray, w, run_loadAt_mid (P := P) w g _ T ((List.range s).map f) d (fun q u hq => ?_) hu hd (by simp [hi, hsz]), Post.val k ⟨_, rfl, by simp; omega, fun q c' hq => ?_⟩⟩
                · have hqs : q < s := by have := (List.getElem?_eq_some_iff.1 hq).1; simpa using this
                  rw [List.getElem?_map, List.getElem?_range hqs] at hq
                  obtain ⟨u', h1, _⟩ := key q hqs
                  have e : f q = u' := by show (c[o + (i * blk.m + (j + q))]?).getD undef = u'; rw [h1]; rfl
                  rw [Option.map_some, e] at hq
                  have hq' := Option.some.inj hq
                  have := hcell (j + q) u' h1
                  rw [← hq']
                  rw [show o + (i * blk.m + j) + q = o + (i * blk.m + (j + q)) by omega]
                  exact this
                · have hqs : q < s := by have := (List.getElem?_eq_some_iff.1 hq).1; simp at this; omega
                  rw [List.getElem?_take_of_lt hqs, List.getElem?_drop] at hq
                  obtain ⟨u', h1, h2, h3⟩ := hv i (j + q) row c' hrow hq
                  exact ⟨u', by simp [hqs, f, h1], h2, h3⟩
              · cases hl
            | false =>
              simp only [Bool.false_eq_true, if_false, Option.map_eq_some_iff] at hl
              obtain ⟨c', hc', rfl⟩ := hl
              obtain ⟨u, h1, h2, h3⟩ := hv i j row c' hrow hc'
              exact ⟨u, w, run_load_one _ _ hu hd (hcell j u h1), Post.val k ⟨h2, h3⟩⟩
        · cases hl
      · cases hl
    · cases hl
end
end AM
end Go.Proofs.Ytfbnjemmmgobkaa

namespace Go.Proofs.Ytfbnjemmmgobkaa
open Go.RowKit
set_option linter.unusedVariables false
set_option linter.unusedSimpArgs false
namespace AM
section
variable {P : Program} {ρ : Own} {w : World} {n : Nat} {K : AV → Option Blk → Prop}
/-! ### Structs -/
def partA (cs : List CV) (s : Nat × Nat × Bool) : Option A1 := if s.2.2 then (if s.1 + s.2.1 ≤ cs.length then some (.agg ((cs.drop s.1).take s.2.1)) else none) else (cs[s.1]?).map .one
theorem s_field {T : TypeId} {x : AV} {v : Value} {cs : List CV} {f : Nat} {y : A1} {l : List (Nat × Nat × Bool)} {s : Nat × Nat × Bool} (hx : AR ρ w x v) (he : x = .a (.agg cs)) (hf : fieldsL P T = some l) (hs : l[f]? = some s) (hy : partA cs s = some y) (k : K (.a y) none) :
    ∃ u w', (Instr.field T v f).run P w = .ok u w' ∧ Post ρ w n K u w' := by
  subst he
  obtain ⟨off, sz, b⟩ := s
  obtain ⟨fs, hu, _, h1⟩ := fieldsL_parts hf
  obtain ⟨fd, h2, rfl, h3⟩ := h1 f off sz b hs
  obtain ⟨i0, d, hi, rfl, hd, rfl⟩ := sizeL_parts h3
  obtain ⟨vs, rfl, h4, h5⟩ := hx
  have hagg : (isAgg fd.type).run P w = .ok d.isRow w := by
    unfold isAgg; rw [Sem.run_bind, run_underlying hd w]; cases d <;> rfl
  unfold partA at hy
  cases hb : d.isRow with
  | true =>
    simp only [hb, if_true] at hy
    split at hy
    · rename_i hle
      cases hy
      refine ⟨.agg (vs.extract fd.offset (fd.offset + i0.size)), w, ?_, Post.val k ⟨_, rfl, by simp; omega, fun j c hj => ?_⟩⟩
      · simp [Instr.field, run_underlying hu, h2, asAgg, part, Sem.run_bind, hagg, hb, sizeOf, typeInfo, hi]
      · have hjs : j < i0.size := by have := (List.getElem?_eq_some_iff.1 hj).1; simp at this; omega
        rw [List.getElem?_take_of_lt hjs, List.getElem?_drop] at hj
        obtain ⟨u, h6, h7⟩ := h5 _ c hj
        refine ⟨u, ?_, h7⟩
        rw [Array.getElem?_extract]
        rw [if_pos (by omega)]
        exact h6
    · cases hy
  | false =>
    simp only [hb, Bool.false_eq_true, if_false, Option.map_eq_some_iff] at hy
    obtain ⟨c, hc, rfl⟩ := hy
    obtain ⟨u, h6, h7⟩ := h5 _ c hc
    exact ⟨u, w, by simp [Instr.field, run_underlying hu, h2, asAgg, part, Sem.run_bind, hagg, hb, h6], Post.val k h7⟩
def fieldAddrA (x : AV) (off : Nat) : Option CV := match x with
  | .a (.one (.ptr m b i j)) => some (.ptr m b i (j + off))
  | .a (.one (.vp cells)) => some (.vp (cells.drop off))
  | _ => none
theorem run_fieldAt_off {T : TypeId} {f off sz : Nat} {b : Bool} {l : List (Nat × Nat × Bool)} (g q : Nat) (hf : fieldsL P T = some l) (hs : l[f]? = some (off, sz, b)) (hsz : sz ≠ 0) :
    (Instr.fieldAt T (.pointer (some ⟨g, q, none⟩)) f).run P w = .ok (.pointer (some ⟨g, q + off, none⟩)) w := by
  obtain ⟨fs, hu, _, h1⟩ := fieldsL_parts hf
  obtain ⟨fd, h2, rfl, h3⟩ := h1 f off sz b hs
  obtain ⟨i0, d, hi, rfl, hd, rfl⟩ := sizeL_parts h3
  simp [Instr.fieldAt, run_underlying hu, h2, Instr.sureAddr, fieldPlace, sizeOf, typeInfo, hi, hsz, Addr.add_mid]
theorem s_fieldAddr {T : TypeId} {x : AV} {v : Value} {f : Nat} {y : CV} {l : List (Nat × Nat × Bool)} {s : Nat × Nat × Bool} (hx : AR ρ w x v) (hf : fieldsL P T = some l) (hs : l[f]? = some s) (hsz : s.2.1 ≠ 0) (hy : fieldAddrA x s.1 = some y) (k : K (one y) none) :
    ∃ u w', (Instr.fieldAt T v f).run P w = .ok u w' ∧ Post ρ w n K u w' := by
  obtain ⟨off, sz, b⟩ := s
  unfold fieldAddrA at hy
  split at hy
  · cases hy
    obtain ⟨⟨g, o, hb, rfl⟩, _⟩ := hx
    exact ⟨_, w, run_fieldAt_off g _ hf hs hsz, Post.val k ⟨⟨g, o, hb, by simp only [Nat.add_assoc]⟩, rfl⟩⟩
  · rename_i cells
    cases hy
    obtain ⟨⟨g, q, c, rfl, hg, h1, h2⟩, _⟩ := hx
    exact ⟨_, w, run_fieldAt_off g _ hf hs hsz, Post.val k ⟨⟨g, q + off, fun j => c (off + j), rfl, hg, fun j x hj => by rw [List.getElem?_drop] at hj; rw [Nat.add_assoc]; exact h1 _ x hj, fun j x hj => by rw [List.getElem?_drop] at hj; exact h2 _ x hj⟩, rfl⟩⟩
  · cases hy
theorem s_build {T : TypeId} {l : List (Nat × Nat × Bool)} {z : List Value} {ps : List (Nat × List CV)} {parts : Array (Nat × Value)} {out : List CV} (hf : fieldsL P T = some l) (hz : zeroL P T = some z)
    (hi : parts.toList.map (·.1) = ps.map (·.1)) (hc : ∀ (j : Nat) p q, ps[j]? = some p → parts.toList[j]? = some q → CellsR ρ w p.2 q.2.cells)
    (ho : fillA (fun i => (l[i]?).map fun s => (s.1, s.2.1)) (z.map fun v => .p (.val v)) ps = some out) (k : K (.a (.agg out)) none) : ∃ u w', (Instr.build T parts).run P w = .ok u w' ∧ Post ρ w n K u w' := by
  obtain ⟨i, z0, h1, h2, h3, h4⟩ := zeroL_parts hz
  obtain ⟨fs, hu, hlen, h5⟩ := fieldsL_parts hf
  have h := CellsR.lit (ρ := ρ) (w := w) h4
  have he : z.toArray = z0.cells := by rw [← h3]
  rw [he] at h
  obtain ⟨o, h6, h7⟩ := fillA_R _ ps parts.toList _ _ out h hi hc ho
  have hpl : ∃ pl : Array (Nat × Nat), (fs.mapM fun f => (do pure (f.offset, ← sizeOf f.type) : Sem (Nat × Nat))).run P w = .ok pl w ∧ ∀ i : Nat, (pl[i]? : Option (Nat × Nat)) = (l[i]?).map fun s => (s.1, s.2.1) := by
    have key : ∀ (fl : List Field) (k : Nat), (∀ (j : Nat) f, fl[j]? = some f → ∃ s : Nat × Nat × Bool, l[k + j]? = some s ∧ f.offset = s.1 ∧ ∃ i, P.info? f.type = some i ∧ i.size = s.2.1) →
        ∃ pl : List (Nat × Nat), (fl.mapM fun f => (do pure (f.offset, ← sizeOf f.type) : Sem (Nat × Nat))).run P w = .ok pl w ∧ pl.length = fl.length ∧ ∀ j : Nat, j < fl.length → pl[j]? = (l[k + j]?).map fun s => (s.1, s.2.1) := by
      intro fl
      induction fl with
      | nil => intro k _; exact ⟨[], by simp, rfl, fun j hj => by simp at hj⟩
      | cons f r ih =>
        intro k hk
        obtain ⟨s, e1, e2, i', e3, e4⟩ := hk 0 f rfl
        obtain ⟨pl, e5, e6, e7⟩ := ih (k + 1) (fun j f' hj => by have := hk (j + 1) f' hj; rwa [show k + 1 + j = k + (j + 1) by omega])
        refine ⟨(s.1, s.2.1) :: pl, ?_, by simp [e6], fun j hj => ?_⟩
        · have hz2 : (sizeOf f.type).run P w = .ok s.2.1 w := by simp [sizeOf, typeInfo, e3, e4]
          rw [List.mapM_cons, Sem.run_bind, Sem.run_bind, hz2]
          simp only [Result.andThen_ok, Sem.run_pure, Sem.run_bind, e5, e2]
        · cases j with
          | zero => rw [Nat.add_zero] at e1 ⊢; rw [e1]; rfl
          | succ j => rw [List.getElem?_cons_succ, e7 j (by simpa using hj), show k + 1 + j = k + (j + 1) by omega]
    have hfl : ∀ (j : Nat) f, fs.toList[j]? = some f → ∃ s : Nat × Nat × Bool, l[0 + j]? = some s ∧ f.offset = s.1 ∧ ∃ i, P.info? f.type = some i ∧ i.size = s.2.1 := fun j f hj => by
      have hjl : j < l.length := by have := (List.getElem?_eq_some_iff.1 hj).1; simp at this; omega
      obtain ⟨f', e1, e2, e3⟩ := h5 j l[j].1 l[j].2.1 l[j].2.2 (by simp [hjl])
      have : f' = f := by rw [← Array.getElem?_toList, hj] at e1; exact (Option.some.inj e1).symm
      subst this
      obtain ⟨i', d, e4, e5, _⟩ := sizeL_parts e3
      exact ⟨l[j], by simp [hjl], e2, i', e4, e5⟩
    obtain ⟨pl, e1, e2, e3⟩ := key fs.toList 0 hfl
    refine ⟨pl.toArray, ?_, fun i => ?_⟩
    · rw [Array.mapM_eq_mapM_toList]
      show Sem.run P ((fs.toList.mapM _) >>= fun l => pure l.toArray) w = _
      rw [Sem.run_bind, e1]
      rfl
    · by_cases hlt : i < fs.toList.length
      · have := e3 i hlt; simpa using this
      · have h8 : l[i]? = none := List.getElem?_eq_none (by simp at hlt; omega)
        rw [h8]; simp; omega
  obtain ⟨pl, e1, e2⟩ := hpl
  have e3 : (fun i : Nat => (pl[i]? : Option (Nat × Nat))) = (fun i => (l[i]?).map fun s => (s.1, s.2.1)) := funext e2
  refine ⟨.agg o, w, ?_, Post.val k ⟨o, rfl, h7.1, h7.2⟩⟩
  have hzv : (zeroValue T).run P w = .ok z0 w := by simp [zeroValue, typeInfo, h1, h2]
  simp only [Instr.build, Sem.run_bind, hzv, Result.andThen_ok, Sem.run_pure, run_underlying hu, e1]
  rw [e3, h6]
  rfl
end
end AM
end Go.Proofs.Ytfbnjemmmgobkaa

namespace Go.Proofs.Ytfbnjemmmgobkaa
open Go.RowKit
set_option linter.unusedVariables false
set_option linter.unusedSimpArgs false
namespace AM
section
variable {P : Program} {ρ : Own} {w : World} {n : Nat} {K : AV → Option Blk → Prop}
theorem run_indexAt_in {T e : TypeId} {m : Nat} (he : elemL P T = some (e, m)) (g q len cap : Nat) (k : IntKind) (i : Int) (h0 : 0 ≤ i) (h1 : i < len) :
    (Instr.indexAt T (.slice (some ⟨g, q, none⟩) len cap) (.int k i)).run P w = .ok (.pointer (some ⟨g, q + i.toNat * m, none⟩)) w := by
  obtain ⟨i0, hu, hi, rfl⟩ := elemL_parts he
  simp [Instr.indexAt, run_underlying hu, asIntOf, h0, h1, sizeOf, typeInfo, hi, Addr.add_mid]
theorem s_index_view {T e : TypeId} {m : Nat} {v : Value} {rows : List (List PV)} {row : List PV} {k : IntKind} {i : Int} (he : elemL P T = some (e, m)) (hx : AR ρ w (one (.p (.view m rows))) v) (h0 : 0 ≤ i) (hr : rows[i.toNat]? = some row)
    (hk : K (one (.vp row)) none) : ∃ u w', (Instr.indexAt T v (.int k i)).run P w = .ok u w' ∧ Post ρ w n K u w' := by
  obtain ⟨hp, _⟩ := hx
  have hlt := (List.getElem?_eq_some_iff.1 hr).1
  cases hp with
  | nil m a c => simp at hlt
  | view m rows g o c f hne hS hc hm hw ho hrr =>
    refine ⟨_, w, run_indexAt_in he g o _ c k i h0 (by omega), Post.val hk ⟨⟨g, o + i.toNat * m, f i.toNat, rfl, hS, fun j x hj => ?_, fun j x hj => ⟨hrr _ j row x hr hj, ho _ j row x hr hj⟩⟩, rfl⟩⟩
    rw [Nat.add_assoc]; exact hw _ j row x hr hj
theorem s_index_own {T e : TypeId} {m b s len : Nat} {v : Value} {k : IntKind} {i : Int} (he : elemL P T = some (e, m)) (hx : AR ρ w (one (.sl m b s len)) v) (h0 : 0 ≤ i) (h1 : i < len)
    (hk : K (one (.ptr m b (s + i.toNat) 0)) none) : ∃ u w', (Instr.indexAt T v (.int k i)).run P w = .ok u w' ∧ Post ρ w n K u w' := by
  obtain ⟨hp, _⟩ := hx
  rcases hp with ⟨rfl, _⟩ | ⟨g, o, c, hb, rfl, hc, _, _⟩
  · omega
  · refine ⟨_, w, run_indexAt_in he g _ len c k i h0 h1, Post.val hk ⟨⟨g, o, hb, ?_⟩, rfl⟩⟩
    rw [Nat.add_zero, Nat.add_mul, Nat.add_assoc]
/-! ### Slices of slices -/
def bound (d : Int) : Option Value → Option Int
  | none => some d
  | some (.int _ i) => some i
  | _ => none
theorem run_bounds {lo hi : Option Value} {len cap : Nat} {l h : Int} (hl : bound 0 lo = some l) (hh : bound len hi = some h) (h0 : 0 ≤ l) (h1 : l ≤ h) (h2 : h ≤ len) (hc : len ≤ cap) :
    (Instr.sliceBounds true len cap lo hi none).run P w = .ok (l.toNat, h.toNat, cap) w := by
  unfold Instr.sliceBounds
  cases hi with
  | none =>
    cases hh
    cases lo with
    | none => cases hl; simp
    | some v => cases v <;> simp only [bound] at hl <;> first | cases hl | skip
                simp [Instr.sliceBound, asIntOf, h0, h1]
  | some v =>
    cases v <;> simp only [bound] at hh <;> first | cases hh | skip
    have hc' : h ≤ (cap : Int) := by omega
    have h00 : 0 ≤ h := by omega
    have e : ((h.toNat : Nat) : Int) = h := by omega
    cases lo with
    | none => cases hl; simp [Instr.sliceBound, asIntOf, h00, hc']
    | some v => cases v <;> simp only [bound] at hl <;> first | cases hl | skip
                simp [Instr.sliceBound, asIntOf, h0, h1, h00, hc', e]
theorem run_sliceAt_in {T e : TypeId} {m : Nat} (he : elemL P T = some (e, m)) (a : Option Addr) {lo hi : Option Value} {len cap : Nat} {l h : Int} (hl : bound 0 lo = some l) (hh : bound len hi = some h) (h0 : 0 ≤ l) (h1 : l ≤ h) (h2 : h ≤ len) (hc : len ≤ cap) :
    (Instr.sliceAt T (.slice a len cap) lo hi none).run P w = .ok (.slice (if cap = l.toNat then a else a.map (·.add (l.toNat * m))) (h.toNat - l.toNat) (cap - l.toNat)) w := by
  obtain ⟨i0, hu, hi, rfl⟩ := elemL_parts he
  have hb := run_bounds (P := P) (w := w) hl hh h0 h1 h2 hc
  simp only [Instr.sliceAt, Instr.slice, Sem.run_bind, run_underlying hu, Result.andThen_ok, hb]
  simp [sizeOf, typeInfo, hi]
theorem s_slice_view {T e : TypeId} {m : Nat} {v : Value} {rows : List (List PV)} {lo hi : Option Value} {l h : Int} (he : elemL P T = some (e, m)) (hx : AR ρ w (one (.p (.view m rows))) v) (hl : bound 0 lo = some l) (hh : bound rows.length hi = some h)
    (h0 : 0 ≤ l) (h1 : l ≤ h) (h2 : h ≤ rows.length) (hk : K (one (.p (.view m ((rows.take h.toNat).drop l.toNat)))) none) :
    ∃ u w', (Instr.sliceAt T v lo hi none).run P w = .ok u w' ∧ Post ρ w n K u w' := by
  obtain ⟨hp, _⟩ := hx
  cases hp with
  | nil m a c =>
    have e0 : l = 0 := by simp at h2; omega
    have e1 : h = 0 := by simp at h2; omega
    subst e0; subst e1
    have := run_sliceAt_in (P := P) (w := w) he a (cap := c) hl hh h0 h1 h2 (Nat.zero_le _)
    refine ⟨_, w, this, Post.val hk ⟨?_, rfl⟩⟩
    simp only [List.take_nil, List.drop_nil, Int.toNat_zero, Nat.sub_zero]
    exact .nil m _ _
  | view m rows g o c f hne hS hc hm hw ho hrr =>
    have := run_sliceAt_in (P := P) (w := w) he (some ⟨g, o, none⟩) (cap := c) hl hh h0 h1 h2 hc
    refine ⟨_, w, this, Post.val hk ⟨?_, rfl⟩⟩
    have hlen : ((rows.take h.toNat).drop l.toNat).length = h.toNat - l.toNat := by simp; omega
    by_cases hz : (rows.take h.toNat).drop l.toNat = []
    · rw [hz] at hlen ⊢
      simp only [List.length_nil] at hlen
      rw [← hlen]
      exact .nil m _ _
    · have hpos : 0 < h.toNat - l.toNat := by rw [← hlen]; exact List.length_pos_iff.2 hz
      rw [if_neg (by omega), ← hlen]
      simp only [Option.map_some, Addr.add_mid]
      have hat : ∀ (i : Nat) (row : List PV), ((rows.take h.toNat).drop l.toNat)[i]? = some row → rows[l.toNat + i]? = some row := fun i row hi => by
        rw [List.getElem?_drop] at hi
        have hlt : l.toNat + i < h.toNat := by have := (List.getElem?_eq_some_iff.1 hi).1; simp at this; omega
        rw [List.getElem?_take_of_lt hlt] at hi
        exact hi
      refine .view m _ g _ _ (fun i j => f (l.toNat + i) j) hz hS (by rw [hlen]; omega) (fun i row hi => hm _ row (hat i row hi)) (fun i j row x hi hj => ?_) (fun i j row x hi hj => ho _ j row x (hat i row hi) hj) (fun i j row x hi hj => hrr _ j row x (hat i row hi) hj)
      have := hw _ j row x (hat i row hi) hj
      rw [show o + l.toNat * m + (i * m + j) = o + ((l.toNat + i) * m + j) by rw [Nat.add_mul]; omega]
      exact this
theorem s_slice_own {T e : TypeId} {m b s len : Nat} {v : Value} {lo hi : Option Value} {l h : Int} (he : elemL P T = some (e, m)) (hx : AR ρ w (one (.sl m b s len)) v) (hl : bound 0 lo = some l) (hh : bound len hi = some h)
    (h0 : 0 ≤ l) (h1 : l ≤ h) (h2 : h ≤ len) (hk : K (one (.sl m b (s + l.toNat) (h.toNat - l.toNat))) none) :
    ∃ u w', (Instr.sliceAt T v lo hi none).run P w = .ok u w' ∧ Post ρ w n K u w' := by
  obtain ⟨hp, _⟩ := hx
  rcases hp with ⟨rfl, a, rfl⟩ | ⟨g, o, c, hb, rfl, hc, hcm, cs, T', fr, h5, h6⟩
  · have e0 : l = 0 := by omega
    have e1 : h = 0 := by omega
    subst e0; subst e1
    have := run_sliceAt_in (P := P) (w := w) he a (cap := 0) hl hh h0 h1 h2 (Nat.zero_le _)
    exact ⟨_, w, this, Post.val hk ⟨.inl ⟨by simp, _, rfl⟩, rfl⟩⟩
  · have := run_sliceAt_in (P := P) (w := w) he (some ⟨g, o + s * m, none⟩) (cap := c) hl hh h0 h1 h2 hc
    refine ⟨_, w, this, Post.val hk ⟨?_, rfl⟩⟩
    by_cases hz : c = l.toNat
    · refine .inl ⟨by omega, some ⟨g, o + s * m, none⟩, ?_⟩
      rw [if_pos hz, show h.toNat - l.toNat = 0 by omega, show c - l.toNat = 0 by omega]
    · rw [if_neg hz]
      simp only [Option.map_some, Addr.add_mid]
      refine .inr ⟨g, o, c - l.toNat, hb, ?_, by omega, by omega, cs, T', fr, h5, ?_⟩
      · rw [show o + s * m + l.toNat * m = o + (s + l.toNat) * m by rw [Nat.add_mul]; omega]
      · rw [show s + l.toNat + (c - l.toNat) = s + c by omega]; exact h6
/-! ### len -/
theorem s_len_view {T ty e : TypeId} {m m' : Nat} {v : Value} {rows : List (List PV)} (he : elemL P T = some (e, m')) (hx : AR ρ w (one (.p (.view m rows))) v) (hk : K (V (.int .i64 rows.length)) none) :
    ∃ u w', (Builtin.len_ #[T] ty #[v]).run P w = .ok u w' ∧ Post ρ w n K u w' := by
  obtain ⟨i0, hu, hi, _⟩ := elemL_parts he
  obtain ⟨hp, _⟩ := hx
  cases hp with
  | nil m a c => exact ⟨_, w, by simp [Builtin.len_, run_underlying hu, goInt], Post.val hk ⟨.val _, rfl⟩⟩
  | view m rows g o c f hne hS hc hm hw ho hrr => exact ⟨_, w, by simp [Builtin.len_, run_underlying hu, goInt], Post.val hk ⟨.val _, rfl⟩⟩
theorem s_len_own {T ty e : TypeId} {m m' b s len : Nat} {v : Value} (he : elemL P T = some (e, m')) (hx : AR ρ w (one (.sl m b s len)) v) (hk : K (V (.int .i64 len)) none) :
    ∃ u w', (Builtin.len_ #[T] ty #[v]).run P w = .ok u w' ∧ Post ρ w n K u w' := by
  obtain ⟨i0, hu, hi, _⟩ := elemL_parts he
  obtain ⟨hp, _⟩ := hx
  rcases hp with ⟨rfl, a, rfl⟩ | ⟨g, o, c, hb, rfl, _⟩
  · exact ⟨_, w, by simp [Builtin.len_, run_underlying hu, goInt], Post.val hk ⟨.val _, rfl⟩⟩
  · exact ⟨_, w, by simp [Builtin.len_, run_underlying hu, goInt], Post.val hk ⟨.val _, rfl⟩⟩
theorem s_len_nil {T ty e : TypeId} {m' : Nat} {v : Value} (he : elemL P T = some (e, m')) (hx : AR ρ w (one .nilsl) v) (hk : K (V (.int .i64 0)) none) :
    ∃ u w', (Builtin.len_ #[T] ty #[v]).run P w = .ok u w' ∧ Post ρ w n K u w' := by
  obtain ⟨i0, hu, hi, _⟩ := elemL_parts he
  obtain ⟨⟨a, rfl⟩, _⟩ := hx
  exact ⟨_, w, by simp [Builtin.len_, run_underlying hu, goInt], Post.val hk ⟨.val _, rfl⟩⟩
/-! ### make, literals -/
def bytesL (P : Program) (e : TypeId) : Option Nat := (P.info? e).map (·.bytes)
theorem s_make {T e : TypeId} {m by_ : Nat} {z : List Value} {kl kc : IntKind} {l c : Int} (hn : ρ n = none) (he : elemL P T = some (e, m)) (hz : zeroL P e = some z) (hzm : z.length = m) (hm : m ≠ 0) (hby : bytesL P e = some by_)
    (h0 : 0 ≤ l) (h1 : l ≤ c) (h2 : (by_ : Int) * c ≤ 281474976710656) (h3 : c ≤ 9223372036854775807) (hk : K (one (.sl m n 0 l.toNat)) (some ⟨e, m, List.replicate l.toNat (z.map fun v => .p (.val v))⟩)) :
    ∃ u w', (Instr.makeSlice T (.int kl l) (.int kc c)).run P w = .ok u w' ∧ Post ρ w n K u w' := by
  obtain ⟨i0, hu, hi, rfl⟩ := elemL_parts he
  obtain ⟨i1, z0, h4, h5, h6, h7⟩ := zeroL_parts hz
  have e1 : i1 = i0 := by rw [hi] at h4; exact (Option.some.inj h4).symm
  subst e1
  have e2 : i1.bytes = by_ := by unfold bytesL at hby; rw [hi] at hby; exact Option.some.inj hby
  subst e2
  have hrun := run_make (P := P) w T e i1 z0 hu hi h5 kl kc l c h0 h1 h2 h3
  have hzs : z0.cells.size = i1.size := by rw [← hzm, ← h6]; simp
  have hmul := Nat.mul_le_mul_right i1.size (show l.toNat ≤ c.toNat by omega)
  refine ⟨_, _, hrun, Post.block (m := i1.size) _ hn hk (by simp [size_madeCells]; exact hmul) (fun i row hi => ?_) (fun i j row x hi hj => ?_) fun ρ' w' hr hw' => ⟨.inr ⟨w.heap.size, 0, c.toNat, hr, by rw [Nat.zero_mul], by omega, by unfold maxLen; omega, madeCells z0.cells (c.toNat * i1.size), e, (0, 0), by subst hw'; exact heap_alloc_new w _, by simp [size_madeCells]⟩, rfl⟩⟩
  · have := List.mem_of_getElem? hi
    rw [(List.mem_replicate.1 this).2]; simp [hzm]
  · have hil : i < l.toNat := by have := (List.getElem?_eq_some_iff.1 hi).1; simpa using this
    have e3 := (List.mem_replicate.1 (List.mem_of_getElem? hi)).2
    subst e3
    rw [List.getElem?_map] at hj
    cases hv : z[j]? with
    | none => rw [hv] at hj; cases hj
    | some v =>
      rw [hv] at hj; cases hj
      have hjm : j < i1.size := by have := (List.getElem?_eq_some_iff.1 hv).1; omega
      refine ⟨v, ?_, .val v, h7 v (List.mem_of_getElem? hv)⟩
      have hlt : i * i1.size + j < c.toNat * i1.size := by
        have := Nat.mul_le_mul_right i1.size (show i + 1 ≤ c.toNat by omega)
        rw [Nat.succ_mul] at this; omega
      unfold madeCells
      rw [Array.getElem?_map, Array.getElem?_range, if_pos hlt, Option.map_some]
      congr 1
      rw [hzs, Nat.mul_add_mod_of_lt hjm]
      have h8 : z0.cells[j]? = some v := by rw [← Array.getElem?_toList, h6]; exact hv
      simp [getElem!_def, h8]
end
end AM
end Go.Proofs.Ytfbnjemmmgobkaa

namespace Go.Proofs.Ytfbnjemmmgobkaa
open Go.RowKit
set_option linter.unusedVariables false
set_option linter.unusedSimpArgs false
namespace AM
section
variable {P : Program} {ρ : Own} {w : World} {n : Nat} {K : AV → Option Blk → Prop}
/-- k rows of m cells. -/
def chunk (m : Nat) : Nat → List CV → List (List CV)
  | 0, _ => []
  | k + 1, l => l.take m :: chunk m k (l.drop m)
theorem chunk_len (m : Nat) : ∀ (k : Nat) (l : List CV), (chunk m k l).length = k
  | 0, _ => rfl
  | k + 1, l => by simp [chunk, chunk_len m k]
theorem chunk_at (m : Nat) : ∀ (k : Nat) (l : List CV) (i : Nat) (row : List CV), (chunk m k l)[i]? = some row → i < k ∧ row = (l.drop (i * m)).take m
  | 0, l, i, row, h => by simp [chunk] at h
  | k + 1, l, 0, row, h => by simp [chunk] at h; exact ⟨by omega, by rw [Nat.zero_mul, List.drop_zero]; exact h.symm⟩
  | k + 1, l, i + 1, row, h => by
    obtain ⟨h1, h2⟩ := chunk_at m k (l.drop m) i row (by simpa [chunk] using h)
    exact ⟨by omega, by rw [h2, List.drop_drop, Nat.succ_mul, Nat.add_comm m]⟩
theorem s_buildSlice {T e : TypeId} {m len : Nat} {z : List Value} {ps : List (Nat × List CV)} {parts : Array (Nat × Value)} {out : List CV} (hn : ρ n = none) (he : elemL P T = some (e, m)) (hz : zeroL P e = some z) (hzm : z.length = m) (hm : m ≠ 0) (hlen : len ≠ 0) (hsm : len * m ≤ 16777216)
    (hi : parts.toList.map (·.1) = ps.map (·.1)) (hc : ∀ (j : Nat) p q, ps[j]? = some p → parts.toList[j]? = some q → CellsR ρ w p.2 q.2.cells)
    (ho : fillA (fun i => some (i * m, m)) ((List.replicate len (z.map fun v => CV.p (.val v))).flatten) ps = some out) (k : K (one (.sl m n 0 len)) (some ⟨e, m, chunk m len out⟩)) : ∃ u w', (Instr.buildSlice T len parts).run P w = .ok u w' ∧ Post ρ w n K u w' := by
  obtain ⟨i0, hu, hi0, rfl⟩ := elemL_parts he
  obtain ⟨i1, z0, h4, h5, h6, h7⟩ := zeroL_parts hz
  have e1 : i1 = i0 := by rw [hi0] at h4; exact (Option.some.inj h4).symm
  subst e1
  have hzs : z0.cells.size = i1.size := by rw [← hzm, ← h6]; simp
  have hmade : madeCells z0.cells (len * i1.size) = ((List.replicate len z).flatten).toArray := by
    have := made_flat z0.cells len (by rw [hzs]; omega)
    rw [← hzs]
    apply Array.ext'
    rw [this, List.flatMap_def, List.map_replicate, h6]
  have h : CellsR ρ w ((List.replicate len (z.map fun v => CV.p (.val v))).flatten) (madeCells z0.cells (len * i1.size)) := by
    rw [hmade]
    have := CellsR.lit (ρ := ρ) (w := w) (l := (List.replicate len z).flatten) (fun v hv => by
      obtain ⟨l, hl, hv⟩ := List.mem_flatten.1 hv
      rw [(List.mem_replicate.1 hl).2] at hv
      exact h7 v hv)
    simpa [List.map_flatten] using this
  obtain ⟨o, h8, h9⟩ := fillA_R _ ps parts.toList _ _ out h hi hc ho
  have hpos : 0 < len * i1.size := Nat.mul_pos (by omega) (by omega)
  have hrun := run_buildSlice (P := P) w T e len parts o i1 z0 hu hi0 h5 (by omega) (by omega) h8
  have hol : out.length = len * i1.size := by
    have h10 : ∀ (ps : List (Nat × List CV)) (cs out : List CV) (pl : Nat → Option (Nat × Nat)), fillA pl cs ps = some out → out.length = cs.length := by
      intro ps
      induction ps with
      | nil => intro cs out pl h; cases h; rfl
      | cons p r ih =>
        intro cs out pl h
        obtain ⟨i, v⟩ := p
        simp only [fillA] at h
        split at h
        · cases h
        · split at h
          · rw [ih _ _ _ h, over_len]
          · cases h
    rw [h10 _ _ _ _ ho, ← h.1]; simp [size_madeCells]
  refine ⟨_, _, hrun, Post.block o hn k (by simp only [chunk_len]; rw [h9.1, hol]; exact Nat.le_refl _) (fun i row hi => ?_) (fun i j row x hi hj => ?_) fun ρ' w' hr hw' => ⟨.inr ⟨w.heap.size, 0, len, hr, by rw [Nat.zero_mul], Nat.le_refl _, ?_, o, e, (0, 0), by subst hw'; exact heap_alloc_new w _, by rw [h9.1, hol, Nat.zero_add, Nat.zero_add]; exact Nat.le_refl _⟩, rfl⟩⟩
  · obtain ⟨hik, rfl⟩ := chunk_at _ _ _ _ _ hi
    have := Nat.mul_le_mul_right i1.size (show i + 1 ≤ len by omega)
    rw [Nat.succ_mul] at this
    simp [hol]; omega
  · obtain ⟨hik, rfl⟩ := chunk_at _ _ _ _ _ hi
    have hjm : j < i1.size := by have := (List.getElem?_eq_some_iff.1 hj).1; simp at this; omega
    rw [List.getElem?_take_of_lt hjm, List.getElem?_drop] at hj
    exact h9.2 _ x hj
  · have := Nat.mul_le_mul_left len (show 1 ≤ i1.size by omega)
    unfold maxLen; omega
theorem s_buildNil {T e : TypeId} {m : Nat} {parts : Array (Nat × Value)} (he : elemL P T = some (e, m)) (hp : parts = #[]) (k : K (one .nilsl) none) : ∃ u w', (Instr.buildSlice T 0 parts).run P w = .ok u w' ∧ Post ρ w n K u w' := by
  obtain ⟨i0, hu, hi0, rfl⟩ := elemL_parts he
  subst hp
  exact ⟨.slice (some ⟨w.heap.size, 0, none⟩) 0 0, w.alloc (.cells #[] e), by simp [Instr.buildSlice, run_underlying hu, sizeOf, typeInfo, hi0, Instr.fill, newRow, show Array.range 0 = #[] from rfl], _, none, ρ, k, below_new _, ⟨⟨_, rfl⟩, rfl⟩, rfl⟩
/-! ### Bytes -/
def byteRow (b : UInt8) : List CV := [.p (.val (.int .u8 b.toNat))]
def byteRowP (b : UInt8) : List PV := [.val (.int .u8 b.toNat)]
theorem s_bytes_of {S D e : TypeId} {s : ByteArray} (hn : ρ n = none) (hs : P.underlying S = some .string) (hd : P.underlying D = some (.slice e)) (he : P.underlying e = some (.int .u8)) (hle : s.size ≤ maxLen) (k : K (one (.sl 1 n 0 s.size)) (some ⟨e, 1, s.data.toList.map byteRow⟩)) :
    ∃ u w', (convert S D (.string s)).run P w = .ok u w' ∧ Post ρ w n K u w' := by
  have hrun := run_bytes_of_string (P := P) w S D e s hs hd he
  obtain ⟨c, hc⟩ : ∃ c, c = grownCap w s.size 0 e := ⟨_, rfl⟩
  rw [← hc] at hrun
  have hcs : s.size ≤ c ∧ c ≤ maxLen := by
    rw [hc]; unfold grownCap Question.cut; simp only
    unfold maxLen at hle ⊢
    have : (w.tape w.drawn (.appendCap s.size 0 e)) % (2 ^ 63 - s.size) < 2 ^ 63 - s.size := Nat.mod_lt _ (by omega)
    omega
  have hsz : (bytesRow s c).size = c := by simp [bytesRow]; have : s.data.size = s.size := rfl; omega
  have hb : Below w.heap.size w (w.drew.alloc (.cells (bytesRow s c) e ((bytesRow s c).size, (bytesRow s c).size + 1))) := below_drew.trans (below_new (w := w.drew) _)
  have ha : Adv ρ w (ρ.with n w.heap.size 0) (w.drew.alloc (.cells (bytesRow s c) e ((bytesRow s c).size, (bytesRow s c).size + 1))) := adv_new hb hn (Nat.le_refl _)
  have hh : (w.drew.alloc (.cells (bytesRow s c) e ((bytesRow s c).size, (bytesRow s c).size + 1))).heap[w.heap.size]? = some (.cells (bytesRow s c) e ((bytesRow s c).size, (bytesRow s c).size + 1)) := heap_alloc_new w.drew _
  refine ⟨_, _, hrun, _, some ⟨e, 1, s.data.toList.map byteRow⟩, _, k, hb, ⟨.inr ⟨w.heap.size, 0, c, by simp [Own.with], by rw [Nat.zero_mul], hcs.1, hcs.2, _, e, _, hh, by omega⟩, rfl⟩, w.heap.size, rfl, Nat.le_refl _, by simp, ?_⟩
  refine ⟨_, _, hh, fun j hj hf => by have := hf.1; dsimp only at this; omega, by simp [hsz]; exact hcs.1, fun i row hi => ?_, fun i j row x hi hj => ?_⟩
  · rw [List.getElem?_map] at hi
    cases hv : s.data.toList[i]? with
    | none => rw [hv] at hi; cases hi
    | some b => rw [hv] at hi; cases hi; rfl
  · rw [List.getElem?_map] at hi
    cases hv : s.data.toList[i]? with
    | none => rw [hv] at hi; cases hi
    | some b =>
      rw [hv] at hi; cases hi
      cases j with
      | succ j => simp [byteRow] at hj
      | zero =>
        cases hj
        have hil : i < s.data.size := by have := (List.getElem?_eq_some_iff.1 hv).1; simpa using this
        refine ⟨.int .u8 b.toNat, ?_, .val _, rfl⟩
        have hv' : s.data[i]? = some b := by simpa using hv
        simp only [Nat.zero_add, Nat.mul_one, Nat.add_zero, bytesRow]
        rw [Array.getElem?_append_left (by simpa using hil), Array.getElem?_map, hv']
        rfl
theorem s_string_view {S D e : TypeId} {v : Value} {rows : List (List PV)} {l : List UInt8} (hs : P.underlying S = some (.slice e)) (hd : P.underlying D = some .string) (he : P.underlying e = some (.int .u8)) (hx : AR ρ w (one (.p (.view 1 rows))) v) (hl : rows = l.map byteRowP)
    (k : K (V (.string ⟨l.toArray⟩)) none) : ∃ u w', (convert S D v).run P w = .ok u w' ∧ Post ρ w n K u w' := by
  obtain ⟨hp, _⟩ := hx
  cases hp with
  | nil m a c =>
    have hl0 : l = [] := by simpa using hl.symm
    subst hl0
    cases a with
    | none => exact ⟨_, w, by rw [run_convert_bytes_string w S D e none 0 c hs he hd]; simp [Conv.bytesToString]; rfl, Post.val k ⟨.val _, rfl⟩⟩
    | some a => exact ⟨_, w, run_convert_bytes_back w S D e a c [] hs he hd (fun j hj => by simp at hj), Post.val k ⟨.val _, rfl⟩⟩
  | view m rows g o c f hne hS hc hm hw ho hrr =>
    subst hl
    have hlen : (l.map byteRowP).length = l.length := by simp
    rw [hlen]
    refine ⟨_, w, run_convert_bytes_back w S D e ⟨g, o, none⟩ c l hs he hd (fun j hj => ?_), Post.val k ⟨.val _, rfl⟩⟩
    have h1 := hw j 0 (byteRowP l[j]) _ (by simp [hj]) rfl
    have h2 := (hrr j 0 (byteRowP l[j]) _ (by simp [hj]) rfl).val_eq
    rw [h2] at h1
    rw [Addr.add_mid]
    simpa using h1
theorem s_string_own {H : Heap} {w0 : World} {S D e : TypeId} {v : Value} {b s len : Nat} {blk : Blk} {l : List UInt8} (hG : G H w0 ρ w) (hH : H[b]? = some (some blk)) (hs : P.underlying S = some (.slice e)) (hd : P.underlying D = some .string) (he : P.underlying e = some (.int .u8))
    (hx : AR ρ w (one (.sl 1 b s len)) v) (hm : blk.m = 1) (hl : (blk.rows.drop s).take len = l.map byteRow) (hll : l.length = len)
    (k : K (V (.string ⟨l.toArray⟩)) none) : ∃ u w', (convert S D v).run P w = .ok u w' ∧ Post ρ w n K u w' := by
  obtain ⟨hp, _⟩ := hx
  rcases hp with ⟨rfl, a, rfl⟩ | ⟨g, o, c, hb, rfl, _⟩
  · have hl0 : l = [] := List.length_eq_zero_iff.1 hll
    subst hl0
    cases a with
    | none => exact ⟨_, w, by rw [run_convert_bytes_string w S D e none 0 0 hs he hd]; simp [Conv.bytesToString]; rfl, Post.val k ⟨.val _, rfl⟩⟩
    | some a => exact ⟨_, w, run_convert_bytes_back w S D e a 0 [] hs he hd (fun j hj => by simp at hj), Post.val k ⟨.val _, rfl⟩⟩
  · subst hll
    obtain ⟨cs, fr, h1, _, _, h2, h3⟩ := hG.held b blk g o hH hb
    refine ⟨_, w, run_convert_bytes_back w S D e ⟨g, o + s * 1, none⟩ c l hs he hd (fun j hj => ?_), Post.val k ⟨.val _, rfl⟩⟩
    have h4 : ((blk.rows.drop s).take l.length)[j]? = some (byteRow l[j]) := by rw [hl]; simp [hj]
    rw [List.getElem?_take_of_lt hj, List.getElem?_drop] at h4
    obtain ⟨u, h5, h6, _⟩ := h3 (s + j) 0 _ _ h4 rfl
    cases h6
    rw [Addr.add_mid, cell_of_row w g _ cs blk.T fr h1]
    rw [hm] at h5
    rw [show o + s * 1 + j = o + ((s + j) * 1 + 0) by omega]
    exact h5
end
end AM
end Go.Proofs.Ytfbnjemmmgobkaa

namespace Go.Proofs.Ytfbnjemmmgobkaa
open Go.RowKit
set_option linter.unusedVariables false
set_option linter.unusedSimpArgs false
namespace AM
/-! ### Pure values at a set of blocks, contracts -/
def PC (S : Nat → Prop) (w : World) : CV → Value → Prop
  | .p x, v => PR S w x v
  | .vp cells, v => ∃ (g q : Nat) (f : Nat → Value), v = .pointer (some ⟨g, q, none⟩) ∧ S g ∧ (∀ (j : Nat) x, cells[j]? = some x → w.cell? ⟨g, q + j, none⟩ = some (f j)) ∧ ∀ (j : Nat) x, cells[j]? = some x → PR S w x (f j) ∧ (f j).oneCell' = true
  | .nilsl, v => ∃ a, v = .slice a 0 0
  | _, _ => False
def P1 (S : Nat → Prop) (w : World) : A1 → Value → Prop
  | .one c, v => PC S w c v ∧ v.oneCell' = true
  | .agg cs, v => ∃ vs, v = .agg vs ∧ vs.size = cs.length ∧ ∀ (j : Nat) c, cs[j]? = some c → ∃ u, vs[j]? = some u ∧ PC S w c u ∧ u.oneCell' = true
def PA (S : Nat → Prop) (w : World) : AV → Value → Prop
  | .a x, v => P1 S w x v
  | .tup xs, v => ∃ vs, v = .tuple vs ∧ vs.size = xs.length ∧ ∀ (j : Nat) x, xs[j]? = some x → ∃ u, vs[j]? = some u ∧ P1 S w x u
  | .und, v => v = undef
theorem PC.mono {S S' : Nat → Prop} {w w' : World} (hS : ∀ g, S g → S' g) (hc : ∀ g q, S g → w'.cell? ⟨g, q, none⟩ = w.cell? ⟨g, q, none⟩) {c : CV} {v : Value} (h : PC S w c v) : PC S' w' c v := by
  cases c with
  | p x => exact PR.later hS hc h
  | vp cells =>
    obtain ⟨g, q, f, h1, h2, h3, h4⟩ := h
    exact ⟨g, q, f, h1, hS g h2, fun j x hj => (hc g _ h2).trans (h3 j x hj), fun j x hj => ⟨(h4 j x hj).1.later hS hc, (h4 j x hj).2⟩⟩
  | nilsl => exact h
  | ptr m b i j => exact h.elim
  | sl m b i n => exact h.elim
  | clo f caps => exact h.elim
theorem P1.mono {S S' : Nat → Prop} {w w' : World} (hS : ∀ g, S g → S' g) (hc : ∀ g q, S g → w'.cell? ⟨g, q, none⟩ = w.cell? ⟨g, q, none⟩) {c : A1} {v : Value} (h : P1 S w c v) : P1 S' w' c v := by
  cases c with
  | one c => exact ⟨h.1.mono hS hc, h.2⟩
  | agg cs =>
    obtain ⟨vs, h1, h2, h3⟩ := h
    exact ⟨vs, h1, h2, fun j c hj => by obtain ⟨u, h4, h5, h6⟩ := h3 j c hj; exact ⟨u, h4, h5.mono hS hc, h6⟩⟩
theorem PA.mono {S S' : Nat → Prop} {w w' : World} (hS : ∀ g, S g → S' g) (hc : ∀ g q, S g → w'.cell? ⟨g, q, none⟩ = w.cell? ⟨g, q, none⟩) {c : AV} {v : Value} (h : PA S w c v) : PA S' w' c v := by
  cases c with
  | a c => exact P1.mono hS hc h
  | tup cs =>
    obtain ⟨vs, h1, h2, h3⟩ := h
    exact ⟨vs, h1, h2, fun j c hj => by obtain ⟨u, h4, h5⟩ := h3 j c hj; exact ⟨u, h4, h5.mono hS hc⟩⟩
  | und => exact h
theorem PC.cr {ρ : Own} {w : World} {c : CV} {v : Value} (h : PC (Fz ρ w) w c v) : CR ρ w c v := by
  cases c with
  | p x => exact h
  | vp cells => exact h
  | nilsl => exact h
  | ptr m b i j => exact h.elim
  | sl m b i n => exact h.elim
  | clo f caps => exact h.elim
theorem P1.r1 {ρ : Own} {w : World} {c : A1} {v : Value} (h : P1 (Fz ρ w) w c v) : R1 ρ w c v := by
  cases c with
  | one c => exact ⟨h.1.cr, h.2⟩
  | agg cs =>
    obtain ⟨vs, h1, h2, h3⟩ := h
    exact ⟨vs, h1, h2, fun j c hj => by obtain ⟨u, h4, h5, h6⟩ := h3 j c hj; exact ⟨u, h4, h5.cr, h6⟩⟩
theorem PA.ar {ρ : Own} {w : World} {c : AV} {v : Value} (h : PA (Fz ρ w) w c v) : AR ρ w c v := by
  cases c with
  | a c => exact P1.r1 h
  | tup cs =>
    obtain ⟨vs, h1, h2, h3⟩ := h
    exact ⟨vs, h1, h2, fun j c hj => by obtain ⟨u, h4, h5⟩ := h3 j c hj; exact ⟨u, h4, h5.r1⟩⟩
  | und => exact h
/-- No slice that is not empty. -/
def PV.flat : PV → Prop
  | .val _ => True
  | .view _ rows => rows = []
/-- A slice of own memory seen as one that is read alone; fr: in own memory throughout. -/
inductive ExpC (fr : Bool) (h : Heap) : CV → CV → Prop
  | p (x : PV) (hf : fr = true → x.flat) : ExpC fr h (.p x) (.p x)
  | vp (cells : List PV) (hf : fr = false) : ExpC fr h (.vp cells) (.vp cells)
  | nilsl : ExpC fr h .nilsl .nilsl
  | nilv (m : Nat) : ExpC fr h .nilsl (.p (.view m []))
  | sl (m b i n : Nat) (T : TypeId) (rows : List (List CV)) (rowsP : List (List PV)) (hb : h[b]? = some (some ⟨T, m, rows⟩)) (he : (rows.drop i).take n = rowsP.map (·.map .p)) (hl : rowsP.length = n) (hf : fr = true → ∀ row ∈ rowsP, ∀ x ∈ row, x.flat) : ExpC fr h (.sl m b i n) (.p (.view m rowsP))
  | slN (m b i n : Nat) (T : TypeId) (rows : List (List CV)) (rowsP : List (List PV)) (hb : h[b]? = some (some ⟨T, m, rows⟩)) (hl : rowsP.length = n) (hin : i + n ≤ rows.length)
      (hs : ∀ (i' : Nat) (row : List CV) (rp : List PV), rows[i + i']? = some row → rowsP[i']? = some rp → rp.length = row.length)
      (hc : ∀ (i' j : Nat) (row : List CV) (rp : List PV) (c : CV) (x : PV), rows[i + i']? = some row → rowsP[i']? = some rp → row[j]? = some c → rp[j]? = some x → ExpC fr h c (.p x)) : ExpC fr h (.sl m b i n) (.p (.view m rowsP))
  | ptr (m b i j : Nat) (T : TypeId) (rows : List (List CV)) (row : List CV) (cells : List PV) (hb : h[b]? = some (some ⟨T, m, rows⟩)) (hr : rows[i]? = some row) (he : row.drop j = cells.map .p) (hf : fr = false) : ExpC fr h (.ptr m b i j) (.vp cells)
inductive Exp1 (fr : Bool) (h : Heap) : A1 → A1 → Prop
  | one (c c' : CV) (hc : ExpC fr h c c') : Exp1 fr h (.one c) (.one c')
  | agg (cs cs' : List CV) (hl : cs'.length = cs.length) (hc : ∀ (j : Nat) c c', cs[j]? = some c → cs'[j]? = some c' → ExpC fr h c c') : Exp1 fr h (.agg cs) (.agg cs')
inductive ExpA (fr : Bool) (h : Heap) : AV → AV → Prop
  | a (x x' : A1) (hx : Exp1 fr h x x') : ExpA fr h (.a x) (.a x')
  | tup (xs xs' : List A1) (hl : xs'.length = xs.length) (hx : ∀ (j : Nat) x x', xs[j]? = some x → xs'[j]? = some x' → Exp1 fr h x x') : ExpA fr h (.tup xs) (.tup xs')
inductive ExpL (h : Heap) : List AV → List AV → Prop
  | nil : ExpL h [] []
  | cons (x x' : AV) (r r' : List AV) (hx : ExpA false h x x') (hr : ExpL h r r') : ExpL h (x :: r) (x' :: r')
theorem PR.flat {S S' : Nat → Prop} {w w' : World} {x : PV} {v : Value} (hf : x.flat) (h : PR S w x v) : PR S' w' x v := by
  cases h with
  | val => exact .val _
  | nil => exact .nil _ _ _
  | view m rows g o c f hne => exact absurd hf hne
section
variable {P : Program} {ρ : Own} {w w0 : World} {h H : Heap}
def Lt (w : World) (g : Nat) : Prop := g < w.heap.size
theorem ExpC.sound {fr : Bool} {S : Nat → Prop} (hS1 : fr = false → ∀ g, Fz ρ w g → S g) (hS2 : ∀ b g o, ρ b = some (g, o) → S g) (hG : G H w0 ρ w) (hH : ∀ (b : Nat) blk, h[b]? = some (some blk) → H[b]? = some (some blk)) {c c' : CV} (e : ExpC fr h c c') : ∀ {v : Value}, CR ρ w c v → PC S w c' v := by
  have pure1 : ∀ (x : PV) (v : Value), (fr = true → x.flat) → PR (Fz ρ w) w x v → PR S w x v := fun x v hf hx => by
    cases hfr : fr with
    | true => exact hx.flat (hf hfr)
    | false => exact PR.later (fun g hg => hS1 hfr g hg) (fun _ _ _ => rfl) hx
  induction e with
  | p x hf => intro v hc; exact pure1 x v hf hc
  | vp cells hf =>
    intro v hc
    obtain ⟨g, q, f, h1, h2, h3, h4⟩ := hc
    exact ⟨g, q, f, h1, hS1 hf g h2, h3, fun j x hj => ⟨(h4 j x hj).1.later (fun g hg => hS1 hf g hg) (fun _ _ _ => rfl), (h4 j x hj).2⟩⟩
  | nilsl => intro v hc; exact hc
  | nilv m => intro v hc; obtain ⟨a, rfl⟩ := hc; exact .nil m a 0
  | sl m b i n T rows rowsP hb he hl hf =>
    intro v hc
    rcases hc with ⟨rfl, a, rfl⟩ | ⟨g, o, c, h1, rfl, h2, _, _⟩
    · have := List.length_eq_zero_iff.1 hl
      subst this
      exact .nil m a 0
    · obtain ⟨cs, fr', h3, _, _, h4, h5⟩ := hG.held b _ g o (hH b _ hb) h1
      dsimp only at h4 h5
      by_cases hn : rowsP = []
      · subst hn; have : n = 0 := by simpa using hl.symm
        subst this
        exact .nil m _ c
      · subst hl
        have hat : ∀ (i' : Nat) (rp : List PV), rowsP[i']? = some rp → rows[i + i']? = some (rp.map .p) := fun i' rp hi => by
          have h6 : ((rows.drop i).take rowsP.length)[i']? = some (rp.map .p) := by rw [he]; simp [hi]
          rw [List.getElem?_take_of_lt (List.getElem?_eq_some_iff.1 hi).1, List.getElem?_drop] at h6
          exact h6
        have key : ∀ (i' j : Nat) (rp : List PV) (x : PV), rowsP[i']? = some rp → rp[j]? = some x → ∃ u, cs[o + ((i + i') * m + j)]? = some u ∧ CR ρ w (.p x) u ∧ u.oneCell' = true := fun i' j rp x hi hj => h5 _ _ _ _ (hat i' rp hi) (by simp [hj])
        refine .view m rowsP g _ c (fun i' j => (cs[o + ((i + i') * m + j)]?).getD undef) hn (hS2 b g o h1) h2 (fun i' rp hi => by have := h4 _ _ (hat i' rp hi); simpa using this) (fun i' j rp x hi hj => ?_) (fun i' j rp x hi hj => ?_) (fun i' j rp x hi hj => ?_)
        · obtain ⟨u, h6, _⟩ := key i' j rp x hi hj
          rw [cell_of_row w g _ cs T fr' h3, show o + i * m + (i' * m + j) = o + ((i + i') * m + j) by rw [Nat.add_mul]; omega, h6]
          rfl
        · obtain ⟨u, h6, _, h7⟩ := key i' j rp x hi hj
          rw [h6]; exact h7
        · obtain ⟨u, h6, h7, _⟩ := key i' j rp x hi hj
          rw [h6]
          exact pure1 x u (fun hfr => hf hfr rp (List.mem_of_getElem? hi) x (List.mem_of_getElem? hj)) h7
  | slN m b i n T rows rowsP hb hl hin hs hcc ih =>
    intro v hc
    rcases hc with ⟨rfl, a, rfl⟩ | ⟨g, o, c, h1, rfl, h2, _, _⟩
    · have := List.length_eq_zero_iff.1 hl
      subst this
      exact .nil m a 0
    · obtain ⟨cs, fr', h3, _, _, h4, h5⟩ := hG.held b _ g o (hH b _ hb) h1
      dsimp only at h4 h5
      by_cases hn : rowsP = []
      · subst hn; have : n = 0 := by simpa using hl.symm
        subst this
        exact .nil m _ c
      · subst hl
        have hat : ∀ (i' : Nat) (rp : List PV), rowsP[i']? = some rp → ∃ row, rows[i + i']? = some row ∧ rp.length = row.length := fun i' rp hi => by
          have hlt := (List.getElem?_eq_some_iff.1 hi).1
          have hr : rows[i + i']? = some rows[i + i'] := List.getElem?_eq_getElem (by omega)
          exact ⟨_, hr, hs i' _ rp hr hi⟩
        have key : ∀ (i' j : Nat) (rp : List PV) (x : PV), rowsP[i']? = some rp → rp[j]? = some x → ∃ u, cs[o + ((i + i') * m + j)]? = some u ∧ PR S w x u ∧ u.oneCell' = true := fun i' j rp x hi hj => by
          obtain ⟨row, h6, h7⟩ := hat i' rp hi
          have hjl : j < row.length := by rw [← h7]; exact (List.getElem?_eq_some_iff.1 hj).1
          obtain ⟨u, h8, h9, h10⟩ := h5 (i + i') j row row[j] h6 (by simp [hjl])
          exact ⟨u, h8, ih i' j row rp row[j] x h6 hi (by simp [hjl]) hj h9, h10⟩
        refine .view m rowsP g _ c (fun i' j => (cs[o + ((i + i') * m + j)]?).getD undef) hn (hS2 b g o h1) h2 (fun i' rp hi => by
          obtain ⟨row, h6, h7⟩ := hat i' rp hi
          rw [h7]; exact h4 _ row h6) (fun i' j rp x hi hj => ?_) (fun i' j rp x hi hj => ?_) (fun i' j rp x hi hj => ?_)
        · obtain ⟨u, h6, _⟩ := key i' j rp x hi hj
          rw [cell_of_row w g _ cs T fr' h3, show o + i * m + (i' * m + j) = o + ((i + i') * m + j) by rw [Nat.add_mul]; omega, h6]
          rfl
        · obtain ⟨u, h6, _, h7⟩ := key i' j rp x hi hj
          rw [h6]; exact h7
        · obtain ⟨u, h6, h7, _⟩ := key i' j rp x hi hj
          rw [h6]; exact h7
  | ptr m b i j T rows row cells hb hr he hf =>
    intro v hc
    obtain ⟨g, o, h1, rfl⟩ := hc
    obtain ⟨cs, fr', h3, _, _, h4, h5⟩ := hG.held b _ g o (hH b _ hb) h1
    dsimp only at h4 h5
    have key : ∀ (q : Nat) (x : PV), cells[q]? = some x → ∃ u, cs[o + (i * m + (j + q))]? = some u ∧ CR ρ w (.p x) u ∧ u.oneCell' = true := fun q x hq => h5 i (j + q) row _ hr (by
      have h6 : (row.drop j)[q]? = some (.p x) := by rw [he]; simp [hq]
      rw [List.getElem?_drop] at h6
      exact h6)
    refine ⟨g, _, fun q => (cs[o + (i * m + (j + q))]?).getD undef, rfl, hS2 b g o h1, fun q x hq => ?_, fun q x hq => ?_⟩
    · obtain ⟨u, h6, _⟩ := key q x hq
      rw [cell_of_row w g _ cs T fr' h3, show o + (i * m + j) + q = o + (i * m + (j + q)) by omega, h6]
      dsimp only
      rw [h6]
      rfl
    · obtain ⟨u, h6, h7, h8⟩ := key q x hq
      dsimp only
      rw [h6]
      exact ⟨PR.later (fun g hg => hS1 hf g hg) (fun _ _ _ => rfl) h7, h8⟩
theorem Exp1.sound {fr : Bool} {S : Nat → Prop} (hS1 : fr = false → ∀ g, Fz ρ w g → S g) (hS2 : ∀ b g o, ρ b = some (g, o) → S g) (hG : G H w0 ρ w) (hH : ∀ (b : Nat) blk, h[b]? = some (some blk) → H[b]? = some (some blk)) {c c' : A1} {v : Value} (e : Exp1 fr h c c') (hc : R1 ρ w c v) : P1 S w c' v := by
  cases e with
  | one c c' e => exact ⟨e.sound hS1 hS2 hG hH hc.1, hc.2⟩
  | agg cs cs' hl e =>
    obtain ⟨vs, h1, h2, h3⟩ := hc
    refine ⟨vs, h1, by omega, fun j c' hj => ?_⟩
    have hjl : j < cs.length := by have := (List.getElem?_eq_some_iff.1 hj).1; omega
    obtain ⟨u, h4, h5, h6⟩ := h3 j cs[j] (by simp [hjl])
    exact ⟨u, h4, (e j cs[j] c' (by simp [hjl]) hj).sound hS1 hS2 hG hH h5, h6⟩
theorem ExpA.sound {fr : Bool} {S : Nat → Prop} (hS1 : fr = false → ∀ g, Fz ρ w g → S g) (hS2 : ∀ b g o, ρ b = some (g, o) → S g) (hG : G H w0 ρ w) (hH : ∀ (b : Nat) blk, h[b]? = some (some blk) → H[b]? = some (some blk)) {c c' : AV} {v : Value} (e : ExpA fr h c c') (hc : AR ρ w c v) : PA S w c' v := by
  cases e with
  | a x x' e => exact e.sound hS1 hS2 hG hH hc
  | tup xs xs' hl e =>
    obtain ⟨vs, h1, h2, h3⟩ := hc
    refine ⟨vs, h1, by omega, fun j x' hj => ?_⟩
    have hjl : j < xs.length := by have := (List.getElem?_eq_some_iff.1 hj).1; omega
    obtain ⟨u, h4, h5⟩ := h3 j xs[j] (by simp [hjl])
    exact ⟨u, h4, (e j xs[j] x' (by simp [hjl]) hj).sound hS1 hS2 hG hH h5⟩
theorem ExpL.len {xs xs' : List AV} (e : ExpL h xs xs') : xs'.length = xs.length := by
  induction e with
  | nil => rfl
  | cons x x' r r' hx hr ih => simp [ih]
theorem ExpL.at {xs xs' : List AV} (e : ExpL h xs xs') : ∀ (j : Nat) x', xs'[j]? = some x' → ∃ x, xs[j]? = some x ∧ ExpA false h x x' := by
  induction e with
  | nil => intro j x' hj; simp at hj
  | cons x x' r r' hx hr ih =>
    intro j y hj
    cases j with
    | zero => cases hj; exact ⟨x, rfl, hx⟩
    | succ j => exact ih j y hj
/-- A function with a body. -/
def canEnter (P : Program) (f : FuncId) : Bool := match P.funcs[f]? with
  | some fn => fn.body.isSome && !(fn.name == "runtime.NumGoroutine")
  | none => false
theorem run_enter {f : FuncId} (h : canEnter P f = true) (args : Array Value) : (callFunc f args).run P w = .ok (.enter f args) w := by
  unfold canEnter at h
  split at h
  · rename_i fn hf
    simp only [Bool.and_eq_true, Bool.not_eq_true', Option.isSome_iff_exists] at h
    obtain ⟨⟨b, hb⟩, hn⟩ := h
    have hn' : ¬ fn.name = "runtime.NumGoroutine" := by simpa using hn
    simp [callFunc, hf, hn', hb]
  · cases h
/-- A function that makes new memory alone: what it answers at pure arguments; fresh: the answer lies in new memory alone. -/
structure Pure (P : Program) (fresh : Bool) (f : FuncId) (args : List AV) (r : AV) : Prop where
  enter : canEnter P f = true
  calls : ∀ (w : World) (S : Nat → Prop) (vs : Array Value), (∀ g, S g → g < w.heap.size) → vs.size = args.length → (∀ (j : Nat) x, args[j]? = some x → ∃ u, vs[j]? = some u ∧ PA S w x u) →
    Calls P f vs w fun e w' => ∃ v, e = .returned v ∧ Below w.heap.size w w' ∧ PA (fun g => (fresh = false ∧ S g) ∨ (w.heap.size ≤ g ∧ g < w'.heap.size)) w' r v
def pureC : CV → Bool
  | .ptr .. | .sl .. | .clo .. => false
  | _ => true
def pure1 : A1 → Bool
  | .one c => pureC c
  | .agg cs => cs.all pureC
def pureA : AV → Bool
  | .a x => pure1 x
  | .tup xs => xs.all pure1
  | .und => true
theorem pureC_R {c : CV} {v : Value} (hp : pureC c = true) (h : CR ρ w c v) : PC (Fz ρ w) w c v := by
  cases c <;> first | exact h | cases hp
theorem pure1_R {c : A1} {v : Value} (hp : pure1 c = true) (h : R1 ρ w c v) : P1 (Fz ρ w) w c v := by
  cases c with
  | one c => exact ⟨pureC_R hp h.1, h.2⟩
  | agg cs =>
    obtain ⟨vs, h1, h2, h3⟩ := h
    exact ⟨vs, h1, h2, fun j c hj => by obtain ⟨u, h4, h5, h6⟩ := h3 j c hj; exact ⟨u, h4, pureC_R (List.all_eq_true.1 hp c (List.mem_of_getElem? hj)) h5, h6⟩⟩
theorem pureA_R {c : AV} {v : Value} (hp : pureA c = true) (h : AR ρ w c v) : PA (Fz ρ w) w c v := by
  cases c with
  | a c => exact pure1_R hp h
  | tup cs =>
    obtain ⟨vs, h1, h2, h3⟩ := h
    exact ⟨vs, h1, h2, fun j c hj => by obtain ⟨u, h4, h5⟩ := h3 j c hj; exact ⟨u, h4, pure1_R (List.all_eq_true.1 hp c (List.mem_of_getElem? hj)) h5⟩⟩
  | und => exact h
/-- A call out of a state. -/
inductive PureC (P : Program) (h : Heap) (f : FuncId) (xs : List AV) (r : AV) : Prop
  | same (fresh : Bool) (hp : xs.all pureA = true) (hc : Pure P fresh f xs r) : PureC P h f xs r
  | own (xs' : List AV) (he : ExpL h xs xs') (hc : Pure P true f xs' r) : PureC P h f xs r
theorem PureC.enter {f : FuncId} {xs : List AV} {r : AV} (hc : PureC P h f xs r) : canEnter P f = true := by
  cases hc with
  | same fresh hp hc => exact hc.enter
  | own xs' he hc => exact hc.enter
/-- The call, in a world. -/
theorem PureC.calls {n : Nat} {K : AV → Option Blk → Prop} (hG : G H w0 ρ w) (hH : ∀ (b : Nat) blk, h[b]? = some (some blk) → H[b]? = some (some blk)) {f : FuncId} {xs : List AV} {r : AV} (hc : PureC P h f xs r) {vs : Array Value} (hs : vs.size = xs.length)
    (hv : ∀ (j : Nat) x, xs[j]? = some x → ∃ u, vs[j]? = some u ∧ AR ρ w x u) (k : K r none) : Calls P f vs w fun e w' => ∃ v, e = .returned v ∧ Post ρ w n K v w' := by
  cases hc with
  | same fresh hp hc =>
    refine (hc.calls w (Fz ρ w) vs (fun g hg => hg.1) hs (fun j x hj => by
      obtain ⟨u, h1, h2⟩ := hv j x hj
      exact ⟨u, h1, pureA_R (List.all_eq_true.1 hp x (List.mem_of_getElem? hj)) h2⟩)).mono ?_
    rintro e w' ⟨v, rfl, hb, hr⟩
    refine ⟨v, rfl, r, none, ρ, k, hb, PA.ar (hr.mono (fun g hg => ?_) (fun _ _ _ => rfl)), rfl⟩
    rcases hg with ⟨_, hg⟩ | ⟨hg, hg'⟩
    · exact (Adv.of_below (ρ := ρ) hb).fz hg
    · exact ⟨hg', fun b o hb' => (by have := (hG.lo b g o hb').2.1; omega), hG.past g (by have := hG.below.size; omega)⟩
  | own xs' he hc =>
    refine (hc.calls w (Lt w) vs (fun g hg => hg) (by rw [hs, he.len]) (fun j x' hj => by
      obtain ⟨x, h1, h2⟩ := he.at j x' hj
      obtain ⟨u, h3, h4⟩ := hv j x h1
      exact ⟨u, h3, h2.sound (S := Lt w) (fun _ g hg => hg.1) (fun b g o hb => (hG.lo b g o hb).2.1) hG hH h4⟩)).mono ?_
    rintro e w' ⟨v, rfl, hb, hr⟩
    refine ⟨v, rfl, r, none, ρ, k, hb, PA.ar (hr.mono (fun g hg => ?_) (fun _ _ _ => rfl)), rfl⟩
    rcases hg with ⟨h0, _⟩ | ⟨hg, hg'⟩
    · cases h0
    · exact ⟨hg', fun b o hb' => (by have := (hG.lo b g o hb').2.1; omega), hG.past g (by have := hG.below.size; omega)⟩
end
end AM
end Go.Proofs.Ytfbnjemmmgobkaa

namespace Go.Proofs.Ytfbnjemmmgobkaa
open Go.RowKit
set_option linter.unusedVariables false
set_option linter.unusedSimpArgs false
namespace AM
abbrev Slots := List (Nat × AV)
def evB (t : Slots) (x : Operand) : Option Bool := match evO t x with
  | some (.a (.one (.p (.val (.bool b))))) => some b
  | _ => none
def evI (t : Slots) (x : Operand) : Option (IntKind × Int) := match evO t x with
  | some (.a (.one (.p (.val (.int k i))))) => some (k, i)
  | _ => none
def aggOf : AV → Option (List CV)
  | .a (.agg cs) => some cs
  | _ => none
def tupOf : AV → Option (List A1)
  | .tup xs => some xs
  | _ => none
/-- An operation on values alone. -/
def litF (P : Program) (t : Slots) (o : Oper) (K : AV → Option Blk → Prop) : Prop :=
  o.op.operands.toList.all (hasLit t) = true ∧ (match o.op with | .select .. => False | _ => True) ∧ pk P (execOp (litO t) o) (fun nx => match nx with
    | .value v => ow (ofV v) fun x => K x none
    | _ => False)
/-- What a comparison says, in every world. -/
def SemIs (P : Program) (t : Slots) (o : Oper) (r : Bool) : Prop := ∀ w, (execOp (litO t) o).run P w = .ok (.value (.bool r)) w
def semF (P : Program) (t : Slots) (o : Oper) (K : AV → Option Blk → Prop) : Prop :=
  o.op.operands.toList.all (hasLit t) = true ∧ (match o.op with | .select .. => False | _ => True) ∧ ∃ r, SemIs P t o r ∧ K (V (.bool r)) none
def isAggA : AV → Bool
  | .a (.agg _) => true
  | _ => false
def idxF (v : AV) (i : IntKind × Int) (em : TypeId × Nat) (K : AV → Option Blk → Prop) : Prop := match v with
  | .a (.one (.p (.view m rows))) => m = em.2 ∧ 0 ≤ i.2 ∧ ow rows[i.2.toNat]? fun row => K (one (.vp row)) none
  | .a (.one (.sl m b s len)) => m = em.2 ∧ 0 ≤ i.2 ∧ i.2 < len ∧ K (one (.ptr m b (s + i.2.toNat) 0)) none
  | _ => False
def boundO (t : Slots) (d : Int) : Option Operand → Option Int
  | none => some d
  | some x => (evI t x).map (·.2)
def slcF (v : AV) (t : Slots) (lo hi : Option Operand) (em : TypeId × Nat) (K : AV → Option Blk → Prop) : Prop := match v with
  | .a (.one (.p (.view m rows))) => m = em.2 ∧ ow (boundO t 0 lo) fun l => ow (boundO t rows.length hi) fun h => 0 ≤ l ∧ l ≤ h ∧ h ≤ rows.length ∧ K (one (.p (.view m ((rows.take h.toNat).drop l.toNat)))) none
  | .a (.one (.sl m b s len)) => m = em.2 ∧ ow (boundO t 0 lo) fun l => ow (boundO t len hi) fun h => 0 ≤ l ∧ l ≤ h ∧ h ≤ len ∧ K (one (.sl m b (s + l.toNat) (h.toNat - l.toNat))) none
  | _ => False
def isStr : AV → Bool
  | .a (.one (.p (.val _))) => true
  | _ => false
def lenF (P : Program) (T : TypeId) (v : AV) (K : AV → Option Blk → Prop) : Prop := match v with
  | .a (.one (.p (.view m rows))) => ow (elemL P T) fun _ => K (V (.int .i64 rows.length)) none
  | .a (.one (.sl m b s len)) => ow (elemL P T) fun _ => K (V (.int .i64 len)) none
  | .a (.one .nilsl) => ow (elemL P T) fun _ => K (V (.int .i64 0)) none
  | _ => False
def partsA (t : Slots) (parts : Array (Nat × Operand)) : Option (List (Nat × List CV)) := omap (fun p => ((evO t p.2).bind cellsA).map fun cs => (p.1, cs)) parts.toList
def strOf : AV → Option ByteArray
  | .a (.one (.p (.val (.string s)))) => some s
  | _ => none
def isSliceD : Option TypeDesc → Bool
  | some (.slice _) => true
  | _ => false
/-- Conversions between strings and bytes. -/
def convF (P : Program) (h : Heap) (n : Nat) (S D : TypeId) (v : AV) (K : AV → Option Blk → Prop) : Prop := match v with
  | .a (.one (.p (.val (.string s)))) => ∃ e, P.underlying S = some .string ∧ P.underlying D = some (.slice e) ∧ P.underlying e = some (.int .u8) ∧ s.size ≤ maxLen ∧ K (one (.sl 1 n 0 s.size)) (some ⟨e, 1, s.data.toList.map byteRow⟩)
  | .a (.one (.p (.view m rows))) => ∃ (e : TypeId) (l : List UInt8), P.underlying S = some (.slice e) ∧ P.underlying D = some .string ∧ P.underlying e = some (.int .u8) ∧ m = 1 ∧ rows = l.map byteRowP ∧ K (V (.string ⟨l.toArray⟩)) none
  | .a (.one (.sl m b s len)) => ∃ (e : TypeId) (l : List UInt8), P.underlying S = some (.slice e) ∧ P.underlying D = some .string ∧ P.underlying e = some (.int .u8) ∧ m = 1 ∧ (ow h[b]? fun ob => ow ob fun blk => blk.m = 1 ∧ (blk.rows.drop s).take len = l.map byteRow ∧ l.length = len) ∧ K (V (.string ⟨l.toArray⟩)) none
  | _ => False
def capOf : AV → Option Cap
  | .a (.one (.ptr m b i j)) => some (.ptr m b i j)
  | .a (.one (.p (.val x))) => some (.val x)
  | _ => none
def isPtrA : AV → Bool
  | .a (.one (.ptr _ _ _ _)) => true
  | .a (.one (.vp _)) => true
  | _ => false
/-- A slice with elements held against nil. -/
def nilCmp (op : BinOp) (y : Operand) : AV → Option Bool
  | .a (.one (.p (.view _ (_ :: _)))) => match op, y with
    | .eql, .const (.slice none _ _) => some false
    | .neq, .const (.slice none _ _) => some true
    | _, _ => none
  | _ => none
/-- One operation. n: the number of the block that it may make. -/
def opF (P : Program) (t : Slots) (h : Heap) (n : Nat) (o : Oper) (K : AV → Option Blk → Prop) : Prop :=
  match o.op with
  | .move x | .assign x => ow (evO t x) fun v => K v none
  | .pick c x y => ow (evB t c) fun b => ow (evO t x) fun u => ow (evO t y) fun v => K (pickA b u v) none
  | .alloc T => ow (zeroL P T) fun z => K (one (.ptr z.length n 0 0)) (some ⟨T, z.length, [z.map fun v => .p (.val v)]⟩)
  | .box T x => ow (evO t x) fun v => ow (cellsA v) fun cs => K (one (.ptr cs.length n 0 0)) (some ⟨T, cs.length, [cs]⟩)
  | .build T parts => ow (fieldsL P T) fun l => ow (zeroL P T) fun z => ow (partsA t parts) fun ps => ow (fillA (fun i => (l[i]?).map fun s => (s.1, s.2.1)) (z.map fun v => .p (.val v)) ps) fun out => K (.a (.agg out)) none
  | .buildSlice T len parts => if len = 0 then parts.toList = [] ∧ ow (elemL P T) fun _ => K (one .nilsl) none else
      ow (elemL P T) fun em => ow (zeroL P em.1) fun z => z.length = em.2 ∧ em.2 ≠ 0 ∧ len * em.2 ≤ 16777216 ∧ ow (partsA t parts) fun ps => ow (fillA (fun i => some (i * em.2, em.2)) ((List.replicate len (z.map fun v => CV.p (.val v))).flatten) ps) fun out => K (one (.sl em.2 n 0 len)) (some ⟨em.1, em.2, chunk em.2 len out⟩)
  | .load T x => ow (evO t x) fun v => ow (loadA P h T v) fun y => K (.a y) none
  | .field T x f => ow (evO t x) fun v => ow (aggOf v) fun cs => ow (fieldsL P T) fun l => ow l[f]? fun s => ow (partA cs s) fun y => K (.a y) none
  | .fieldAddr T x f => ow (evO t x) fun v => ow (fieldsL P T) fun l => ow l[f]? fun s => s.2.1 ≠ 0 ∧ ow (fieldAddrA v s.1) fun y => K (one y) none
  | .extract x i => ow (evO t x) fun v => ow (tupOf v) fun xs => ow xs[i]? fun y => K (.a y) none
  | .indexAddr T x ix => ow (evO t x) fun v => ow (evI t ix) fun i => ow (elemL P T) fun em => idxF v i em K
  | .slice T x lo hi mx => ow (evO t x) fun v => if isStr v then litF P t o K else mx = none ∧ ow (elemL P T) fun em => slcF v t lo hi em K
  | .makeSlice T l c => ow (evI t l) fun l => ow (evI t c) fun c => ow (elemL P T) fun em => ow (zeroL P em.1) fun z => ow (bytesL P em.1) fun by_ => z.length = em.2 ∧ em.2 ≠ 0 ∧ 0 ≤ l.2 ∧ l.2 ≤ c.2 ∧ (by_ : Int) * c.2 ≤ 281474976710656 ∧ c.2 ≤ 9223372036854775807 ∧ K (one (.sl em.2 n 0 l.2.toNat)) (some ⟨em.1, em.2, List.replicate l.2.toNat (z.map fun v => .p (.val v))⟩)
  | .makeFunc (.func f) first caps => first.toList = [] ∧ ow (omap (fun x => (evO t x).bind capOf) caps.toList) fun cs => K (one (.clo f cs)) none
  | .convert S D x => ow (evO t x) fun v => if isStr v && !isSliceD (P.underlying D) then litF P t o K else convF P h n S D v K
  | .binOp op T x y _ => ow (evO t x) fun u => if isAggA u then semF P t o K else match nilCmp op y u with
    | some b => isSliceD (P.underlying T) = true ∧ K (V (.bool b)) none
    | none => litF P t o K
  | .call { callee := .builtin b, args, argTypes } => match b, args.toList, argTypes.toList with
    | .len, [x], [T] => ow (evO t x) fun v => if isStr v then litF P t o K else lenF P T v K
    | _, _, _ => litF P t o K
  | .call { callee := .value (.func f), args, argTypes } => ow (omap (evO t) args.toList) fun xs => ∃ r, PureC P h f xs r ∧ K r none
  | .nilCheck x => ow (evO t x) fun u => if isPtrA u then K u none else litF P t o K
  | _ => litF P t o K
section
variable {P : Program} {ρ : Own} {w w0 : World} {h H : Heap}
theorem of_s {o : Oper} {a : Act} {n : Nat} {K : AV → Option Blk → Prop} {Q : Exit → Act → World → Prop} {s : Sem Value} (he : execOp a.eval o = (do pure (.value (← s)))) (hs : ∃ u w', s.run P w = .ok u w' ∧ Post ρ w n K u w') :
    o.wp P a w (fun a' w' => ∃ v, a' = a.put o.dst v ∧ Post ρ w n K v w') Q := by
  obtain ⟨u, w', h1, h2⟩ := hs
  exact wp_of_run (by rw [he]; exact run_v h1) ⟨u, rfl, h2⟩
theorem litO_eq {t : Slots} {a : Act} {x : Operand} (hT : ∀ v, evO t x = some v → AR ρ w v (a.eval x)) (hl : hasLit t x = true) : a.eval x = litO t x := by
  unfold hasLit at hl; unfold litO
  cases hx : evO t x with
  | none => rw [hx] at hl; cases hl
  | some v =>
    rw [hx] at hl
    dsimp only at hl ⊢
    obtain ⟨u, hu⟩ := Option.isSome_iff_exists.1 hl
    rw [hu]
    exact litA_eq (hT v hx) hu
theorem litF_sound {t : Slots} {a : Act} {n : Nat} {o : Oper} {K : AV → Option Blk → Prop} {Q : Exit → Act → World → Prop} (hT : ∀ x ∈ o.op.operands.toList, ∀ v, evO t x = some v → AR ρ w v (a.eval x)) (hF : litF P t o K) :
    o.wp P a w (fun a' w' => ∃ v, a' = a.put o.dst v ∧ Post ρ w n K v w') Q := by
  obtain ⟨h1, h2, h3⟩ := hF
  have e : execOp a.eval o = execOp (litO t) o := execOp_congr o (fun cs b hs => by rw [hs] at h2; exact h2) (fun x hx => litO_eq (hT x (by simpa using hx)) (List.all_eq_true.1 h1 x (by simpa using hx)))
  obtain ⟨nx, h4, h5⟩ := pk_sound _ _ h3
  cases nx with
  | value v =>
    obtain ⟨x, h6, h7⟩ := h4
    exact wp_of_run (by rw [e]; exact h5 w) ⟨v, rfl, Post.val h7 (ofV_R h6)⟩
  | _ => exact h4.elim
theorem semF_sound {t : Slots} {a : Act} {n : Nat} {o : Oper} {K : AV → Option Blk → Prop} {Q : Exit → Act → World → Prop} (hT : ∀ x ∈ o.op.operands.toList, ∀ v, evO t x = some v → AR ρ w v (a.eval x)) (hF : semF P t o K) :
    o.wp P a w (fun a' w' => ∃ v, a' = a.put o.dst v ∧ Post ρ w n K v w') Q := by
  obtain ⟨h1, h2, r, h3, h4⟩ := hF
  have e : execOp a.eval o = execOp (litO t) o := execOp_congr o (fun cs b hs => by rw [hs] at h2; exact h2) (fun x hx => litO_eq (hT x (by simpa using hx)) (List.all_eq_true.1 h1 x (by simpa using hx)))
  exact wp_of_run (by rw [e]; exact h3 w) ⟨_, rfl, Post.val h4 ⟨.val _, rfl⟩⟩
theorem evB_R {t : Slots} {a : Act} {x : Operand} {b : Bool} (hT : ∀ v, evO t x = some v → AR ρ w v (a.eval x)) (h : evB t x = some b) : a.eval x = .bool b := by
  unfold evB at h
  split at h
  · rename_i hx; cases h; exact (hT _ hx).1.val_eq
  · cases h
theorem evI_R {t : Slots} {a : Act} {x : Operand} {k : IntKind} {i : Int} (hT : ∀ v, evO t x = some v → AR ρ w v (a.eval x)) (h : evI t x = some (k, i)) : a.eval x = .int k i := by
  unfold evI at h
  split at h
  · rename_i hx; cases h; exact (hT _ hx).1.val_eq
  · cases h
theorem boundO_R {t : Slots} {a : Act} {d l : Int} {lo : Option Operand} (hT : ∀ x, lo = some x → ∀ v, evO t x = some v → AR ρ w v (a.eval x)) (h : boundO t d lo = some l) : bound d (lo.map a.eval) = some l := by
  cases lo with
  | none => exact h
  | some x =>
    simp only [boundO, Option.map_eq_some_iff] at h
    obtain ⟨⟨k, i⟩, h1, rfl⟩ := h
    rw [Option.map_some, evI_R (hT x rfl) h1]
    rfl
theorem partsA_R {t : Slots} {a : Act} {parts : Array (Nat × Operand)} {ps : List (Nat × List CV)} (hT : ∀ p ∈ parts.toList, ∀ v, evO t p.2 = some v → AR ρ w v (a.eval p.2)) (h : partsA t parts = some ps) :
    (parts.map fun (i, x) => (i, a.eval x)).toList.map (·.1) = ps.map (·.1) ∧ ∀ (j : Nat) p q, ps[j]? = some p → (parts.map fun (i, x) => (i, a.eval x)).toList[j]? = some q → CellsR ρ w p.2 q.2.cells := by
  obtain ⟨h1, h2, h3⟩ := omap_at h
  refine ⟨?_, fun j p q hp hq => ?_⟩
  · apply List.ext_getElem?
    intro j
    simp only [Array.toList_map, List.map_map, List.getElem?_map]
    cases hj : parts.toList[j]? with
    | none =>
      have : ps[j]? = none := List.getElem?_eq_none (by rw [h1]; exact List.getElem?_eq_none_iff.1 hj)
      rw [this]; rfl
    | some p =>
      obtain ⟨b, h4, h5⟩ := h3 j p hj
      rw [h4]
      simp only [Option.map_eq_some_iff] at h5
      obtain ⟨cs, _, rfl⟩ := h5
      rfl
  · obtain ⟨x, h4, h5⟩ := h2 j p hp
    simp only [Array.toList_map, List.getElem?_map, h4] at hq
    cases hq
    simp only [Option.map_eq_some_iff, Option.bind_eq_some_iff] at h5
    obtain ⟨cs, ⟨v, h6, h7⟩, rfl⟩ := h5
    exact cellsA_R (hT x (List.mem_of_getElem? h4) v h6) h7
theorem strOf_R {v : AV} {u : Value} {s : ByteArray} (h : strOf v = some s) (hx : AR ρ w v u) : u = .string s := by
  unfold strOf at h
  split at h
  · cases h; exact hx.1.val_eq
  · cases h
theorem run_eql_slice {T e : TypeId} (hT : P.underlying T = some (.slice e)) (a : Addr) (l c l' c' : Nat) : (Op.equal T (.slice (some a) l c) (.slice none l' c')).run P w = .ok false w := by
  unfold Op.equal Op.maxDepth
  rw [show (10000 : Nat) = 9999 + 1 from rfl]
  unfold Op.equalIn
  simp only [underlying, program, Sem.run_bind, Sem.run_pure, hT, Result.andThen_ok, Sem.run]
theorem nilCmp_run {t : Slots} {a : Act} {op : BinOp} {T ty : TypeId} {x y : Operand} {u : AV} {b : Bool} (hx : AR ρ w u (a.eval x)) (hc : nilCmp op y u = some b) (hT : isSliceD (P.underlying T) = true) : (do eqGuard op T x y (a.eval x) (a.eval y); binOp op T (a.eval x) (a.eval y) : Sem Value).run P w = .ok (.bool b) w := by
  unfold nilCmp at hc
  split at hc
  · rename_i m r rs
    have hv : ∃ ad l c, a.eval x = .slice (some ad) l c := by
      have h1 := hx.1
      generalize a.eval x = v at h1
      cases h1 with
      | view m rows g o c f hne hS hcap hm hw ho hr => exact ⟨_, _, _, rfl⟩
    obtain ⟨ad, l, c, hv⟩ := hv
    obtain ⟨e, he⟩ : ∃ e, P.underlying T = some (.slice e) := by
      unfold isSliceD at hT
      split at hT
      · rename_i d e hd; exact ⟨_, hd⟩
      · cases hT
    rw [hv]
    split at hc
    · cases hc
      rename_i l' c'
      show (do eqGuard .eql T x (.const (.slice none l' c')) (.slice (some ad) l c) (.slice none l' c'); binOp .eql T (.slice (some ad) l c) (.slice none l' c') : Sem Value).run P w = _
      simp only [eqGuard, binOp, Sem.run_bind, Sem.run_pure, run_eql_slice he, Result.andThen_ok]
      rfl
    · cases hc
      rename_i l' c'
      show (do eqGuard .neq T x (.const (.slice none l' c')) (.slice (some ad) l c) (.slice none l' c'); binOp .neq T (.slice (some ad) l c) (.slice none l' c') : Sem Value).run P w = _
      simp only [eqGuard, binOp, Sem.run_bind, Sem.run_pure, run_eql_slice he, Result.andThen_ok]
      rfl
    · cases hc
  · cases hc
theorem nilCheck_run {t : Slots} {a : Act} {o : Oper} {x : Operand} {u : AV} (ho : o.op = .nilCheck x) (hx : AR ρ w u (a.eval x)) (hp : isPtrA u = true) : (execOp a.eval o).run P w = .ok (.value (a.eval x)) w := by
  have hv : ∃ ad, a.eval x = .pointer (some ad) := by
    unfold isPtrA at hp
    split at hp
    · obtain ⟨g, q, _, h2⟩ := hx.1; exact ⟨_, h2⟩
    · obtain ⟨g, q, f, h2, _⟩ := hx.1; exact ⟨_, h2⟩
    · cases hp
  obtain ⟨ad, hv⟩ := hv
  unfold execOp
  rw [ho]
  dsimp only
  rw [hv]
  rfl
theorem opF_sound (hG : G H w0 ρ w) (hH : ∀ (b : Nat) blk, h[b]? = some (some blk) → H[b]? = some (some blk)) {t : Slots} {a : Act} {n : Nat} {o : Oper} {K : AV → Option Blk → Prop} {Q : Exit → Act → World → Prop} (hn : ρ n = none)
    (hT : ∀ x ∈ o.op.operands.toList, ∀ v, evO t x = some v → AR ρ w v (a.eval x)) (hF : opF P t h n o K) :
    o.wp P a w (fun a' w' => ∃ v, a' = a.put o.dst v ∧ Post ρ w n K v w') Q := by
  unfold opF at hF
  split at hF
  · rename_i x ho
    obtain ⟨v, h1, h2⟩ := hF
    exact wp_of_run (v := a.eval x) (by unfold execOp; rw [ho]; rfl) ⟨_, rfl, Post.val h2 (hT x (by simp [ho, Op.operands]) v h1)⟩
  · rename_i x ho
    obtain ⟨v, h1, h2⟩ := hF
    exact wp_of_run (v := a.eval x) (by unfold execOp; rw [ho]; rfl) ⟨_, rfl, Post.val h2 (hT x (by simp [ho, Op.operands]) v h1)⟩
  · rename_i c x y ho
    obtain ⟨b, h1, u, h2, v, h3, h4⟩ := hF
    have hb := evB_R (hT c (by simp [ho, Op.operands])) h1
    refine wp_of_run (v := if b then a.eval x else a.eval y) (by unfold execOp; rw [ho]; simp [hb, asBool]) ⟨_, rfl, Post.val h4 (pickA_R (hT x (by simp [ho, Op.operands]) u h2) (hT y (by simp [ho, Op.operands]) v h3))⟩
  · rename_i T ho
    obtain ⟨z, h1, h2⟩ := hF
    exact of_s (by unfold execOp; rw [ho]) (s_alloc hn h1 h2)
  · rename_i T x ho
    obtain ⟨v, h1, cs, h2, h3⟩ := hF
    exact of_s (by unfold execOp; rw [ho]) (s_box hn (hT x (by simp [ho, Op.operands]) v h1) h2 h3)
  · rename_i T parts ho
    obtain ⟨l, h1, z, h2, ps, h3, out, h4, h5⟩ := hF
    have hp := partsA_R (fun p hp v hv => hT p.2 (by simp only [ho, Op.operands]; simpa using ⟨p.1, by simpa using hp⟩) v hv) h3
    exact of_s (by unfold execOp; rw [ho]) (s_build h1 h2 hp.1 hp.2 h4 h5)
  · rename_i T len parts ho
    split at hF
    · rename_i hlen
      subst hlen
      obtain ⟨h1, em, h2, h3⟩ := hF
      have : parts = #[] := by simpa using h1
      subst this
      exact of_s (by unfold execOp; rw [ho]) (s_buildNil (m := em.2) (e := em.1) h2 (by simp) h3)
    · rename_i hlen
      obtain ⟨em, h1, z, h2, h3, h4, h5, ps, h6, out, h7, h8⟩ := hF
      have hp := partsA_R (fun p hp v hv => hT p.2 (by simp only [ho, Op.operands]; simpa using ⟨p.1, by simpa using hp⟩) v hv) h6
      exact of_s (by unfold execOp; rw [ho]) (s_buildSlice (e := em.1) hn h1 h2 h3 h4 hlen h5 hp.1 hp.2 h7 h8)
  · rename_i T x ho
    obtain ⟨v, h1, y, h2, h3⟩ := hF
    exact of_s (by unfold execOp; rw [ho]) (s_load hG hH (hT x (by simp [ho, Op.operands]) v h1) h2 h3)
  · rename_i T x f ho
    obtain ⟨v, h1, cs, h2, l, h3, s, h4, y, h5, h6⟩ := hF
    have e : v = .a (.agg cs) := by unfold aggOf at h2; split at h2 <;> cases h2; rfl
    exact of_s (by unfold execOp; rw [ho]) (s_field (hT x (by simp [ho, Op.operands]) v h1) e h3 h4 h5 h6)
  · rename_i T x f ho
    obtain ⟨v, h1, l, h2, s, h3, h4, y, h5, h6⟩ := hF
    exact of_s (by unfold execOp; rw [ho]) (s_fieldAddr (hT x (by simp [ho, Op.operands]) v h1) h2 h3 h4 h5 h6)
  · rename_i x i ho
    obtain ⟨v, h1, xs, h2, y, h3, h4⟩ := hF
    have e : v = .tup xs := by unfold tupOf at h2; split at h2 <;> cases h2; rfl
    exact of_s (by unfold execOp; rw [ho]) (s_extract (hT x (by simp [ho, Op.operands]) v h1) e h3 h4)
  · rename_i T x ix ho
    obtain ⟨v, h1, ⟨k, i⟩, h2, ⟨e, m⟩, h3, h4⟩ := hF
    have hx := hT x (by simp [ho, Op.operands]) v h1
    have hi := evI_R (hT ix (by simp [ho, Op.operands])) h2
    refine of_s (s := Instr.indexAt T (a.eval x) (a.eval ix)) (by unfold execOp; rw [ho]) ?_
    rw [hi]
    unfold idxF at h4
    split at h4
    · obtain ⟨rfl, h5, row, h6, h7⟩ := h4
      exact s_index_view h3 hx h5 h6 h7
    · obtain ⟨rfl, h5, h6, h7⟩ := h4
      exact s_index_own h3 hx h5 h6 h7
    · exact h4.elim
  · rename_i T x lo hi mx ho
    obtain ⟨v, h1, h2⟩ := hF
    split at h2
    · exact litF_sound hT h2
    · obtain ⟨rfl, ⟨e, m⟩, h3, h4⟩ := h2
      have hx := hT x (by simp [ho, Op.operands]) v h1
      refine of_s (s := Instr.sliceAt T (a.eval x) (lo.map a.eval) (hi.map a.eval) none) (by unfold execOp; rw [ho]; rfl) ?_
      unfold slcF at h4
      split at h4
      · obtain ⟨rfl, l, h5, hh, h6, h7, h8, h9, h10⟩ := h4
        exact s_slice_view h3 hx (boundO_R (fun y hy => hT y (by simp [ho, Op.operands, hy])) h5) (boundO_R (fun y hy => hT y (by simp [ho, Op.operands, hy])) h6) h7 h8 h9 h10
      · obtain ⟨rfl, l, h5, hh, h6, h7, h8, h9, h10⟩ := h4
        exact s_slice_own h3 hx (boundO_R (fun y hy => hT y (by simp [ho, Op.operands, hy])) h5) (boundO_R (fun y hy => hT y (by simp [ho, Op.operands, hy])) h6) h7 h8 h9 h10
      · exact h4.elim
  · rename_i T l c ho
    obtain ⟨⟨kl, l'⟩, h1, ⟨kc, c'⟩, h2, ⟨e, m⟩, h3, z, h4, by_, h5, h6, h7, h8, h9, h10, h11, h12⟩ := hF
    have hl := evI_R (hT l (by simp [ho, Op.operands])) h1
    have hc := evI_R (hT c (by simp [ho, Op.operands])) h2
    refine of_s (s := Instr.makeSlice T (a.eval l) (a.eval c)) (by unfold execOp; rw [ho]) ?_
    rw [hl, hc]
    exact s_make hn h3 h4 h6 h7 h5 h8 h9 h10 h11 h12
  · rename_i f first caps ho
    obtain ⟨h1, cs, h2, h3⟩ := hF
    obtain rfl : first = #[] := by apply Array.ext'; simpa using h1
    obtain ⟨e1, e2, e3⟩ := omap_at h2
    refine wp_of_run (v := .func (.func f) #[] (caps.map a.eval)) (by unfold execOp; rw [ho]; simp [Instr.makeFunc]) ⟨_, rfl, Post.val h3 ⟨⟨caps.map a.eval, rfl, by simp [e1], fun j c hj => ?_⟩, rfl⟩⟩
    obtain ⟨x, h4, h5⟩ := e2 j c hj
    obtain ⟨v, h6, h7⟩ := Option.bind_eq_some_iff.1 h5
    have h4' : caps[j]? = some x := by simpa using h4
    have hx := hT x (by simp only [ho, Op.operands]; simpa using List.mem_of_getElem? h4) v h6
    refine ⟨a.eval x, by simp [h4'], ?_⟩
    unfold capOf at h7
    split at h7
    · cases h7; exact hx.1
    · cases h7; exact ⟨hx.1.val_eq, hx.2⟩
    · cases h7
  · rename_i S D x ho
    obtain ⟨v, h1, h2⟩ := hF
    split at h2
    · exact litF_sound hT h2
    · have hx := hT x (by simp [ho, Op.operands]) v h1
      refine of_s (s := convert S D (a.eval x)) (by unfold execOp; rw [ho]) ?_
      unfold convF at h2
      split at h2
      · obtain ⟨e, h3, h4, h5, h6, h7⟩ := h2
        have e1 := hx.1.val_eq
        rw [e1]
        exact s_bytes_of hn h3 h4 h5 h6 h7
      · obtain ⟨e, l, h3, h4, h5, rfl, h6, h7⟩ := h2
        exact s_string_view h3 h4 h5 hx h6 h7
      · obtain ⟨e, l, h3, h4, h5, rfl, ⟨ob, h6, blk, h7, h8, h9, h10⟩, h11⟩ := h2
        subst h7
        exact s_string_own hG (hH _ _ h6) h3 h4 h5 hx h8 h9 h10 h11
      · exact h2.elim
  · rename_i op T x y _ ho
    obtain ⟨u, h1, h2⟩ := hF
    split at h2
    · exact semF_sound hT h2
    · split at h2
      · rename_i b hb
        exact wp_of_run (v := .bool b) (by unfold execOp; rw [ho]; exact run_v (nilCmp_run (t := t) (ty := T) (hT x (by simp [ho, Op.operands]) u h1) hb h2.1)) ⟨_, rfl, Post.val h2.2 ⟨.val _, rfl⟩⟩
      · exact litF_sound hT h2
  · rename_i b args argTypes ho
    split at hF
    · rename_i x T ha ht
      obtain ⟨v, h1, h2⟩ := hF
      split at h2
      · exact litF_sound hT h2
      · have ea : args = #[x] := by apply Array.ext'; simpa using ha
        have et : argTypes = #[T] := by apply Array.ext'; simpa using ht
        subst ea; subst et
        have hx := hT x (by simp [ho, Op.operands, Call.operands]) v h1
        have hs : ∃ u w', (Builtin.len_ #[T] o.type #[a.eval x]).run P w = .ok u w' ∧ Post ρ w n K u w' := by
          unfold lenF at h2
          split at h2
          · obtain ⟨⟨e, m⟩, h3, h4⟩ := h2; exact s_len_view h3 hx h4
          · obtain ⟨⟨e, m⟩, h3, h4⟩ := h2; exact s_len_own h3 hx h4
          · obtain ⟨⟨e, m⟩, h3, h4⟩ := h2; exact s_len_nil h3 hx h4
          · exact h2.elim
        obtain ⟨u, w', h8, h9⟩ := hs
        exact wp_of_run (by unfold execOp; simp only [ho, resolve, invoke, builtin, Sem.run_bind, Sem.run_pure, Result.andThen_ok, List.map_toArray, List.map_cons, List.map_nil, h8]) ⟨u, rfl, h9⟩
    · exact litF_sound hT hF
  · rename_i f args argTypes ho
    obtain ⟨xs, h1, r, h2, h3⟩ := hF
    obtain ⟨e1, e2, e3⟩ := omap_at h1
    have hcall := PureC.calls (n := n) (K := K) hG hH h2 (vs := args.map a.eval) (by simp [e1]) (fun j x hj => by
      obtain ⟨y, h4, h5⟩ := e2 j x hj
      have h4' : args[j]? = some y := by simpa using h4
      refine ⟨a.eval y, by simp [h4'], hT y ?_ x h5⟩
      simp only [ho, Op.operands, Call.operands]
      simp only [Array.toList_append, List.mem_append]
      exact .inr (by simpa using Array.mem_of_getElem? h4')) h3
    have hrun : (execOp a.eval o).run P w = .ok (.enter f (args.map a.eval)) w := by
      unfold execOp
      simp only [ho, resolve, Act.eval, Deferred.ofValue, invoke, Sem.run_bind, Sem.run_pure, Result.andThen_ok, Array.empty_append, Array.append_empty, run_enter h2.enter]
    unfold Oper.wp
    rw [hrun, Oper.upon_enter]
    refine hcall.mono ?_
    rintro e w' ⟨v, rfl, hp⟩
    exact ⟨v, rfl, hp⟩
  · rename_i x ho
    obtain ⟨u, h1, h2⟩ := hF
    split at h2
    · rename_i hp
      exact wp_of_run (nilCheck_run (t := t) ho (hT x (by simp [ho, Op.operands]) u h1) hp) ⟨_, rfl, Post.val h2 (hT x (by simp [ho, Op.operands]) u h1)⟩
    · exact litF_sound hT h2
  · exact litF_sound hT hF
end
end AM
end Go.Proofs.Ytfbnjemmmgobkaa
