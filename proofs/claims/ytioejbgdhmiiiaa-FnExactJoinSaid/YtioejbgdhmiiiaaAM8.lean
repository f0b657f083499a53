/- The abstract machine, 8: one operation that touches no own block. -/
import Derived.Test.YtioejbgdhmiiiaaAM7
namespace Go.Proofs.Ytioejbgdhmiiiaa
open Go.RowKit
set_option linter.unusedVariables false
set_option linter.unusedSimpArgs false
namespace AM
/-! ### Pure values at a set of blocks, contracts -/
def PC (S : Nat → Prop) (w : World) : CV → Value → Prop
  | .p x, v => PR S w x v
  | .vp cells, v => ∃ (g q : Nat) (f : Nat → Value), v = .pointer (some ⟨g, q, none⟩) ∧ S g ∧ (∀ (j : Nat) x, cells[j]? = some x → w.cell? ⟨g, q + j, none⟩ = some (f j)) ∧ ∀ (j : Nat) x, cells[j]? = some x → PR S w x (f j) ∧ (f j).oneCell' = true
  | .nilsl, v => ∃ a, v = .slice a 0 0
  | _, _ => False
def P1 (S : Nat → Prop) (w : World) : A1 → Value → Prop
  | .one c, v => PC S w c v ∧ v.oneCell' = true
  | .agg cs, v => ∃ vs, v = .agg vs ∧ vs.size = cs.length ∧ ∀ (j : Nat) c, cs[j]? = some c → ∃ u, vs[j]? = some u ∧ PC S w c u ∧ u.oneCell' = true
def PA (S : Nat → Prop) (w : World) : AV → Value → Prop
  | .a x, v => P1 S w x v
  | .tup xs, v => ∃ vs, v = .tuple vs ∧ vs.size = xs.length ∧ ∀ (j : Nat) x, xs[j]? = some x → ∃ u, vs[j]? = some u ∧ P1 S w x u
  | .und, v => v = undef
theorem PC.mono {S S' : Nat → Prop} {w w' : World} (hS : ∀ g, S g → S' g) (hc : ∀ g q, S g → w'.cell? ⟨g, q, none⟩ = w.cell? ⟨g, q, none⟩) {c : CV} {v : Value} (h : PC S w c v) : PC S' w' c v := by
  cases c with
  | p x => exact PR.later hS hc h
  | vp cells =>
    obtain ⟨g, q, f, h1, h2, h3, h4⟩ := h
    exact ⟨g, q, f, h1, hS g h2, fun j x hj => (hc g _ h2).trans (h3 j x hj), fun j x hj => ⟨(h4 j x hj).1.later hS hc, (h4 j x hj).2⟩⟩
  | nilsl => exact h
  | ptr m b i j => exact h.elim
  | sl m b i n => exact h.elim
theorem P1.mono {S S' : Nat → Prop} {w w' : World} (hS : ∀ g, S g → S' g) (hc : ∀ g q, S g → w'.cell? ⟨g, q, none⟩ = w.cell? ⟨g, q, none⟩) {c : A1} {v : Value} (h : P1 S w c v) : P1 S' w' c v := by
  cases c with
  | one c => exact ⟨h.1.mono hS hc, h.2⟩
  | agg cs =>
    obtain ⟨vs, h1, h2, h3⟩ := h
    exact ⟨vs, h1, h2, fun j c hj => by obtain ⟨u, h4, h5, h6⟩ := h3 j c hj; exact ⟨u, h4, h5.mono hS hc, h6⟩⟩
theorem PA.mono {S S' : Nat → Prop} {w w' : World} (hS : ∀ g, S g → S' g) (hc : ∀ g q, S g → w'.cell? ⟨g, q, none⟩ = w.cell? ⟨g, q, none⟩) {c : AV} {v : Value} (h : PA S w c v) : PA S' w' c v := by
  cases c with
  | a c => exact P1.mono hS hc h
  | tup cs =>
    obtain ⟨vs, h1, h2, h3⟩ := h
    exact ⟨vs, h1, h2, fun j c hj => by obtain ⟨u, h4, h5⟩ := h3 j c hj; exact ⟨u, h4, h5.mono hS hc⟩⟩
  | und => exact h
theorem PC.cr {ρ : Own} {w : World} {c : CV} {v : Value} (h : PC (Fz ρ w) w c v) : CR ρ w c v := by
  cases c with
  | p x => exact h
  | vp cells => exact h
  | nilsl => exact h
  | ptr m b i j => exact h.elim
  | sl m b i n => exact h.elim
theorem P1.r1 {ρ : Own} {w : World} {c : A1} {v : Value} (h : P1 (Fz ρ w) w c v) : R1 ρ w c v := by
  cases c with
  | one c => exact ⟨h.1.cr, h.2⟩
  | agg cs =>
    obtain ⟨vs, h1, h2, h3⟩ := h
    exact ⟨vs, h1, h2, fun j c hj => by obtain ⟨u, h4, h5, h6⟩ := h3 j c hj; exact ⟨u, h4, h5.cr, h6⟩⟩
theorem PA.ar {ρ : Own} {w : World} {c : AV} {v : Value} (h : PA (Fz ρ w) w c v) : AR ρ w c v := by
  cases c with
  | a c => exact P1.r1 h
  | tup cs =>
    obtain ⟨vs, h1, h2, h3⟩ := h
    exact ⟨vs, h1, h2, fun j c hj => by obtain ⟨u, h4, h5⟩ := h3 j c hj; exact ⟨u, h4, h5.r1⟩⟩
  | und => exact h
/-- No slice that is not empty. -/
def PV.flat : PV → Prop
  | .val _ => True
  | .view _ rows => rows = []
/-- A slice of own memory seen as one that is read alone; fr: in own memory throughout. -/
inductive ExpC (fr : Bool) (h : Heap) : CV → CV → Prop
  | p (x : PV) (hf : fr = true → x.flat) : ExpC fr h (.p x) (.p x)
  | vp (cells : List PV) (hf : fr = false) : ExpC fr h (.vp cells) (.vp cells)
  | nilsl : ExpC fr h .nilsl .nilsl
  | nilv (m : Nat) : ExpC fr h .nilsl (.p (.view m []))
  | sl (m b i n : Nat) (T : TypeId) (rows : List (List CV)) (rowsP : List (List PV)) (hb : h[b]? = some (some ⟨T, m, rows⟩)) (he : (rows.drop i).take n = rowsP.map (·.map .p)) (hl : rowsP.length = n) (hf : fr = true → ∀ row ∈ rowsP, ∀ x ∈ row, x.flat) : ExpC fr h (.sl m b i n) (.p (.view m rowsP))
  | slN (m b i n : Nat) (T : TypeId) (rows : List (List CV)) (rowsP : List (List PV)) (hb : h[b]? = some (some ⟨T, m, rows⟩)) (hl : rowsP.length = n) (hin : i + n ≤ rows.length)
      (hs : ∀ (i' : Nat) (row : List CV) (rp : List PV), rows[i + i']? = some row → rowsP[i']? = some rp → rp.length = row.length)
      (hc : ∀ (i' j : Nat) (row : List CV) (rp : List PV) (c : CV) (x : PV), rows[i + i']? = some row → rowsP[i']? = some rp → row[j]? = some c → rp[j]? = some x → ExpC fr h c (.p x)) : ExpC fr h (.sl m b i n) (.p (.view m rowsP))
  | ptr (m b i j : Nat) (T : TypeId) (rows : List (List CV)) (row : List CV) (cells : List PV) (hb : h[b]? = some (some ⟨T, m, rows⟩)) (hr : rows[i]? = some row) (he : row.drop j = cells.map .p) (hf : fr = false) : ExpC fr h (.ptr m b i j) (.vp cells)
inductive Exp1 (fr : Bool) (h : Heap) : A1 → A1 → Prop
  | one (c c' : CV) (hc : ExpC fr h c c') : Exp1 fr h (.one c) (.one c')
  | agg (cs cs' : List CV) (hl : cs'.length = cs.length) (hc : ∀ (j : Nat) c c', cs[j]? = some c → cs'[j]? = some c' → ExpC fr h c c') : Exp1 fr h (.agg cs) (.agg cs')
inductive ExpA (fr : Bool) (h : Heap) : AV → AV → Prop
  | a (x x' : A1) (hx : Exp1 fr h x x') : ExpA fr h (.a x) (.a x')
  | tup (xs xs' : List A1) (hl : xs'.length = xs.length) (hx : ∀ (j : Nat) x x', xs[j]? = some x → xs'[j]? = some x' → Exp1 fr h x x') : ExpA fr h (.tup xs) (.tup xs')
inductive ExpL (h : Heap) : List AV → List AV → Prop
  | nil : ExpL h [] []
  | cons (x x' : AV) (r r' : List AV) (hx : ExpA false h x x') (hr : ExpL h r r') : ExpL h (x :: r) (x' :: r')
theorem PR.flat {S S' : Nat → Prop} {w w' : World} {x : PV} {v : Value} (hf : x.flat) (h : PR S w x v) : PR S' w' x v := by
  cases h with
  | val => exact .val _
  | nil => exact .nil _ _ _
  | view m rows g o c f hne => exact absurd hf hne
section
variable {P : Program} {ρ : Own} {w w0 : World} {h H : Heap}
def Lt (w : World) (g : Nat) : Prop := g < w.heap.size
theorem ExpC.sound {fr : Bool} {S : Nat → Prop} (hS1 : fr = false → ∀ g, Fz ρ w g → S g) (hS2 : ∀ b g o, ρ b = some (g, o) → S g) (hG : G H w0 ρ w) (hH : ∀ (b : Nat) blk, h[b]? = some (some blk) → H[b]? = some (some blk)) {c c' : CV} (e : ExpC fr h c c') : ∀ {v : Value}, CR ρ w c v → PC S w c' v := by
  have pure1 : ∀ (x : PV) (v : Value), (fr = true → x.flat) → PR (Fz ρ w) w x v → PR S w x v := fun x v hf hx => by
    cases hfr : fr with
    | true => exact hx.flat (hf hfr)
    | false => exact PR.later (fun g hg => hS1 hfr g hg) (fun _ _ _ => rfl) hx
  induction e with
  | p x hf => intro v hc; exact pure1 x v hf hc
  | vp cells hf =>
    intro v hc
    obtain ⟨g, q, f, h1, h2, h3, h4⟩ := hc
    exact ⟨g, q, f, h1, hS1 hf g h2, h3, fun j x hj => ⟨(h4 j x hj).1.later (fun g hg => hS1 hf g hg) (fun _ _ _ => rfl), (h4 j x hj).2⟩⟩
  | nilsl => intro v hc; exact hc
  | nilv m => intro v hc; obtain ⟨a, rfl⟩ := hc; exact .nil m a 0
  | sl m b i n T rows rowsP hb he hl hf =>
    intro v hc
    rcases hc with ⟨rfl, a, rfl⟩ | ⟨g, o, c, h1, rfl, h2, _, _⟩
    · have := List.length_eq_zero_iff.1 hl
      subst this
      exact .nil m a 0
    · obtain ⟨cs, fr', h3, _, _, h4, h5⟩ := hG.held b _ g o (hH b _ hb) h1
      dsimp only at h4 h5
      by_cases hn : rowsP = []
      · subst hn; have : n = 0 := by simpa using hl.symm
        subst this
        exact .nil m _ c
      · subst hl
        have hat : ∀ (i' : Nat) (rp : List PV), rowsP[i']? = some rp → rows[i + i']? = some (rp.map .p) := fun i' rp hi => by
          have h6 : ((rows.drop i).take rowsP.length)[i']? = some (rp.map .p) := by rw [he]; simp [hi]
          rw [List.getElem?_take_of_lt (List.getElem?_eq_some_iff.1 hi).1, List.getElem?_drop] at h6
          exact h6
        have key : ∀ (i' j : Nat) (rp : List PV) (x : PV), rowsP[i']? = some rp → rp[j]? = some x → ∃ u, cs[o + ((i + i') * m + j)]? = some u ∧ CR ρ w (.p x) u ∧ u.oneCell' = true := fun i' j rp x hi hj => h5 _ _ _ _ (hat i' rp hi) (by simp [hj])
        refine .view m rowsP g _ c (fun i' j => (cs[o + ((i + i') * m + j)]?).getD undef) hn (hS2 b g o h1) h2 (fun i' rp hi => by have := h4 _ _ (hat i' rp hi); simpa using this) (fun i' j rp x hi hj => ?_) (fun i' j rp x hi hj => ?_) (fun i' j rp x hi hj => ?_)
        · obtain ⟨u, h6, _⟩ := key i' j rp x hi hj
          rw [cell_of_row w g _ cs T fr' h3, show o + i * m + (i' * m + j) = o + ((i + i') * m + j) by rw [Nat.add_mul]; omega, h6]
          rfl
        · obtain ⟨u, h6, _, h7⟩ := key i' j rp x hi hj
          rw [h6]; exact h7
        · obtain ⟨u, h6, h7, _⟩ := key i' j rp x hi hj
          rw [h6]
          exact pure1 x u (fun hfr => hf hfr rp (List.mem_of_getElem? hi) x (List.mem_of_getElem? hj)) h7
  | slN m b i n T rows rowsP hb hl hin hs hcc ih =>
    intro v hc
    rcases hc with ⟨rfl, a, rfl⟩ | ⟨g, o, c, h1, rfl, h2, _, _⟩
    · have := List.length_eq_zero_iff.1 hl
      subst this
      exact .nil m a 0
    · obtain ⟨cs, fr', h3, _, _, h4, h5⟩ := hG.held b _ g o (hH b _ hb) h1
      dsimp only at h4 h5
      by_cases hn : rowsP = []
      · subst hn; have : n = 0 := by simpa using hl.symm
        subst this
        exact .nil m _ c
      · subst hl
        have hat : ∀ (i' : Nat) (rp : List PV), rowsP[i']? = some rp → ∃ row, rows[i + i']? = some row ∧ rp.length = row.length := fun i' rp hi => by
          have hlt := (List.getElem?_eq_some_iff.1 hi).1
          have hr : rows[i + i']? = some rows[i + i'] := List.getElem?_eq_getElem (by omega)
          exact ⟨_, hr, hs i' _ rp hr hi⟩
        have key : ∀ (i' j : Nat) (rp : List PV) (x : PV), rowsP[i']? = some rp → rp[j]? = some x → ∃ u, cs[o + ((i + i') * m + j)]? = some u ∧ PR S w x u ∧ u.oneCell' = true := fun i' j rp x hi hj => by
          obtain ⟨row, h6, h7⟩ := hat i' rp hi
          have hjl : j < row.length := by rw [← h7]; exact (List.getElem?_eq_some_iff.1 hj).1
          obtain ⟨u, h8, h9, h10⟩ := h5 (i + i') j row row[j] h6 (by simp [hjl])
          exact ⟨u, h8, ih i' j row rp row[j] x h6 hi (by simp [hjl]) hj h9, h10⟩
        refine .view m rowsP g _ c (fun i' j => (cs[o + ((i + i') * m + j)]?).getD undef) hn (hS2 b g o h1) h2 (fun i' rp hi => by
          obtain ⟨row, h6, h7⟩ := hat i' rp hi
          rw [h7]; exact h4 _ row h6) (fun i' j rp x hi hj => ?_) (fun i' j rp x hi hj => ?_) (fun i' j rp x hi hj => ?_)
        · obtain ⟨u, h6, _⟩ := key i' j rp x hi hj
          rw [cell_of_row w g _ cs T fr' h3, show o + i * m + (i' * m + j) = o + ((i + i') * m + j) by rw [Nat.add_mul]; omega, h6]
          rfl
        · obtain ⟨u, h6, _, h7⟩ := key i' j rp x hi hj
          rw [h6]; exact h7
        · obtain ⟨u, h6, h7, _⟩ := key i' j rp x hi hj
          rw [h6]; exact h7
  | ptr m b i j T rows row cells hb hr he hf =>
    intro v hc
    obtain ⟨g, o, h1, rfl⟩ := hc
    obtain ⟨cs, fr', h3, _, _, h4, h5⟩ := hG.held b _ g o (hH b _ hb) h1
    dsimp only at h4 h5
    have key : ∀ (q : Nat) (x : PV), cells[q]? = some x → ∃ u, cs[o + (i * m + (j + q))]? = some u ∧ CR ρ w (.p x) u ∧ u.oneCell' = true := fun q x hq => h5 i (j + q) row _ hr (by
      have h6 : (row.drop j)[q]? = some (.p x) := by rw [he]; simp [hq]
      rw [List.getElem?_drop] at h6
      exact h6)
    refine ⟨g, _, fun q => (cs[o + (i * m + (j + q))]?).getD undef, rfl, hS2 b g o h1, fun q x hq => ?_, fun q x hq => ?_⟩
    · obtain ⟨u, h6, _⟩ := key q x hq
      rw [cell_of_row w g _ cs T fr' h3, show o + (i * m + j) + q = o + (i * m + (j + q)) by omega, h6]
      dsimp only
      rw [h6]
      rfl
    · obtain ⟨u, h6, h7, h8⟩ := key q x hq
      dsimp only
      rw [h6]
      exact ⟨PR.later (fun g hg => hS1 hf g hg) (fun _ _ _ => rfl) h7, h8⟩
theorem Exp1.sound {fr : Bool} {S : Nat → Prop} (hS1 : fr = false → ∀ g, Fz ρ w g → S g) (hS2 : ∀ b g o, ρ b = some (g, o) → S g) (hG : G H w0 ρ w) (hH : ∀ (b : Nat) blk, h[b]? = some (some blk) → H[b]? = some (some blk)) {c c' : A1} {v : Value} (e : Exp1 fr h c c') (hc : R1 ρ w c v) : P1 S w c' v := by
  cases e with
  | one c c' e => exact ⟨e.sound hS1 hS2 hG hH hc.1, hc.2⟩
  | agg cs cs' hl e =>
    obtain ⟨vs, h1, h2, h3⟩ := hc
    refine ⟨vs, h1, by omega, fun j c' hj => ?_⟩
    have hjl : j < cs.length := by have := (List.getElem?_eq_some_iff.1 hj).1; omega
    obtain ⟨u, h4, h5, h6⟩ := h3 j cs[j] (by simp [hjl])
    exact ⟨u, h4, (e j cs[j] c' (by simp [hjl]) hj).sound hS1 hS2 hG hH h5, h6⟩
theorem ExpA.sound {fr : Bool} {S : Nat → Prop} (hS1 : fr = false → ∀ g, Fz ρ w g → S g) (hS2 : ∀ b g o, ρ b = some (g, o) → S g) (hG : G H w0 ρ w) (hH : ∀ (b : Nat) blk, h[b]? = some (some blk) → H[b]? = some (some blk)) {c c' : AV} {v : Value} (e : ExpA fr h c c') (hc : AR ρ w c v) : PA S w c' v := by
  cases e with
  | a x x' e => exact e.sound hS1 hS2 hG hH hc
  | tup xs xs' hl e =>
    obtain ⟨vs, h1, h2, h3⟩ := hc
    refine ⟨vs, h1, by omega, fun j x' hj => ?_⟩
    have hjl : j < xs.length := by have := (List.getElem?_eq_some_iff.1 hj).1; omega
    obtain ⟨u, h4, h5⟩ := h3 j xs[j] (by simp [hjl])
    exact ⟨u, h4, (e j xs[j] x' (by simp [hjl]) hj).sound hS1 hS2 hG hH h5⟩
theorem ExpL.len {xs xs' : List AV} (e : ExpL h xs xs') : xs'.length = xs.length := by
  induction e with
  | nil => rfl
  | cons x x' r r' hx hr ih => simp [ih]
theorem ExpL.at {xs xs' : List AV} (e : ExpL h xs xs') : ∀ (j : Nat) x', xs'[j]? = some x' → ∃ x, xs[j]? = some x ∧ ExpA false h x x' := by
  induction e with
  | nil => intro j x' hj; simp at hj
  | cons x x' r r' hx hr ih =>
    intro j y hj
    cases j with
    | zero => cases hj; exact ⟨x, rfl, hx⟩
    | succ j => exact ih j y hj
/-- A function with a body. -/
def canEnter (P : Program) (f : FuncId) : Bool := match P.funcs[f]? with
  | some fn => fn.body.isSome && !(fn.name == "runtime.NumGoroutine")
  | none => false
theorem run_enter {f : FuncId} (h : canEnter P f = true) (args : Array Value) : (callFunc f args).run P w = .ok (.enter f args) w := by
  unfold canEnter at h
  split at h
  · rename_i fn hf
    simp only [Bool.and_eq_true, Bool.not_eq_true', Option.isSome_iff_exists] at h
    obtain ⟨⟨b, hb⟩, hn⟩ := h
    have hn' : ¬ fn.name = "runtime.NumGoroutine" := by simpa using hn
    simp [callFunc, hf, hn', hb]
  · cases h
/-- A function that makes new memory alone: what it answers at pure arguments; fresh: the answer lies in new memory alone. -/
structure Pure (P : Program) (fresh : Bool) (f : FuncId) (args : List AV) (r : AV) : Prop where
  enter : canEnter P f = true
  calls : ∀ (w : World) (S : Nat → Prop) (vs : Array Value), (∀ g, S g → g < w.heap.size) → vs.size = args.length → (∀ (j : Nat) x, args[j]? = some x → ∃ u, vs[j]? = some u ∧ PA S w x u) →
    Calls P f vs w fun e w' => ∃ v, e = .returned v ∧ Below w.heap.size w w' ∧ PA (fun g => (fresh = false ∧ S g) ∨ (w.heap.size ≤ g ∧ g < w'.heap.size)) w' r v
def pureC : CV → Bool
  | .ptr .. | .sl .. => false
  | _ => true
def pure1 : A1 → Bool
  | .one c => pureC c
  | .agg cs => cs.all pureC
def pureA : AV → Bool
  | .a x => pure1 x
  | .tup xs => xs.all pure1
  | .und => true
theorem pureC_R {c : CV} {v : Value} (hp : pureC c = true) (h : CR ρ w c v) : PC (Fz ρ w) w c v := by
  cases c <;> first | exact h | cases hp
theorem pure1_R {c : A1} {v : Value} (hp : pure1 c = true) (h : R1 ρ w c v) : P1 (Fz ρ w) w c v := by
  cases c with
  | one c => exact ⟨pureC_R hp h.1, h.2⟩
  | agg cs =>
    obtain ⟨vs, h1, h2, h3⟩ := h
    exact ⟨vs, h1, h2, fun j c hj => by obtain ⟨u, h4, h5, h6⟩ := h3 j c hj; exact ⟨u, h4, pureC_R (List.all_eq_true.1 hp c (List.mem_of_getElem? hj)) h5, h6⟩⟩
theorem pureA_R {c : AV} {v : Value} (hp : pureA c = true) (h : AR ρ w c v) : PA (Fz ρ w) w c v := by
  cases c with
  | a c => exact pure1_R hp h
  | tup cs =>
    obtain ⟨vs, h1, h2, h3⟩ := h
    exact ⟨vs, h1, h2, fun j c hj => by obtain ⟨u, h4, h5⟩ := h3 j c hj; exact ⟨u, h4, pure1_R (List.all_eq_true.1 hp c (List.mem_of_getElem? hj)) h5⟩⟩
  | und => exact h
/-- A call out of a state. -/
inductive PureC (P : Program) (h : Heap) (f : FuncId) (xs : List AV) (r : AV) : Prop
  | same (fresh : Bool) (hp : xs.all pureA = true) (hc : Pure P fresh f xs r) : PureC P h f xs r
  | own (xs' : List AV) (he : ExpL h xs xs') (hc : Pure P true f xs' r) : PureC P h f xs r
theorem PureC.enter {f : FuncId} {xs : List AV} {r : AV} (hc : PureC P h f xs r) : canEnter P f = true := by
  cases hc with
  | same fresh hp hc => exact hc.enter
  | own xs' he hc => exact hc.enter
/-- The call, in a world. -/
theorem PureC.calls {n : Nat} {K : AV → Option Blk → Prop} (hG : G H w0 ρ w) (hH : ∀ (b : Nat) blk, h[b]? = some (some blk) → H[b]? = some (some blk)) {f : FuncId} {xs : List AV} {r : AV} (hc : PureC P h f xs r) {vs : Array Value} (hs : vs.size = xs.length)
    (hv : ∀ (j : Nat) x, xs[j]? = some x → ∃ u, vs[j]? = some u ∧ AR ρ w x u) (k : K r none) : Calls P f vs w fun e w' => ∃ v, e = .returned v ∧ Post ρ w n K v w' := by
  cases hc with
  | same fresh hp hc =>
    refine (hc.calls w (Fz ρ w) vs (fun g hg => hg.1) hs (fun j x hj => by
      obtain ⟨u, h1, h2⟩ := hv j x hj
      exact ⟨u, h1, pureA_R (List.all_eq_true.1 hp x (List.mem_of_getElem? hj)) h2⟩)).mono ?_
    rintro e w' ⟨v, rfl, hb, hr⟩
    refine ⟨v, rfl, r, none, ρ, k, hb, PA.ar (hr.mono (fun g hg => ?_) (fun _ _ _ => rfl)), rfl⟩
    rcases hg with ⟨_, hg⟩ | ⟨hg, hg'⟩
    · exact (Adv.of_below (ρ := ρ) hb).fz hg
    · exact ⟨hg', fun b o hb' => (by have := (hG.lo b g o hb').2.1; omega), hG.past g (by have := hG.below.size; omega)⟩
  | own xs' he hc =>
    refine (hc.calls w (Lt w) vs (fun g hg => hg) (by rw [hs, he.len]) (fun j x' hj => by
      obtain ⟨x, h1, h2⟩ := he.at j x' hj
      obtain ⟨u, h3, h4⟩ := hv j x h1
      exact ⟨u, h3, h2.sound (S := Lt w) (fun _ g hg => hg.1) (fun b g o hb => (hG.lo b g o hb).2.1) hG hH h4⟩)).mono ?_
    rintro e w' ⟨v, rfl, hb, hr⟩
    refine ⟨v, rfl, r, none, ρ, k, hb, PA.ar (hr.mono (fun g hg => ?_) (fun _ _ _ => rfl)), rfl⟩
    rcases hg with ⟨h0, _⟩ | ⟨hg, hg'⟩
    · cases h0
    · exact ⟨hg', fun b o hb' => (by have := (hG.lo b g o hb').2.1; omega), hG.past g (by have := hG.below.size; omega)⟩
end
end AM
end Go.Proofs.Ytioejbgdhmiiiaa
