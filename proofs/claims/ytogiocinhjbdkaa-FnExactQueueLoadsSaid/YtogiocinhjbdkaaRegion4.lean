/- Drawn regions that make rows and structs of their own: what their operations yield, in shapes. -/
import Derived.Test.YtogiocinhjbdkaaRegion3
import Derived.Test.YtogiocinhjbdkaaApp
namespace Go.Proofs.Ytogiocinhjbdkaa
open Go.RowKit
set_option linter.unusedVariables false
/-- One cell: a value, or a slice that leads to a row of the region's own. -/
inductive PV where
  | eq (v : Value)
  | own (T : TypeId) (m : Nat) (xs : List (Array Value))
  | row (T : TypeId) (m : Nat) (xs : List (Array Value))
  | emp
def PV.is (base : Nat) : PV → Value → World → Prop
  | .eq u, v, _ => v = u
  | .own T m xs, v, W => Ownd W base T m v xs
  | .row T m xs, v, W => Row W (Rng base W.heap.size) T m v xs
  | .emp, v, _ => ∃ a, v = .slice a 0 0
def PVs (base : Nat) : List PV → List Value → World → Prop
  | [], [], _ => True
  | p :: ps, c :: cs, W => p.is base c W ∧ PVs base ps cs W
  | _, _, _ => False
inductive VT where
  | one (p : PV)
  | agg (ps : List PV)
def VT.is (base : Nat) : VT → Value → World → Prop
  | .one p, v, W => p.is base v W
  | .agg ps, v, W => ∃ cs : List Value, v = .agg cs.toArray ∧ PVs base ps cs W
def VTs (base : Nat) : List VT → List Value → World → Prop
  | [], [], _ => True
  | p :: ps, c :: cs, W => p.is base c W ∧ VTs base ps cs W
  | _, _, _ => False
/-- What an operation yields. -/
inductive VS where
  | val (t : VT)
  | tup (ts : List VT)
  | ptr (T : TypeId) (n : Nat)
  | box (T : TypeId) (ps : List PV)
  | fill (g : Nat) (T : TypeId) (ps : List PV)
def FillP (base g : Nat) (T : TypeId) (ps : List PV) (W : World) : Prop := ∃ cs, W.heap[g]? = some (.cells (List.toArray cs) T (0, 0)) ∧ PVs base ps cs W
def BoxP (base : Nat) (T : TypeId) (ps : List PV) (v : Value) (W : World) : Prop := ∃ g cs, v = .pointer (some ⟨g, 0, none⟩) ∧ base ≤ g ∧ W.heap[g]? = some (.cells (List.toArray cs) T (0, 0)) ∧ PVs base ps cs W ∧ g < W.heap.size
def VS.is (base : Nat) : VS → Value → World → Prop
  | .val t, v, W => t.is base v W
  | .tup ts, v, W => ∃ us : List Value, v = .tuple us.toArray ∧ VTs base ts us W
  | .ptr T n, v, W => OwnV base n T v W
  | .box T ps, v, W => BoxP base T ps v W
  | .fill g T ps, _, W => FillP base g T ps W
def ValsS (l : List VS) (base i : Nat) (v : Value) (W : World) : Prop := match l[i]? with | some s => s.is base v W | none => True
theorem Row.wide {W W' : World} {B m : Nat} {T : TypeId} {v : Value} {xs : List (Array Value)} (h : Row W (Rng B W.heap.size) T m v xs) (hb : Below W.heap.size W W') : Row W' (Rng B W'.heap.size) T m v xs :=
  (h.later hb).mono fun k hk => ⟨hk.1, Nat.lt_of_lt_of_le hk.2 hb.size⟩
theorem PV.mono {base : Nat} {W W' : World} (hb : Below W.heap.size W W') (p : PV) (v : Value) (h : p.is base v W) : p.is base v W' := by
  cases p with
  | eq u => exact h
  | own T m xs => exact Ownd.later h hb
  | row T m xs => exact Row.wide h hb
  | emp => exact h
theorem PVs.mono {base : Nat} {W W' : World} (hb : Below W.heap.size W W') : ∀ (ps : List PV) (cs : List Value), PVs base ps cs W → PVs base ps cs W'
  | [], [], _ => trivial
  | p :: ps, c :: cs, h => ⟨PV.mono hb p c h.1, PVs.mono hb ps cs h.2⟩
  | [], _ :: _, h => h.elim
  | _ :: _, [], h => h.elim
theorem VT.mono {base : Nat} {W W' : World} (hb : Below W.heap.size W W') (t : VT) (v : Value) (h : t.is base v W) : t.is base v W' := by
  cases t with
  | one p => exact PV.mono hb p v h
  | agg ps => obtain ⟨cs, e, h⟩ := h; exact ⟨cs, e, PVs.mono hb ps cs h⟩
theorem VTs.mono {base : Nat} {W W' : World} (hb : Below W.heap.size W W') : ∀ (ps : List VT) (cs : List Value), VTs base ps cs W → VTs base ps cs W'
  | [], [], _ => trivial
  | p :: ps, c :: cs, h => ⟨VT.mono hb p c h.1, VTs.mono hb ps cs h.2⟩
  | [], _ :: _, h => h.elim
  | _ :: _, [], h => h.elim
theorem BoxP.mono {base : Nat} {W W' : World} {T : TypeId} {ps : List PV} {v : Value} (hb : Below W.heap.size W W') (h : BoxP base T ps v W) : BoxP base T ps v W' := by
  obtain ⟨g, cs, h1, h2, h3, h4, h5⟩ := h
  exact ⟨g, cs, h1, h2, (hb.block g h5).trans h3, PVs.mono hb ps cs h4, Nat.lt_of_lt_of_le h5 hb.size⟩
theorem FillP.mono {base g : Nat} {W W' : World} {T : TypeId} {ps : List PV} (hb : Below W.heap.size W W') (h : FillP base g T ps W) : FillP base g T ps W' := by
  obtain ⟨cs, h3, h4⟩ := h
  exact ⟨cs, (hb.block g (Array.getElem?_eq_some_iff.1 h3).1).trans h3, PVs.mono hb ps cs h4⟩
theorem VS.mono {base : Nat} {W W' : World} (hb : Below W.heap.size W W') (s : VS) (v : Value) (h : s.is base v W) : s.is base v W' := by
  cases s with
  | val t => exact VT.mono hb t v h
  | tup ts => obtain ⟨us, e, h⟩ := h; exact ⟨us, e, VTs.mono hb ts us h⟩
  | ptr T n => exact OwnV.below h hb
  | box T ps => exact BoxP.mono hb h
  | fill g T ps => exact FillP.mono hb h
theorem ValsS.mono {l : List VS} {base : Nat} {W W' : World} (hb : Below W.heap.size W W') (i : Nat) (v : Value) (h : ValsS l base i v W) : ValsS l base i v W' := by
  unfold ValsS at h ⊢
  cases hi : l[i]? with
  | none => trivial
  | some s => rw [hi] at h; exact VS.mono hb s v h
/-- Nothing of the shape lies in blocks of type T. -/
def PV.apart (T : TypeId) : PV → Bool
  | .eq _ => true
  | .own T' _ _ => T' != T
  | .row T' _ _ => T' != T
  | .emp => true
def VT.apart (T : TypeId) : VT → Bool
  | .one p => p.apart T
  | .agg ps => ps.all (·.apart T)
def VS.apart (T : TypeId) : VS → Bool
  | .val t => t.apart T
  | .tup ts => ts.all (·.apart T)
  | .ptr _ _ => true
  | .box T' ps => ps.all (·.apart T) && T' != T
  | .fill _ T' ps => ps.all (·.apart T) && T' != T
theorem PV.store {base : Nat} {W : World} {T : TypeId} {old : Array Value} {g : Nat} (cs : Array Value) (hg : W.heap[g]? = some (.cells old T (0, 0))) (p : PV) (ha : p.apart T = true) (v : Value) (h : p.is base v W) : p.is base v (W.setRow g cs) := by
  have hsz : (W.setRow g cs).heap.size = W.heap.size := by simp [World.setRow]
  cases p with
  | eq u => exact h
  | own T' m xs =>
    have hne : T' ≠ T := by simpa [PV.apart] using ha
    rcases h with ⟨hl, h | ⟨k, cap, cur, rfl, hb, hk, r⟩⟩ | h
    · exact .inl ⟨hl, .inl h⟩
    · refine .inl ⟨hl, .inr ⟨k, cap, cur, rfl, hb, ?_, r⟩⟩
      have : k ≠ g := fun e => by subst e; rw [hg] at hk; cases hk; exact hne rfl
      rw [setRow_other W g k cs this]; exact hk
    · exact .inr h
  | row T' m xs =>
    have hne : T' ≠ T := by simpa [PV.apart] using ha
    show Row (W.setRow g cs) (Rng base (W.setRow g cs).heap.size) T' m v xs
    rw [hsz]
    rcases h with h | ⟨h0, k, c, cur, h1, h2, h4, r⟩
    · exact .inl h
    · refine .inr ⟨h0, k, c, cur, h1, h2, ?_, r⟩
      have : k ≠ g := fun e => by subst e; rw [hg] at h4; cases h4; exact hne rfl
      rw [setRow_other W g k cs this]; exact h4
  | emp => exact h
theorem PVs.store {base : Nat} {W : World} {T : TypeId} {old : Array Value} {g : Nat} (cs : Array Value) (hg : W.heap[g]? = some (.cells old T (0, 0))) : ∀ (ps : List PV) (us : List Value), ps.all (·.apart T) = true → PVs base ps us W → PVs base ps us (W.setRow g cs)
  | [], [], _, _ => trivial
  | p :: ps, c :: us, ha, h => by
    simp only [List.all_cons, Bool.and_eq_true] at ha
    exact ⟨PV.store cs hg p ha.1 c h.1, PVs.store cs hg ps us ha.2 h.2⟩
  | [], _ :: _, _, h => h.elim
  | _ :: _, [], _, h => h.elim
theorem VT.store {base : Nat} {W : World} {T : TypeId} {old : Array Value} {g : Nat} (cs : Array Value) (hg : W.heap[g]? = some (.cells old T (0, 0))) (t : VT) (ha : t.apart T = true) (v : Value) (h : t.is base v W) : t.is base v (W.setRow g cs) := by
  cases t with
  | one p => exact PV.store cs hg p ha v h
  | agg ps => obtain ⟨us, e, h⟩ := h; exact ⟨us, e, PVs.store cs hg ps us ha h⟩
theorem VTs.store {base : Nat} {W : World} {T : TypeId} {old : Array Value} {g : Nat} (cs : Array Value) (hg : W.heap[g]? = some (.cells old T (0, 0))) : ∀ (ps : List VT) (us : List Value), ps.all (·.apart T) = true → VTs base ps us W → VTs base ps us (W.setRow g cs)
  | [], [], _, _ => trivial
  | p :: ps, c :: us, ha, h => by
    simp only [List.all_cons, Bool.and_eq_true] at ha
    exact ⟨VT.store cs hg p ha.1 c h.1, VTs.store cs hg ps us ha.2 h.2⟩
  | [], _ :: _, _, h => h.elim
  | _ :: _, [], _, h => h.elim
/-- A store into the struct that the region has made keeps what is known; number st speaks of the store itself. -/
theorem ValsS.store {l : List VS} {base st : Nat} {W : World} {T : TypeId} {old : Array Value} {g : Nat} (cs : Array Value) (hg : W.heap[g]? = some (.cells old T (0, 0))) (hsz : cs.size = old.size)
    (ha : ((List.range l.length).all fun i => i == st || match l[i]? with | some s => s.apart T | none => true) = true) (i : Nat) (v : Value) (h : ValsS l base i v W) (hi : i ≠ st) : ValsS l base i v (W.setRow g cs) := by
  have hz : (W.setRow g cs).heap.size = W.heap.size := by simp [World.setRow]
  unfold ValsS at h ⊢
  cases hl : l[i]? with
  | none => trivial
  | some s =>
    rw [hl] at h
    have hlt : i < l.length := (List.getElem?_eq_some_iff.1 hl).1
    have h1 := List.all_eq_true.1 ha i (List.mem_range.2 hlt)
    simp only [hl, Bool.or_eq_true, beq_iff_eq] at h1
    have h2 : s.apart T = true := h1.resolve_left hi
    cases s with
    | val t => exact VT.store cs hg t h2 v h
    | tup ts => obtain ⟨us, e, h⟩ := h; exact ⟨us, e, VTs.store cs hg ts us h2 h⟩
    | ptr T' n =>
      obtain ⟨k, cur, a1, a2, a3, a4, a5⟩ := h
      by_cases e : k = g
      · subst e; rw [hg] at a3; cases a3; exact ⟨k, cs, a1, a2, setRow_heap W k _ cs _ (0, 0) hg, by omega, by rw [hz]; exact a5⟩
      · exact ⟨k, cur, a1, a2, by rw [setRow_other W g k cs e]; exact a3, a4, by rw [hz]; exact a5⟩
    | box T' ps =>
      simp only [VS.apart, Bool.and_eq_true] at h2
      obtain ⟨k, us, a1, a2, a3, a4, a5⟩ := h
      have e : k ≠ g := fun e => by subst e; rw [hg] at a3; cases a3; simp at h2
      exact ⟨k, us, a1, a2, by rw [setRow_other W g k cs e]; exact a3, PVs.store cs hg ps us h2.1 a4, by rw [hz]; exact a5⟩
    | fill k T' ps =>
      simp only [VS.apart, Bool.and_eq_true] at h2
      obtain ⟨us, a3, a4⟩ := h
      have e : k ≠ g := fun e => by subst e; rw [hg] at a3; cases a3; simp at h2
      exact ⟨us, by rw [setRow_other W g k cs e]; exact a3, PVs.store cs hg ps us h2.1 a4⟩
/-- A region that fills a block that stood before it. -/
structure SO (w0 A : World) (g n : Nat) (T : TypeId) (W : World) : Prop where
  below : Below w0.heap.size w0 W
  touch : Touch A W (fun k => k = g)
  box : ∃ cs, W.heap[g]? = some (.cells cs T (0, 0)) ∧ cs.size = n
theorem SO.start {w0 A : World} {g n : Nat} {T : TypeId} {cs : Array Value} (hb : Below w0.heap.size w0 A) (h : Box A g cs T) (hn : cs.size = n) : SO w0 A g n T A.drew :=
  ⟨below_comp hb below_drew, Touch.of_below below_drew, cs, h, hn⟩
theorem SO.later {w0 A W W' : World} {g n : Nat} {T : TypeId} (h : SO w0 A g n T W) (hb : Below W.heap.size W W') : SO w0 A g n T W' := by
  obtain ⟨cs, h1, h2⟩ := h.box
  exact ⟨below_comp h.below hb, h.touch.later hb, cs, (hb.block g (Array.getElem?_eq_some_iff.1 h1).1).trans h1, h2⟩
theorem SO.set {w0 A W : World} {g n : Nat} {T : TypeId} (h : SO w0 A g n T W) (hg : w0.heap.size ≤ g) (cs : Array Value) (hn : cs.size = n) : SO w0 A g n T (W.setRow g cs) := by
  obtain ⟨old, h1, h2⟩ := h.box
  have hz : (W.setRow g cs).heap.size = W.heap.size := by simp [World.setRow]
  exact ⟨below_setRow h.below hg _, ⟨h.touch.os, h.touch.tape, h.touch.output, by rw [hz]; exact h.touch.size, fun k hk hc => (setRow_other W g k cs hc).trans (h.touch.block k hk hc)⟩, cs, setRow_heap W g old _ _ (0, 0) h1, hn⟩
theorem SO.keep {w0 A W : World} {g n k : Nat} {T t : TypeId} {vs : Array Value} (h : SO w0 A g n T W) (hb : Box A k vs t) (hne : k ≠ g) : Box W k vs t := hb.touch h.touch hne
theorem SO.size {w0 A W : World} {g n : Nat} {T : TypeId} (h : SO w0 A g n T W) : A.heap.size ≤ W.heap.size := h.touch.size
section
variable {P : Program}
/-- append onto an empty slice without room: new memory alone. -/
theorem run_append_0 {w : World} {t ty e : TypeId} {i : TypeInfo} {z : Value} {m bytes : Nat} (ht : P.underlying t = some (.slice e)) (hi : P.info? e = some i) (hz : i.zero = some z)
    (hsize : i.size = m) (hby : i.bytes = bytes) (hzs : z.cells.size = m) (hm : 0 < m) (a0 : Option Addr)
    {a : Option Addr} {g o : Nat} (c : Nat) {ys : List (Array Value)} (hV : ViewAt w a g o m ys) (hs : ∀ y ∈ ys, y.size = m) (h1 : ∀ y ∈ ys, ∀ u ∈ y.toList, u.oneCell' = true)
    (h63 : ys.length ≤ maxLen) (hbytes : ys.length * bytes ≤ 140737488355328) {base : Nat} (hb : base ≤ w.heap.size) :
    ∃ v' w', (Builtin.append_ #[t, t] ty #[.slice a0 0 0, .slice a ys.length c]).run P w = .ok v' w' ∧ Ownd w' base e m v' ys ∧ Below w.heap.size w w' := by
  obtain ⟨v', w', hr, h2, h3⟩ := run_append_g (P := P) (ty := ty) (w := w) (B := w.heap.size) ht hi hz hsize hby hzs hm (Ownd.nil w w.heap.size e m a0) c hV hs h1 (by simpa using h63) (by simpa using hbytes) (Nat.le_refl _)
  exact ⟨v', w', hr, by simpa using h2.base hb, below_touch (Below.refl _ _) h3 (fun k hk => hk.1)⟩
/-- .. as a step of a region. -/
theorem wp_append_0 {op : Oper} {b : Act} {w : World} {K : Act → World → Prop} {Q : Exit → Act → World → Prop} (s x : Operand) {t : TypeId}
    (ho : op.op = .call { callee := .builtin .append, args := #[s, x], argTypes := #[t, t] })
    {e : TypeId} {m : Nat} (E : Elm P t e m) {α : Type} {arr : α → Array Value} (A : El arr m) {a0 : Option Addr} (hsv : b.eval s = .slice a0 0 0)
    {a : Option Addr} {g o c : Nat} {ys : List α} (hx : b.eval x = .slice a ys.length c) (hV : ViewAt w a g o m (ys.map arr)) (hn : ys.length ≤ 8388608) (base : Nat) (hb : base ≤ w.heap.size)
    (h : ∀ v' w', Ownd w' base e m v' (ys.map arr) → Below w.heap.size w w' → K (b.put op.dst v') w') : op.wp P b w K Q :=
  wp_append_e s x ho E A (xs := []) hsv (Ownd.nil w w.heap.size e m a0) c hx hV (by simpa using hn) (Nat.le_refl _) fun v' w' h1 h2 => h v' w' (h1.base hb) (below_touch (Below.refl _ _) h2 (fun k hk => hk.1))
end
def PV.single : PV → Bool
  | .eq v => v.oneCell'
  | _ => true
theorem PV.one {base : Nat} {W : World} : ∀ (p : PV) (v : Value), p.single = true → p.is base v W → v.oneCell' = true
  | .eq u, v, h, e => by have e' : v = u := e; rw [e']; exact h
  | .own T m xs, v, _, h => by obtain ⟨a, c, rfl⟩ := Ownd.form h; rfl
  | .row T m xs, v, _, h => by obtain ⟨a, n, c, rfl⟩ := Row.form h; rfl
  | .emp, v, _, h => by obtain ⟨a, rfl⟩ := h; rfl
theorem PVs.len {base : Nat} {W : World} : ∀ (ps : List PV) (cs : List Value), PVs base ps cs W → cs.length = ps.length
  | [], [], _ => rfl
  | p :: ps, c :: cs, h => by rw [List.length_cons, List.length_cons, PVs.len ps cs h.2]
  | [], _ :: _, h => h.elim
  | _ :: _, [], h => h.elim
theorem PVs.ones {base : Nat} {W : World} : ∀ (ps : List PV) (cs : List Value), ps.all PV.single = true → PVs base ps cs W → cs.all (·.oneCell') = true
  | [], [], _, _ => rfl
  | p :: ps, c :: cs, ha, h => by
    simp only [List.all_cons, Bool.and_eq_true] at ha ⊢
    exact ⟨PV.one p c ha.1 h.1, PVs.ones ps cs ha.2 h.2⟩
  | [], _ :: _, _, h => h.elim
  | _ :: _, [], _, h => h.elim
theorem PVs.uncons {base : Nat} {W : World} {p : PV} {ps : List PV} {cs : List Value} (h : PVs base (p :: ps) cs W) : ∃ c cs', cs = c :: cs' ∧ p.is base c W ∧ PVs base ps cs' W := by
  rcases cs with _ | ⟨c, cs⟩
  · exact h.elim
  · exact ⟨c, cs, rfl, h.1, h.2⟩
theorem PVs.unnil {base : Nat} {W : World} {cs : List Value} (h : PVs base [] cs W) : cs = [] := by
  rcases cs with _ | ⟨c, cs⟩
  · rfl
  · exact h.elim
theorem VTs.uncons {base : Nat} {W : World} {p : VT} {ps : List VT} {cs : List Value} (h : VTs base (p :: ps) cs W) : ∃ c cs', cs = c :: cs' ∧ p.is base c W ∧ VTs base ps cs' W := by
  rcases cs with _ | ⟨c, cs⟩
  · exact h.elim
  · exact ⟨c, cs, rfl, h.1, h.2⟩
theorem VTs.unnil {base : Nat} {W : World} {cs : List Value} (h : VTs base [] cs W) : cs = [] := by
  rcases cs with _ | ⟨c, cs⟩
  · rfl
  · exact h.elim
end Go.Proofs.Ytogiocinhjbdkaa
