/- append of rows that are read onto rows of the call's own, or onto an empty slice without room. -/
import Derived.Test.YtogiocinhjbdkaaOwnRow
import Derived.Laws.OwnMore
import Derived.Laws.AppendOwn
import Derived.Deep.AppendSrc
import Derived.Tactics
namespace Go.Proofs.Ytogiocinhjbdkaa
open Go.RowKit
set_option linter.unusedVariables false
/-- A row of the call's own, or an empty slice without room, wherever it points. -/
def Ownd (W : World) (B : Nat) (T : TypeId) (m : Nat) (v : Value) (xs : List (Array Value)) : Prop :=
  W.ownsRow B T m v xs.length (xs.flatMap (·.toList)) ∨ (xs = [] ∧ ∃ a, v = .slice a 0 0)
/-- The own block that a slice lies in. -/
def OB (B : Nat) (v : Value) (k : Nat) : Prop := B ≤ k ∧ v.ownBlock = some k
theorem Ownd.form {W : World} {B : Nat} {T : TypeId} {m : Nat} {v : Value} {xs : List (Array Value)} (h : Ownd W B T m v xs) : ∃ a c, v = .slice a xs.length c := by
  rcases h with ⟨_, ⟨rfl, h⟩ | ⟨g, cap, cur, rfl, _⟩⟩ | ⟨rfl, a, rfl⟩
  · exact ⟨none, 0, by rw [h]⟩
  · exact ⟨_, _, rfl⟩
  · exact ⟨a, 0, rfl⟩
theorem Ownd.nil (W : World) (B : Nat) (T : TypeId) (m : Nat) (a : Option Addr) : Ownd W B T m (.slice a 0 0) [] := .inr ⟨rfl, a, rfl⟩
theorem Ownd.row {W : World} {B : Nat} {T : TypeId} {m : Nat} {v : Value} {xs : List (Array Value)} (h : Ownd W B T m v xs) (hs : ∀ x ∈ xs, x.size = m) : Row W (Rng B W.heap.size) T m v xs := by
  rcases h with h | ⟨rfl, a, rfl⟩
  · exact Row.of_own h rfl hs
  · exact Row.nil _ _ _ _ a 0
theorem Ownd.kept {W W' : World} {B : Nat} {T : TypeId} {m : Nat} {v : Value} {xs : List (Array Value)} {S : Nat → Prop} (h : Ownd W B T m v xs) (ht : Touch W W' S) (hS : ∀ k, OB B v k → ¬ S k) : Ownd W' B T m v xs := by
  rcases h with ⟨hl, h | ⟨g, cap, cur, rfl, hb, hg, r⟩⟩ | h
  · exact .inl ⟨hl, .inl h⟩
  · exact .inl ⟨hl, .inr ⟨g, cap, cur, rfl, hb, (ht.block g (Array.getElem?_eq_some_iff.1 hg).1 (hS g ⟨hb, rfl⟩)).trans hg, r⟩⟩
  · exact .inr h
theorem Ownd.later {W W' : World} {B : Nat} {T : TypeId} {m : Nat} {v : Value} {xs : List (Array Value)} (h : Ownd W B T m v xs) (hb : Below W.heap.size W W') : Ownd W' B T m v xs := by
  rcases h with ⟨hl, h | ⟨g, cap, cur, rfl, hbg, hg, r⟩⟩ | h
  · exact .inl ⟨hl, .inl h⟩
  · exact .inl ⟨hl, .inr ⟨g, cap, cur, rfl, hbg, (hb.block g (Array.getElem?_eq_some_iff.1 hg).1).trans hg, r⟩⟩
  · exact .inr h
theorem Ownd.base {W : World} {B B' : Nat} {T : TypeId} {m : Nat} {v : Value} {xs : List (Array Value)} (h : Ownd W B T m v xs) (hb : B' ≤ B) : Ownd W B' T m v xs := by
  rcases h with h | h
  · exact .inl (base_le h hb)
  · exact .inr h
theorem Ownd.under {W W' : World} {B D : Nat} {T : TypeId} {m : Nat} {v : Value} {xs : List (Array Value)} (h : Ownd W B T m v xs) (hb : Below D W W') (hv : ∀ k, v.ownBlock = some k → k < D) : Ownd W' B T m v xs := by
  rcases h with ⟨hl, h | ⟨g, cap, cur, rfl, hbg, hg, r⟩⟩ | h
  · exact .inl ⟨hl, .inl h⟩
  · exact .inl ⟨hl, .inr ⟨g, cap, cur, rfl, hbg, (hb.block g (hv g rfl)).trans hg, r⟩⟩
  · exact .inr h
theorem Ownd.set {W : World} {B b j : Nat} {T : TypeId} {m : Nat} {v u : Value} {xs : List (Array Value)} (h : Ownd W B T m v xs) (hb : b < B) : Ownd (W.setCell ⟨b, j, none⟩ u) B T m v xs := by
  rcases h with h | h
  · exact .inl (owns_set h hb)
  · exact .inr h
theorem OB.below {A W W' : World} {B : Nat} {v : Value} (h : Below A.heap.size A W) (ht : Touch W W' (OB B v)) (hB : A.heap.size ≤ B) : Below A.heap.size A W' := below_touch h ht (fun k hk => Nat.le_trans hB hk.1)
theorem Row.ob {W W' : World} {S : Nat → Prop} {m B : Nat} {T : TypeId} {v v' : Value} {xs : List (Array Value)} (h : Row W S T m v xs) (ht : Touch W W' (OB B v')) (hd : ∀ k, S k → k < B) : Row W' S T m v xs := h.touch ht (fun k hk hh => by have := hd k hk; have := hh.1; omega)
theorem View.ob {W W' : World} {a : Option Addr} {g m B : Nat} {xs : List (Array Value)} {v' : Value} (h : View W a g m xs) (ht : Touch W W' (OB B v')) (hg : xs ≠ [] → g < B) : View W' a g m xs := by
  refine ⟨fun hx => ⟨(h.1 hx).1, Nat.lt_of_lt_of_le (h.1 hx).2 ht.size⟩, fun i x hx j hj => ?_⟩
  have hne : xs ≠ [] := fun e => by rw [e] at hx; simp at hx
  rw [World.cell?_of_block (a := ⟨g, i * m + j, none⟩) (ht.block g (h.1 hne).2 (fun hh => by have := hh.1; have := hg hne; omega))]
  exact h.2 i x hx j hj
theorem flat_cell {m : Nat} (hm : 0 < m) (xs : List (Array Value)) (hs : ∀ x ∈ xs, x.size = m) (j : Nat) (u : Value) (h : (xs.flatMap (·.toList))[j]? = some u) : ∃ i x, xs[i]? = some x ∧ j % m < m ∧ j = i * m + j % m ∧ x[j % m]? = some u := by
  have hl := flat_length m xs hs
  have hj : j < xs.length * m := by rw [← hl]; exact (List.getElem?_eq_some_iff.1 h).1
  have hi : j / m < xs.length := (Nat.div_lt_iff_lt_mul hm).2 hj
  have e := flat_at m xs hs (j / m) xs[j / m] (by simp [hi]) (j % m) (Nat.mod_lt _ hm)
  rw [Nat.div_add_mod'] at e
  exact ⟨j / m, xs[j / m], by simp [hi], Nat.mod_lt _ hm, (Nat.div_add_mod' j m).symm, by rw [← e]; exact h⟩
/-- The elements of a viewed row from k on. -/
def ViewAt (W : World) (a : Option Addr) (g o m : Nat) (xs : List (Array Value)) : Prop :=
  (xs ≠ [] → a = some ⟨g, o * m, none⟩ ∧ g < W.heap.size) ∧ ∀ i x, xs[i]? = some x → ∀ j, j < m → W.cell? ⟨g, (o + i) * m + j, none⟩ = x[j]?
theorem View.at0 {W : World} {a : Option Addr} {g m : Nat} {xs : List (Array Value)} (h : View W a g m xs) : ViewAt W a g 0 m xs := ⟨fun hx => by rw [Nat.zero_mul]; exact h.1 hx, fun i x hx j hj => by rw [Nat.zero_add]; exact h.2 i x hx j hj⟩
theorem View.drop {W : World} {a : Option Addr} {g m : Nat} {xs : List (Array Value)} (h : View W a g m xs) (k : Nat) (a' : Option Addr) (ha : k < xs.length → a' = some ⟨g, k * m, none⟩) : ViewAt W a' g k m (xs.drop k) := by
  refine ⟨fun hx => ?_, fun i x hx j hj => h.2 (k + i) x (by rw [← List.getElem?_drop]; exact hx) j hj⟩
  have hk : k < xs.length := by rcases Nat.lt_or_ge k xs.length with h1 | h1; exact h1; exact absurd (List.drop_eq_nil_of_le h1) hx
  exact ⟨ha hk, (h.1 (fun e => by rw [e] at hk; simp at hk)).2⟩
theorem ViewAt.later {W W' : World} {a : Option Addr} {g o m : Nat} {xs : List (Array Value)} (h : ViewAt W a g o m xs) (hb : Below W.heap.size W W') : ViewAt W' a g o m xs := by
  refine ⟨fun hx => ⟨(h.1 hx).1, Nat.lt_of_lt_of_le (h.1 hx).2 hb.size⟩, fun i x hx j hj => ?_⟩
  have hne : xs ≠ [] := fun e => by rw [e] at hx; simp at hx
  rw [hb.cell (p := ⟨g, (o + i) * m + j, none⟩) (h.1 hne).2]
  exact h.2 i x hx j hj
/-- What reslicing gives. -/
theorem sliced_to (a : Option Addr) (k c s : Nat) : sliced a 0 k c s = .slice a k c := by
  unfold sliced
  have : a.map (·.add (0 * s)) = a := by cases a with | none => rfl | some x => simp [Addr.add]
  rw [this]; split <;> simp
theorem sliced_from {W : World} {a : Option Addr} {g m n c k : Nat} {xs : List (Array Value)} (hV : View W a g m xs) (hn : n = xs.length) (hc : n ≤ c) (hk : k ≤ n) :
    ∃ a', sliced a k n c m = .slice a' (n - k) (c - k) ∧ ViewAt W a' g k m (xs.drop k) := by
  refine ⟨_, rfl, hV.drop k _ fun hlt => ?_⟩
  have h1 := (hV.1 (fun e => by rw [e] at hlt; simp at hlt)).1
  rw [if_neg (by omega), h1]
  simp [Addr.add]
  first | done | exact fun e => e.symm
theorem View.take {W : World} {a : Option Addr} {g m : Nat} {xs : List (Array Value)} (hV : View W a g m xs) (k : Nat) : View W a g m (xs.take k) := by
  refine ⟨fun h => hV.1 (fun e => h (by rw [e]; simp)), fun i x hx j hj => hV.2 i x ?_ j hj⟩
  rw [List.getElem?_take] at hx
  split at hx
  · exact hx
  · cases hx
section
variable {P : Program}
theorem run_append_empty {w : World} {B : Nat} {t ty e : TypeId} {i : TypeInfo} {m : Nat} (ht : P.underlying t = some (.slice e)) (hi : P.info? e = some i) {v : Value} {xs : List (Array Value)} (hown : Ownd w B e m v xs) (a : Option Addr) (c : Nat) :
    (Builtin.append_ #[t, t] ty #[v, .slice a 0 c]).run P w = .ok v w := by
  rcases hown with ⟨_, ⟨rfl, hn⟩ | ⟨g, cap, cur, rfl, _, _, hnc, _⟩⟩ | ⟨rfl, a', rfl⟩
  · cases a <;> simp [Builtin.append_, run_underlying ht, sizeOf, typeInfo, hi, Builtin.lenOf, Builtin.firstCells, loadCells, loadCellsFrom]
  · cases a <;> simp [Builtin.append_, run_underlying ht, sizeOf, typeInfo, hi, Builtin.lenOf, Builtin.firstCells, hnc, storeCells, loadCells, loadCellsFrom]
  · cases a <;> cases a' <;> simp [Builtin.append_, run_underlying ht, sizeOf, typeInfo, hi, Builtin.lenOf, Builtin.firstCells, storeCells, loadCells, loadCellsFrom]
theorem run_append_g {w : World} {B : Nat} {t ty e : TypeId} {i : TypeInfo} {z : Value} {m bytes : Nat} (ht : P.underlying t = some (.slice e)) (hi : P.info? e = some i) (hz : i.zero = some z)
    (hsize : i.size = m) (hby : i.bytes = bytes) (hzs : z.cells.size = m) (hm : 0 < m) {v : Value} {xs : List (Array Value)} (hown : Ownd w B e m v xs)
    {a : Option Addr} {g o : Nat} (c : Nat) {ys : List (Array Value)} (hV : ViewAt w a g o m ys) (hs : ∀ y ∈ ys, y.size = m) (h1 : ∀ y ∈ ys, ∀ u ∈ y.toList, u.oneCell' = true)
    (h63 : xs.length + ys.length ≤ maxLen) (hbytes : (xs.length + ys.length) * bytes ≤ 140737488355328) (hbase : B ≤ w.heap.size) :
    ∃ v' w', (Builtin.append_ #[t, t] ty #[v, .slice a ys.length c]).run P w = .ok v' w' ∧ Ownd w' B e m v' (xs ++ ys) ∧ Touch w w' (OB B v) := by
  by_cases hys : ys = []
  · subst hys
    refine ⟨v, w, run_append_empty ht hi hown a c, by simpa using hown, Touch.refl _ _⟩
  · obtain ⟨rfl, hg⟩ := hV.1 hys
    have hl := flat_length m ys hs
    have hcells : ∀ j u, (ys.flatMap (·.toList))[j]? = some u → w.cell? ((⟨g, o * m, none⟩ : Addr).add j) = some u := fun j u hu => by
      obtain ⟨i', x, h2, h3, h4, h5⟩ := flat_cell hm ys hs j u hu
      rw [Addr.add_mid]
      rw [show o * m + j = (o + i') * m + j % m by rw [Nat.add_mul]; omega, hV.2 i' x h2 (j % m) h3]
      exact h5
    have hone : ∀ u ∈ ys.flatMap (·.toList), u.oneCell' = true := fun u hu => by
      obtain ⟨x, hx, hu⟩ := List.mem_flatMap.1 hu
      exact h1 x hx u hu
    rcases hown with hown | ⟨rfl, a', rfl⟩
    · obtain ⟨v', w', hr, h2, h3, _⟩ := run_append_own (P := P) w B t ty e i z m bytes ht hi hz hsize hby hzs hm v xs.length _ hown _ ys.length c _ hl hcells hone h63 hbytes hbase
      refine ⟨v', w', hr, .inl (by simpa using h2), ⟨h3.os, h3.tape, h3.output, h3.size, fun k hk hc => h3.block k hk (fun e => ?_)⟩⟩
      have hlt := hown.lt k e.symm
      exact hc ⟨hlt.1, e.symm⟩
    · subst hsize
      subst hby
      have hsrc : Src P i.size t (.slice (some ⟨g, o * i.size, none⟩) ys.length c) ys.length (ys.flatMap (·.toList)) w := Src.ofSlice w ht _ _ c _ hl hcells hone
      have hpos : 0 < ys.length := by rcases ys with _ | ⟨y, r⟩; exact absurd rfl hys; simp
      have hold : (Builtin.firstCells i.size 0 (.slice a' 0 0)).run P w.drew = .ok ([] : List Value).toArray w.drew := by
        cases a' <;> simp [Builtin.firstCells, loadCells, loadCellsFrom]
      simp only [List.length_nil, Nat.zero_add] at h63 hbytes
      have hsm : ys.length ≤ 9223372036854775807 := by simp only [maxLen] at h63; omega
      have hr := run_append_grow_src (P := P) w t t ty e i z ht hi hz a' 0 0 [] hold _ ys.length _ hsrc (by omega) (by omega) (by
        rw [Nat.zero_add]; exact growslice_fits (old := 0) (by omega) hbytes)
      refine ⟨_, _, hr, .inl ?_, ⟨rfl, rfl, rfl, by simp, fun k hk _ => heap_alloc_old w.drew _ hk⟩⟩
      have hge := grownCap_ge w (0 + ys.length) 0 e
      have hcm : grownCap w (0 + ys.length) 0 e ≤ maxLen := grownCap_le_maxLen w (0 + ys.length) 0 e (by omega)
      simp only [List.nil_append]
      refine ⟨by rw [hl], .inr ⟨w.heap.size, _, _, by rw [Nat.zero_add], hbase, heap_alloc_new w.drew _, by omega, hcm, ?_, ?_⟩⟩
      · simp only [Array.size_append, List.size_toArray, size_zeroCells, hzs, hl, ← Nat.add_mul]
        congr 1
        omega
      · simp only [Array.toList_append]
        rw [← hl]
        exact List.take_left
theorem wpList_append_g {ops : Array Oper} {rest : List Oper} {op : Oper} {b : Act} {w : World} {Q : Exit → Act → World → Prop} (hgd : op.guard = none) (s x : Operand) (t : TypeId)
    (ho : op.op = .call { callee := .builtin .append, args := #[s, x], argTypes := #[t, t] })
    {B : Nat} (e : TypeId) (i : TypeInfo) (z : Value) (m bytes : Nat) (ht : P.underlying t = some (.slice e)) (hi : P.info? e = some i) (hz : i.zero = some z)
    (hsize : i.size = m) (hby : i.bytes = bytes) (hzs : z.cells.size = m) (hm : 0 < m) {v : Value} {xs : List (Array Value)} (hsv : b.eval s = v) (hown : Ownd w B e m v xs)
    {a : Option Addr} {g o : Nat} (c : Nat) {ys : List (Array Value)} (hx : b.eval x = .slice a ys.length c) (hV : ViewAt w a g o m ys) (hs : ∀ y ∈ ys, y.size = m) (h1 : ∀ y ∈ ys, ∀ u ∈ y.toList, u.oneCell' = true)
    (h63 : xs.length + ys.length ≤ maxLen) (hbytes : (xs.length + ys.length) * bytes ≤ 140737488355328) (hbase : B ≤ w.heap.size)
    (h : ∀ v' w', Ownd w' B e m v' (xs ++ ys) → Touch w w' (OB B v) → wpList P ops Q rest (b.put op.dst v') w') : wpList P ops Q (op :: rest) b w := by
  refine wpList_plain hgd fun K hK => ?_
  obtain ⟨v', w', hr, h2, h3⟩ := run_append_g (P := P) (ty := op.type) ht hi hz hsize hby hzs hm hown c hV hs h1 h63 hbytes hbase
  unfold Oper.wp execOp
  simp only [ho, resolve, invoke, builtin, Sem.run_bind, Sem.run_pure, Result.andThen_ok, List.map_toArray, List.map_cons, List.map_nil, hsv, hx, hr]
  exact hK _ _ (h v' w' h2 h3)
/-- A type of slices: its elements have m cells each. -/
structure Elm (P : Program) (t e : TypeId) (m : Nat) : Prop where
  und : P.underlying t = some (.slice e)
  info : (P.info? e).map (fun i => (i.zero.map (·.cells.size), i.size, decide (i.bytes ≤ 65536))) = some (some m, m, true)
  pos : 0 < m
theorem Elm.parts {t e : TypeId} {m : Nat} (E : Elm P t e m) : ∃ i z, P.info? e = some i ∧ i.zero = some z ∧ i.size = m ∧ z.cells.size = m ∧ i.bytes ≤ 65536 := by
  have h := E.info
  cases hi : P.info? e with
  | none => rw [hi] at h; simp at h
  | some i =>
    rw [hi] at h
    simp at h
    obtain ⟨⟨z, h1, h2⟩, h3, h4⟩ := h
    exact ⟨i, z, rfl, h1, h3, h2, h4⟩
/-- The elements' cells: m each, each of one cell. -/
structure El {α : Type} (arr : α → Array Value) (m : Nat) : Prop where
  size : ∀ x, (arr x).size = m
  one : ∀ x, ∀ u ∈ (arr x).toList, u.oneCell' = true
theorem El.sizes {α : Type} {arr : α → Array Value} {m : Nat} (h : El arr m) (l : List α) : ∀ y ∈ l.map arr, y.size = m := fun y hy => by
  obtain ⟨x, _, rfl⟩ := List.mem_map.1 hy
  exact h.size x
theorem El.ones {α : Type} {arr : α → Array Value} {m : Nat} (h : El arr m) (l : List α) : ∀ y ∈ l.map arr, ∀ u ∈ y.toList, u.oneCell' = true := fun y hy => by
  obtain ⟨x, _, rfl⟩ := List.mem_map.1 hy
  exact h.one x
theorem run_append_e {w : World} {B : Nat} {t ty e : TypeId} {m : Nat} (E : Elm P t e m) {α : Type} {arr : α → Array Value} (A : El arr m) {v : Value} {xs : List α} (hown : Ownd w B e m v (xs.map arr))
    {a : Option Addr} {g o : Nat} (c : Nat) {ys : List α} (hV : ViewAt w a g o m (ys.map arr)) (hn : xs.length + ys.length ≤ 8388608) (hbase : B ≤ w.heap.size) :
    ∃ v' w', (Builtin.append_ #[t, t] ty #[v, .slice a ys.length c]).run P w = .ok v' w' ∧ Ownd w' B e m v' ((xs ++ ys).map arr) ∧ Touch w w' (OB B v) := by
  obtain ⟨i, z, h1, h2, h3, h4, h5⟩ := E.parts
  have := run_append_g (P := P) (ty := ty) E.und h1 h2 h3 rfl h4 E.pos hown c hV (A.sizes ys) (A.ones ys) (by simp only [List.length_map]; unfold maxLen; omega) (by
    simp only [List.length_map]
    have := Nat.mul_le_mul hn h5
    omega) hbase
  simpa using this
theorem wpList_append_e {ops : Array Oper} {rest : List Oper} {op : Oper} {b : Act} {w : World} {Q : Exit → Act → World → Prop} (hgd : op.guard = none) (s x : Operand) {t : TypeId}
    (ho : op.op = .call { callee := .builtin .append, args := #[s, x], argTypes := #[t, t] })
    {B : Nat} {e : TypeId} {m : Nat} (E : Elm P t e m) {α : Type} {arr : α → Array Value} (A : El arr m) {v : Value} {xs : List α} (hsv : b.eval s = v) (hown : Ownd w B e m v (xs.map arr))
    {a : Option Addr} {g o : Nat} (c : Nat) {ys : List α} (hx : b.eval x = .slice a ys.length c) (hV : ViewAt w a g o m (ys.map arr)) (hn : xs.length + ys.length ≤ 8388608) (hbase : B ≤ w.heap.size)
    (h : ∀ v' w', Ownd w' B e m v' ((xs ++ ys).map arr) → Touch w w' (OB B v) → wpList P ops Q rest (b.put op.dst v') w') : wpList P ops Q (op :: rest) b w := by
  refine wpList_plain hgd fun K hK => ?_
  obtain ⟨v', w', hr, h2, h3⟩ := run_append_e (P := P) (ty := op.type) E A hown c hV hn hbase
  unfold Oper.wp execOp
  simp only [ho, resolve, invoke, builtin, Sem.run_bind, Sem.run_pure, Result.andThen_ok, List.map_toArray, List.map_cons, List.map_nil, hsv, hx, hr]
  exact hK _ _ (h v' w' h2 h3)
theorem wp_append_e {op : Oper} {b : Act} {w : World} {K : Act → World → Prop} {Q : Exit → Act → World → Prop} (s x : Operand) {t : TypeId}
    (ho : op.op = .call { callee := .builtin .append, args := #[s, x], argTypes := #[t, t] })
    {B : Nat} {e : TypeId} {m : Nat} (E : Elm P t e m) {α : Type} {arr : α → Array Value} (A : El arr m) {v : Value} {xs : List α} (hsv : b.eval s = v) (hown : Ownd w B e m v (xs.map arr))
    {a : Option Addr} {g o : Nat} (c : Nat) {ys : List α} (hx : b.eval x = .slice a ys.length c) (hV : ViewAt w a g o m (ys.map arr)) (hn : xs.length + ys.length ≤ 8388608) (hbase : B ≤ w.heap.size)
    (h : ∀ v' w', Ownd w' B e m v' ((xs ++ ys).map arr) → Touch w w' (OB B v) → K (b.put op.dst v') w') : op.wp P b w K Q := by
  obtain ⟨v', w', hr, h2, h3⟩ := run_append_e (P := P) (ty := op.type) E A hown c hV hn hbase
  unfold Oper.wp execOp
  simp only [ho, resolve, invoke, builtin, Sem.run_bind, Sem.run_pure, Result.andThen_ok, List.map_toArray, List.map_cons, List.map_nil, hsv, hx, hr]
  exact h v' w' h2 h3
end
/-- What a literal of one element holds. -/
theorem ViewAt.lit {W : World} {g m : Nat} {T : TypeId} {cs : Array Value} (h : Box W g cs T) : ViewAt W (some ⟨g, 0, none⟩) g 0 m [cs] :=
  ⟨fun _ => ⟨by rw [Nat.zero_mul], h.lt⟩, fun i x hx j hj => by
    rcases i with _ | i
    · obtain rfl : cs = x := by simpa using hx
      rw [Nat.add_zero, Nat.zero_mul, Nat.zero_add, cell_of_row W g j cs T (0, 0) h]
    · simp at hx⟩
/-- What an own row holds. -/
theorem Ownd.view {W : World} {B : Nat} {T : TypeId} {m : Nat} {v : Value} {xs : List (Array Value)} (h : Ownd W B T m v xs) (hs : ∀ x ∈ xs, x.size = m) : ∃ a g c, v = .slice a xs.length c ∧ View W a g m xs ∧ (xs ≠ [] → B ≤ g) := by
  obtain ⟨a, g, c, e, hV, hS⟩ := (h.row hs).open
  exact ⟨a, g, c, e, hV, fun hx => (hS hx).1⟩
end Go.Proofs.Ytogiocinhjbdkaa
