/- The abstract machine, 3: what each operation on memory yields. -/
import Derived.Test.YtioejbgdhmiiiaaAM2
namespace Go.Proofs.Ytioejbgdhmiiiaa
open Go.RowKit
set_option linter.unusedVariables false
set_option linter.unusedSimpArgs false
namespace AM
section
variable {P : Program} {ρ : Own} {w : World}
/-! ### Types -/
def sizeL (P : Program) (T : TypeId) : Option (Nat × Bool) := (P.info? T).bind fun i => (P.underlying T).map fun d => (i.size, d.isRow)
def omap {α β : Type} (f : α → Option β) : List α → Option (List β)
  | [] => some []
  | a :: r => match f a, omap f r with
    | some b, some l => some (b :: l)
    | _, _ => none
theorem omap_at {α β : Type} {f : α → Option β} : ∀ {l : List α} {m : List β}, omap f l = some m → m.length = l.length ∧ (∀ (j : Nat) b, m[j]? = some b → ∃ a, l[j]? = some a ∧ f a = some b) ∧ (∀ (j : Nat) a, l[j]? = some a → ∃ b, m[j]? = some b ∧ f a = some b)
  | [], m, h => by cases h; exact ⟨rfl, fun j b hj => by simp at hj, fun j b hj => by simp at hj⟩
  | a :: r, m, h => by
    simp only [omap] at h
    split at h
    · rename_i b l h1 h2
      cases h
      obtain ⟨e, f1, f2⟩ := omap_at h2
      refine ⟨by simp [e], fun j b' hj => ?_, fun j a' hj => ?_⟩
      · cases j with
        | zero => cases hj; exact ⟨a, rfl, h1⟩
        | succ j => exact f1 j b' hj
      · cases j with
        | zero => cases hj; exact ⟨b, rfl, h1⟩
        | succ j => exact f2 j a' hj
    · cases h
def fieldsL (P : Program) (T : TypeId) : Option (List (Nat × Nat × Bool)) := match P.underlying T with
  | some (.struct fs) => omap (fun f => (sizeL P f.type).map fun s => (f.offset, s.1, s.2)) fs.toList
  | _ => none
theorem fieldsL_parts {T : TypeId} {l : List (Nat × Nat × Bool)} (h : fieldsL P T = some l) : ∃ fs, P.underlying T = some (.struct fs) ∧ l.length = fs.size ∧ ∀ (j off k : Nat) (b : Bool), l[j]? = some (off, k, b) → ∃ f, fs[j]? = some f ∧ f.offset = off ∧ sizeL P f.type = some (k, b) := by
  unfold fieldsL at h
  split at h
  · rename_i fs hu
    obtain ⟨e, f1, _⟩ := omap_at h
    refine ⟨fs, hu, by simpa using e, fun j off k b hj => ?_⟩
    obtain ⟨f, h1, h2⟩ := f1 j _ hj
    refine ⟨f, by simpa using h1, ?_⟩
    cases hs : sizeL P f.type with
    | none => rw [hs] at h2; cases h2
    | some s => rw [hs] at h2; cases h2; exact ⟨rfl, rfl⟩
  · cases h
def zeroL (P : Program) (T : TypeId) : Option (List Value) := ((P.info? T).bind (·.zero)).bind fun z => if z.cells.all (·.oneCell') then some z.cells.toList else none
def elemL (P : Program) (T : TypeId) : Option (TypeId × Nat) := match P.underlying T with
  | some (.slice e) => (P.info? e).map fun i => (e, i.size)
  | _ => none
theorem sizeL_parts {T : TypeId} {k : Nat} {b : Bool} (h : sizeL P T = some (k, b)) : ∃ i d, P.info? T = some i ∧ i.size = k ∧ P.underlying T = some d ∧ d.isRow = b := by
  unfold sizeL at h
  cases hi : P.info? T with
  | none => rw [hi] at h; cases h
  | some i =>
    cases hd : P.underlying T with
    | none => rw [hi, hd] at h; cases h
    | some d => rw [hi, hd] at h; cases h; exact ⟨i, d, rfl, rfl, rfl, rfl⟩
theorem elemL_parts {T e : TypeId} {k : Nat} (h : elemL P T = some (e, k)) : ∃ i, P.underlying T = some (.slice e) ∧ P.info? e = some i ∧ i.size = k := by
  unfold elemL at h
  split at h
  · rename_i e' hd
    cases hi : P.info? e' with
    | none => rw [hi] at h; cases h
    | some i => rw [hi] at h; cases h; exact ⟨i, hd, hi, rfl⟩
  · cases h
theorem zeroL_parts {T : TypeId} {l : List Value} (h : zeroL P T = some l) : ∃ i z, P.info? T = some i ∧ i.zero = some z ∧ z.cells.toList = l ∧ ∀ v ∈ l, v.oneCell' = true := by
  unfold zeroL at h
  cases hi : P.info? T with
  | none => rw [hi] at h; cases h
  | some i =>
    cases hz : i.zero with
    | none => simp [hi, hz] at h
    | some z =>
      simp only [hi, hz, Option.bind_some] at h
      split at h
      · rename_i hc
        cases h
        exact ⟨i, z, rfl, hz, rfl, fun v hv => by simpa using Array.all_eq_true_iff_forall_mem.1 hc v (by simpa using hv)⟩
      · cases h
/-! ### Cells -/
def CellsR (ρ : Own) (w : World) (cs : List CV) (vs : Array Value) : Prop := vs.size = cs.length ∧ ∀ (j : Nat) c, cs[j]? = some c → ∃ u, vs[j]? = some u ∧ CR ρ w c u ∧ u.oneCell' = true
def cellsA : AV → Option (List CV)
  | .a (.one c) => some [c]
  | .a (.agg cs) => some cs
  | _ => none
theorem cells_one {v : Value} (h : v.oneCell' = true) : v.cells = #[v] := by cases v <;> first | rfl | cases h
theorem cellsA_R {x : AV} {v : Value} {cs : List CV} (h : AR ρ w x v) (hc : cellsA x = some cs) : CellsR ρ w cs v.cells := by
  cases x with
  | a y =>
    cases y with
    | one c =>
      cases hc
      rw [cells_one h.2]
      refine ⟨rfl, fun j c' hj => ?_⟩
      cases j with
      | zero => cases hj; exact ⟨v, rfl, h.1, h.2⟩
      | succ j => simp at hj
    | agg cs' => cases hc; obtain ⟨vs, rfl, h1, h2⟩ := h; exact ⟨h1, h2⟩
  | tup xs => cases hc
  | und => cases hc
theorem CellsR.lit {l : List Value} (h : ∀ v ∈ l, v.oneCell' = true) : CellsR ρ w (l.map fun v => .p (.val v)) l.toArray := by
  refine ⟨by simp, fun j c hj => ?_⟩
  rw [List.getElem?_map] at hj
  cases hv : l[j]? with
  | none => rw [hv] at hj; cases hj
  | some u => rw [hv] at hj; cases hj; exact ⟨u, by simpa using hv, .val u, h u (List.mem_of_getElem? hv)⟩
theorem CellsR.set {cs : List CV} {vs : Array Value} (h : CellsR ρ w cs vs) (k : Nat) {c : CV} {u : Value} (hc : CR ρ w c u) (h1 : u.oneCell' = true) : CellsR ρ w (cs.set k c) (vs.setIfInBounds k u) := by
  refine ⟨by simpa using h.1, fun j c' hj => ?_⟩
  rw [List.getElem?_set] at hj
  by_cases e : k = j
  · subst e
    split at hj
    · split at hj
      · rename_i hlt
        cases hj
        exact ⟨u, by rw [Array.getElem?_setIfInBounds_self_of_lt (by rw [h.1]; exact hlt)], hc, h1⟩
      · cases hj
    · rename_i hne; exact absurd rfl hne
  · rw [if_neg e] at hj
    obtain ⟨u', h2, h3⟩ := h.2 j c' hj
    exact ⟨u', by rw [Array.getElem?_setIfInBounds_ne e]; exact h2, h3⟩
/-- Cells written over, from an offset on. -/
def over (cs : List CV) (off : Nat) : List CV → List CV
  | [] => cs
  | c :: r => over (cs.set off c) (off + 1) r
theorem over_len : ∀ (l cs : List CV) (off : Nat), (over cs off l).length = cs.length
  | [], _, _ => rfl
  | c :: r, cs, off => by simp only [over]; rw [over_len r]; simp
theorem CellsR.over {off : Nat} : ∀ (l : List CV) (us : List Value) (k : Nat) (cs : List CV) (vs : Array Value), CellsR ρ w cs vs → us.length = l.length → (∀ (j : Nat) c, l[j]? = some c → ∃ u, us[j]? = some u ∧ CR ρ w c u ∧ u.oneCell' = true) →
    CellsR ρ w (AM.over cs (off + k) l) ((us.zipIdx k).foldl (fun cs (c, j) => cs.setIfInBounds (off + j) c) vs)
  | [], us, k, cs, vs, h, hl, _ => by
    have : us = [] := List.length_eq_zero_iff.1 hl
    subst this
    exact h
  | c :: r, [], k, cs, vs, h, hl, _ => by simp at hl
  | c :: r, u :: us, k, cs, vs, h, hl, hc => by
    obtain ⟨u', h1, h2, h3⟩ := hc 0 c rfl
    cases h1
    have := CellsR.over (off := off) r us (k + 1) (cs.set (off + k) c) (vs.setIfInBounds (off + k) u) (h.set _ h2 h3) (by simpa using hl) (fun j c' hj => hc (j + 1) c' hj)
    rw [← Nat.add_assoc] at this
    simpa [AM.over, List.zipIdx_cons] using this
def fillA (place : Nat → Option (Nat × Nat)) (cells : List CV) : List (Nat × List CV) → Option (List CV)
  | [] => some cells
  | (i, v) :: rest => match place i with
    | none => none
    | some (off, size) => if v.length = size ∧ off + v.length ≤ cells.length then fillA place (over cells off v) rest else none
theorem fillA_R (place : Nat → Option (Nat × Nat)) : ∀ (ps : List (Nat × List CV)) (vs : List (Nat × Value)) (cs : List CV) (us : Array Value) (out : List CV), CellsR ρ w cs us → vs.map (·.1) = ps.map (·.1) →
    (∀ (j : Nat) p q, ps[j]? = some p → vs[j]? = some q → CellsR ρ w p.2 q.2.cells) → fillA place cs ps = some out → ∃ o, Instr.fill place us vs = some o ∧ CellsR ρ w out o
  | [], vs, cs, us, out, h, hl, _, he => by
    have : vs = [] := by simpa using hl
    subst this
    cases he
    exact ⟨us, rfl, h⟩
  | (i, l) :: ps, [], cs, us, out, h, hl, _, _ => by simp at hl
  | (i, l) :: ps, (i', v) :: vs, cs, us, out, h, hl, hc, he => by
    have e : i' = i := by simp at hl; exact hl.1
    subst e
    have h0 := hc 0 (i', l) (i', v) rfl rfl
    simp only [fillA] at he
    split at he
    · cases he
    · rename_i off size hp
      split at he
      · rename_i hb
        have hn : v.cells.size = l.length := h0.1
        have ho := CellsR.over (off := off) l v.cells.toList 0 cs us h (by simpa using hn) (fun j c hj => by obtain ⟨u, h1, h2⟩ := h0.2 j c hj; exact ⟨u, by simpa using h1, h2⟩)
        obtain ⟨o, h1, h2⟩ := fillA_R place ps vs _ _ out ho (by simp at hl; exact hl) (fun j p q hj hq => hc (j + 1) p q hj hq) (by simpa using he)
        refine ⟨o, ?_, h2⟩
        simp only [Instr.fill, hp]
        have c1 : ¬ (v.cells.size ≠ size ∨ off + v.cells.size > us.size) := by rw [hn, h.1]; omega
        have c2 : (decide (v.cells.size ≠ size) || decide (off + v.cells.size > us.size)) = false := by simpa using c1
        simp only [ne_eq, gt_iff_lt, Bool.or_eq_true, decide_eq_true_eq] at c1 ⊢
        rw [if_neg c1]
        rw [← Array.foldl_toList, Array.toList_zipIdx]
        exact h1
      · cases he
end
end AM
end Go.Proofs.Ytioejbgdhmiiiaa
