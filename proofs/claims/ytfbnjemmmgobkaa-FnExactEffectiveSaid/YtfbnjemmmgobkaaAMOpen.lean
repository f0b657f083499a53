/- Arguments that came in, as memory that is read alone: rows, and a law's walk over them. -/
import Derived.Test.YtfbnjemmmgobkaaAM23
import Derived.Test.YtfbnjemmmgobkaaOpen
import Derived.Deep.Slices
namespace Go.Proofs.Ytfbnjemmmgobkaa
open Go.Joins Go.ChangeShapes Go.WideShapes Go.RowKit Go.Deep AM
set_option linter.unusedVariables false
set_option linter.unusedSimpArgs false
/-- The cells of an element. -/
def ElPV (w : World) (cs : List Value) (ps : List PV) : Prop := cs.length = ps.length ∧ ∀ (j : Nat) v p, cs[j]? = some v → ps[j]? = some p → PR (Lt w) w p v ∧ v.oneCell' = true
theorem elPV_nil {w : World} : ElPV w [] [] := ⟨rfl, fun j v p h => by simp at h⟩
theorem elPV_val {w : World} {v : Value} {cs : List Value} {ps : List PV} (ho : v.oneCell' = true) (hr : ElPV w cs ps) : ElPV w (v :: cs) (.val v :: ps) := by
  refine ⟨by simp [hr.1], fun j u p h1 h2 => ?_⟩
  cases j with
  | zero => cases h1; cases h2; exact ⟨.val _, ho⟩
  | succ j => exact hr.2 j u p (by simpa using h1) (by simpa using h2)
theorem elPV_cons {w : World} {v : Value} {p : PV} {cs : List Value} {ps : List PV} (hp : PR (Lt w) w p v) (ho : v.oneCell' = true) (hr : ElPV w cs ps) : ElPV w (v :: cs) (p :: ps) := by
  refine ⟨by simp [hr.1], fun j u p h1 h2 => ?_⟩
  cases j with
  | zero => cases h1; cases h2; exact ⟨hp, ho⟩
  | succ j => exact hr.2 j u p (by simpa using h1) (by simpa using h2)
section
variable {P : Program} {H : Type} {enc : TypeId × Value → H} {w : World} {base : Nat} {spare : Nat → Bool} {held : Bool}
/-- A slice, its elements opened by hel. -/
theorem open_view {α : Type} {pv : α → List PV} {Wf : α → Prop} {t e : TypeId} {m fuel : Nat} {c : Value} {x : DataW H × List MemPlace} (ht : P.underlying t = some (.slice e)) (hm : P.cellsOf e = m) (hm0 : 0 < m) (hlen : ∀ z, (pv z).length = m)
    (hel : ∀ n cs y, DataW.trod enc P w base spare held n e cs = some y → ∃ z : α, ElPV w cs (pv z) ∧ Wf z)
    (h : DataW.trod enc P w base spare held fuel t [c] = some x) :
    ∃ l : List α, PR (Lt w) w (.view m (l.map pv)) c ∧ c.oneCell' = true ∧ l.length ≤ maxLen ∧ ∀ z ∈ l, Wf z := by
  rcases open_slice ht h with ⟨hcs, _⟩ | ⟨a, len, cap, q, n, D, Pl, hcs, hb, hl, hmx, hq, _, hx⟩
  · obtain rfl : c = .slice none 0 0 := by simpa using hcs
    exact ⟨[], .nil m none 0, rfl, Nat.zero_le _, fun z hz => by simp at hz⟩
  obtain rfl : c = .slice (some a) len cap := by simpa using hcs
  have hql : len ≤ q := by rw [hq]; split <;> omega
  have key : ∀ k, k ≤ len → ∃ l : List α, l.length = k ∧ ∀ (i : Nat) z, l[i]? = some z → Wf z ∧ ∃ cs, ElPV w cs (pv z) ∧ cs.length = m ∧ ∀ j, j < m → w.cell? ((a.add (i * m)).add j) = cs[j]? := by
    intro k
    induction k with
    | zero => intro _; exact ⟨[], rfl, fun i z hz => by simp at hz⟩
    | succ k ih =>
      intro hk
      obtain ⟨l, hlen', hE⟩ := ih (by omega)
      obtain ⟨cs', h1, h2⟩ := hx k (by omega)
      obtain ⟨z, hz, hwf⟩ := hel n cs' _ h2
      obtain ⟨_, hsz, hc⟩ := World.cells?_some h1
      rw [hm] at hsz hc
      refine ⟨l ++ [z], by simp [hlen'], fun i z' hi => ?_⟩
      by_cases hlt : i < l.length
      · rw [List.getElem?_append_left hlt] at hi
        exact hE i z' hi
      · have hil : i = l.length := by
          have := (List.getElem?_eq_some_iff.1 hi).1
          simp at this; omega
        subst hil
        obtain rfl : z = z' := by simpa using hi
        refine ⟨hwf, cs', hz, hsz, fun j hj => ?_⟩
        rw [hlen']
        exact hc j hj
  obtain ⟨l, hlen', hE⟩ := key len (Nat.le_refl _)
  refine ⟨l, ?_, rfl, by omega, fun z hz => ?_⟩
  · by_cases hl0 : l = []
    · subst hl0
      have : len = 0 := by simpa using hlen'.symm
      subst this
      exact .nil m _ _
    · have hsome : ∀ (i j : Nat) (row : List PV) (p : PV), (l.map pv)[i]? = some row → row[j]? = some p → ∃ v, w.cell? ((a.add (i * m)).add j) = some v ∧ PR (Lt w) w p v ∧ v.oneCell' = true := fun i j row p hi hj => by
        rw [List.getElem?_map, Option.map_eq_some_iff] at hi
        obtain ⟨z, hi, rfl⟩ := hi
        obtain ⟨_, cs, h1, h2, h3⟩ := hE i z hi
        have hjm : j < m := by rw [← hlen z]; exact (List.getElem?_eq_some_iff.1 hj).1
        have hv : cs[j]? = some cs[j] := List.getElem?_eq_getElem (by omega)
        exact ⟨_, (h3 j hjm).trans hv, h1.2 j _ p hv hj⟩
      obtain ⟨z0, hz0⟩ : ∃ z0, l[0]? = some z0 := ⟨l[0]'(by rw [List.length_pos_iff]; exact hl0), by simp⟩
      obtain ⟨p0, hp0⟩ : ∃ p0, (pv z0)[0]? = some p0 := ⟨(pv z0)[0]'(by rw [hlen]; exact hm0), by simp⟩
      obtain ⟨v0, hv0, _⟩ := hsome 0 0 (pv z0) p0 (by simp [hz0]) hp0
      have hspot : a.spot = none ∧ a.block < w.heap.size := by
        unfold World.cell? at hv0
        split at hv0
        · rename_i c' T fr hc'
          split at hv0
          · cases hv0
          · rename_i hs
            exact ⟨by simpa [Addr.add] using hs, by have := (Array.getElem?_eq_some_iff.1 hc').1; simpa [Addr.add] using this⟩
        · cases hv0
      have ha : ∀ i j, (a.add (i * m)).add j = ⟨a.block, a.off + (i * m + j), none⟩ := fun i j => by
        have := hspot.1
        cases a; dsimp only at this; subst this
        rw [Addr.add_mid, Addr.add_mid, Nat.add_assoc]
      have hae : a = ⟨a.block, a.off, none⟩ := by
        have := hspot.1
        cases a; dsimp only at this; subst this; rfl
      rw [hae, ← hlen']
      have hll : l.length = (l.map pv).length := by simp
      rw [hll]
      refine .view m (l.map pv) a.block a.off cap (fun i j => (w.cell? ⟨a.block, a.off + (i * m + j), none⟩).getD undef) (by simpa using hl0) hspot.2 (by simp; omega) (fun i row hi => ?_) (fun i j row p hi hj => ?_) (fun i j row p hi hj => ?_) (fun i j row p hi hj => ?_)
      · rw [List.getElem?_map, Option.map_eq_some_iff] at hi
        obtain ⟨z, _, rfl⟩ := hi
        exact hlen z
      · obtain ⟨v, h1, h2, h3⟩ := hsome i j row p hi hj
        rw [ha] at h1
        rw [h1]; rfl
      · obtain ⟨v, h1, h2, h3⟩ := hsome i j row p hi hj
        rw [ha] at h1
        rw [h1]; exact h3
      · obtain ⟨v, h1, h2, h3⟩ := hsome i j row p hi hj
        rw [ha] at h1
        rw [h1]; exact h2
  · obtain ⟨i, hi⟩ := List.getElem?_of_mem hz
    exact (hE i z hi).1
end
/-- The arguments of a law's call. -/
inductive ArgsP (w : World) : List AV → List Value → Prop
  | nil : ArgsP w [] []
  | cons {x : AV} {v : Value} {xs : List AV} {vs : List Value} (hx : PA (Lt w) w x v) (hr : ArgsP w xs vs) : ArgsP w (x :: xs) (v :: vs)
theorem ArgsP.at {w : World} {xs : List AV} {vs : List Value} (h : ArgsP w xs vs) : vs.length = xs.length ∧ ∀ (j : Nat) x, xs[j]? = some x → ∃ u, vs[j]? = some u ∧ PA (Lt w) w x u := by
  induction h with
  | nil => exact ⟨rfl, fun j x hj => by simp at hj⟩
  | cons hx hr ih =>
    refine ⟨by simp [ih.1], fun j x hj => ?_⟩
    cases j with
    | zero => cases hj; exact ⟨_, rfl, hx⟩
    | succ j => exact ih.2 j x (by simpa using hj)
theorem argP_lit {w : World} {x : AV} {v : Value} (h : ofVt v = some x) : PA (Lt w) w x v := ofVt_P h
theorem argP_view {w : World} {m : Nat} {rows : List (List PV)} {v : Value} (h : PR (Lt w) w (.view m rows) v) (ho : v.oneCell' = true) : PA (Lt w) w (one (.p (.view m rows))) v := ⟨h, ho⟩
/-- A struct whose cells are told one by one. -/
theorem argP_agg {w : World} {cs : List Value} {ps : List PV} (h : ElPV w cs ps) : PA (Lt w) w (.a (.agg (ps.map .p))) (.agg cs.toArray) := by
  refine ⟨cs.toArray, rfl, by simp [h.1], fun j c hj => ?_⟩
  rw [List.getElem?_map, Option.map_eq_some_iff] at hj
  obtain ⟨p, hj, rfl⟩ := hj
  have hl : j < cs.length := by rw [h.1]; exact (List.getElem?_eq_some_iff.1 hj).1
  have hv : cs[j]? = some cs[j] := List.getElem?_eq_getElem hl
  obtain ⟨h1, h2⟩ := h.2 j _ p hv hj
  exact ⟨cs[j], by rw [List.getElem?_toArray]; exact hv, h1, h2⟩
theorem walk_of_args {P : Program} {fr : Bool} {f : FuncId} {xs : List AV} {vs : Array Value} (hp : Pure P fr f xs (Bo true)) {w : World} (ha : ArgsP w xs vs.toList) : Calls P f vs w fun e w' => e = .returned (.bool true) ∧ Below w.heap.size w w' := by
  obtain ⟨h1, h2⟩ := ha.at
  refine (hp.calls w (Lt w) vs (fun g hg => hg) (by simpa using h1) (fun j x hj => ?_)).mono ?_
  · obtain ⟨u, h4, h5⟩ := h2 j x hj
    exact ⟨u, by simpa using h4, h5⟩
  · rintro e w' ⟨v, rfl, hb, hr⟩
    exact ⟨by rw [hr.1.val_eq], hb⟩
end Go.Proofs.Ytfbnjemmmgobkaa
