/- The abstract machine, 5: structs, slices. -/
import Derived.Test.YtioejbgdhmiiiaaAM4
namespace Go.Proofs.Ytioejbgdhmiiiaa
open Go.RowKit
set_option linter.unusedVariables false
set_option linter.unusedSimpArgs false
namespace AM
section
variable {P : Program} {ρ : Own} {w : World} {n : Nat} {K : AV → Option Blk → Prop}
/-! ### Structs -/
def partA (cs : List CV) (s : Nat × Nat × Bool) : Option A1 := if s.2.2 then (if s.1 + s.2.1 ≤ cs.length then some (.agg ((cs.drop s.1).take s.2.1)) else none) else (cs[s.1]?).map .one
theorem s_field {T : TypeId} {x : AV} {v : Value} {cs : List CV} {f : Nat} {y : A1} {l : List (Nat × Nat × Bool)} {s : Nat × Nat × Bool} (hx : AR ρ w x v) (he : x = .a (.agg cs)) (hf : fieldsL P T = some l) (hs : l[f]? = some s) (hy : partA cs s = some y) (k : K (.a y) none) :
    ∃ u w', (Instr.field T v f).run P w = .ok u w' ∧ Post ρ w n K u w' := by
  subst he
  obtain ⟨off, sz, b⟩ := s
  obtain ⟨fs, hu, _, h1⟩ := fieldsL_parts hf
  obtain ⟨fd, h2, rfl, h3⟩ := h1 f off sz b hs
  obtain ⟨i0, d, hi, rfl, hd, rfl⟩ := sizeL_parts h3
  obtain ⟨vs, rfl, h4, h5⟩ := hx
  have hagg : (isAgg fd.type).run P w = .ok d.isRow w := by
    unfold isAgg; rw [Sem.run_bind, run_underlying hd w]; cases d <;> rfl
  unfold partA at hy
  cases hb : d.isRow with
  | true =>
    simp only [hb, if_true] at hy
    split at hy
    · rename_i hle
      cases hy
      refine ⟨.agg (vs.extract fd.offset (fd.offset + i0.size)), w, ?_, Post.val k ⟨_, rfl, by simp; omega, fun j c hj => ?_⟩⟩
      · simp [Instr.field, run_underlying hu, h2, asAgg, part, Sem.run_bind, hagg, hb, sizeOf, typeInfo, hi]
      · have hjs : j < i0.size := by have := (List.getElem?_eq_some_iff.1 hj).1; simp at this; omega
        rw [List.getElem?_take_of_lt hjs, List.getElem?_drop] at hj
        obtain ⟨u, h6, h7⟩ := h5 _ c hj
        refine ⟨u, ?_, h7⟩
        rw [Array.getElem?_extract]
        rw [if_pos (by omega)]
        exact h6
    · cases hy
  | false =>
    simp only [hb, Bool.false_eq_true, if_false, Option.map_eq_some_iff] at hy
    obtain ⟨c, hc, rfl⟩ := hy
    obtain ⟨u, h6, h7⟩ := h5 _ c hc
    exact ⟨u, w, by simp [Instr.field, run_underlying hu, h2, asAgg, part, Sem.run_bind, hagg, hb, h6], Post.val k h7⟩
def fieldAddrA (x : AV) (off : Nat) : Option CV := match x with
  | .a (.one (.ptr m b i j)) => some (.ptr m b i (j + off))
  | .a (.one (.vp cells)) => some (.vp (cells.drop off))
  | _ => none
theorem run_fieldAt_off {T : TypeId} {f off sz : Nat} {b : Bool} {l : List (Nat × Nat × Bool)} (g q : Nat) (hf : fieldsL P T = some l) (hs : l[f]? = some (off, sz, b)) (hsz : sz ≠ 0) :
    (Instr.fieldAt T (.pointer (some ⟨g, q, none⟩)) f).run P w = .ok (.pointer (some ⟨g, q + off, none⟩)) w := by
  obtain ⟨fs, hu, _, h1⟩ := fieldsL_parts hf
  obtain ⟨fd, h2, rfl, h3⟩ := h1 f off sz b hs
  obtain ⟨i0, d, hi, rfl, hd, rfl⟩ := sizeL_parts h3
  simp [Instr.fieldAt, run_underlying hu, h2, Instr.sureAddr, fieldPlace, sizeOf, typeInfo, hi, hsz, Addr.add_mid]
theorem s_fieldAddr {T : TypeId} {x : AV} {v : Value} {f : Nat} {y : CV} {l : List (Nat × Nat × Bool)} {s : Nat × Nat × Bool} (hx : AR ρ w x v) (hf : fieldsL P T = some l) (hs : l[f]? = some s) (hsz : s.2.1 ≠ 0) (hy : fieldAddrA x s.1 = some y) (k : K (one y) none) :
    ∃ u w', (Instr.fieldAt T v f).run P w = .ok u w' ∧ Post ρ w n K u w' := by
  obtain ⟨off, sz, b⟩ := s
  unfold fieldAddrA at hy
  split at hy
  · cases hy
    obtain ⟨⟨g, o, hb, rfl⟩, _⟩ := hx
    exact ⟨_, w, run_fieldAt_off g _ hf hs hsz, Post.val k ⟨⟨g, o, hb, by simp only [Nat.add_assoc]⟩, rfl⟩⟩
  · rename_i cells
    cases hy
    obtain ⟨⟨g, q, c, rfl, hg, h1, h2⟩, _⟩ := hx
    exact ⟨_, w, run_fieldAt_off g _ hf hs hsz, Post.val k ⟨⟨g, q + off, fun j => c (off + j), rfl, hg, fun j x hj => by rw [List.getElem?_drop] at hj; rw [Nat.add_assoc]; exact h1 _ x hj, fun j x hj => by rw [List.getElem?_drop] at hj; exact h2 _ x hj⟩, rfl⟩⟩
  · cases hy
theorem s_build {T : TypeId} {l : List (Nat × Nat × Bool)} {z : List Value} {ps : List (Nat × List CV)} {parts : Array (Nat × Value)} {out : List CV} (hf : fieldsL P T = some l) (hz : zeroL P T = some z)
    (hi : parts.toList.map (·.1) = ps.map (·.1)) (hc : ∀ (j : Nat) p q, ps[j]? = some p → parts.toList[j]? = some q → CellsR ρ w p.2 q.2.cells)
    (ho : fillA (fun i => (l[i]?).map fun s => (s.1, s.2.1)) (z.map fun v => .p (.val v)) ps = some out) (k : K (.a (.agg out)) none) : ∃ u w', (Instr.build T parts).run P w = .ok u w' ∧ Post ρ w n K u w' := by
  obtain ⟨i, z0, h1, h2, h3, h4⟩ := zeroL_parts hz
  obtain ⟨fs, hu, hlen, h5⟩ := fieldsL_parts hf
  have h := CellsR.lit (ρ := ρ) (w := w) h4
  have he : z.toArray = z0.cells := by rw [← h3]
  rw [he] at h
  obtain ⟨o, h6, h7⟩ := fillA_R _ ps parts.toList _ _ out h hi hc ho
  have hpl : ∃ pl : Array (Nat × Nat), (fs.mapM fun f => (do pure (f.offset, ← sizeOf f.type) : Sem (Nat × Nat))).run P w = .ok pl w ∧ ∀ i : Nat, (pl[i]? : Option (Nat × Nat)) = (l[i]?).map fun s => (s.1, s.2.1) := by
    have key : ∀ (fl : List Field) (k : Nat), (∀ (j : Nat) f, fl[j]? = some f → ∃ s : Nat × Nat × Bool, l[k + j]? = some s ∧ f.offset = s.1 ∧ ∃ i, P.info? f.type = some i ∧ i.size = s.2.1) →
        ∃ pl : List (Nat × Nat), (fl.mapM fun f => (do pure (f.offset, ← sizeOf f.type) : Sem (Nat × Nat))).run P w = .ok pl w ∧ pl.length = fl.length ∧ ∀ j : Nat, j < fl.length → pl[j]? = (l[k + j]?).map fun s => (s.1, s.2.1) := by
      intro fl
      induction fl with
      | nil => intro k _; exact ⟨[], by simp, rfl, fun j hj => by simp at hj⟩
      | cons f r ih =>
        intro k hk
        obtain ⟨s, e1, e2, i', e3, e4⟩ := hk 0 f rfl
        obtain ⟨pl, e5, e6, e7⟩ := ih (k + 1) (fun j f' hj => by have := hk (j + 1) f' hj; rwa [show k + 1 + j = k + (j + 1) by omega])
        refine ⟨(s.1, s.2.1) :: pl, ?_, by simp [e6], fun j hj => ?_⟩
        · have hz2 : (sizeOf f.type).run P w = .ok s.2.1 w := by simp [sizeOf, typeInfo, e3, e4]
          rw [List.mapM_cons, Sem.run_bind, Sem.run_bind, hz2]
          simp only [Result.andThen_ok, Sem.run_pure, Sem.run_bind, e5, e2]
        · cases j with
          | zero => rw [Nat.add_zero] at e1 ⊢; rw [e1]; rfl
          | succ j => rw [List.getElem?_cons_succ, e7 j (by simpa using hj), show k + 1 + j = k + (j + 1) by omega]
    have hfl : ∀ (j : Nat) f, fs.toList[j]? = some f → ∃ s : Nat × Nat × Bool, l[0 + j]? = some s ∧ f.offset = s.1 ∧ ∃ i, P.info? f.type = some i ∧ i.size = s.2.1 := fun j f hj => by
      have hjl : j < l.length := by have := (List.getElem?_eq_some_iff.1 hj).1; simp at this; omega
      obtain ⟨f', e1, e2, e3⟩ := h5 j l[j].1 l[j].2.1 l[j].2.2 (by simp [hjl])
      have : f' = f := by rw [← Array.getElem?_toList, hj] at e1; exact (Option.some.inj e1).symm
      subst this
      obtain ⟨i', d, e4, e5, _⟩ := sizeL_parts e3
      exact ⟨l[j], by simp [hjl], e2, i', e4, e5⟩
    obtain ⟨pl, e1, e2, e3⟩ := key fs.toList 0 hfl
    refine ⟨pl.toArray, ?_, fun i => ?_⟩
    · rw [Array.mapM_eq_mapM_toList]
      show Sem.run P ((fs.toList.mapM _) >>= fun l => pure l.toArray) w = _
      rw [Sem.run_bind, e1]
      rfl
    · by_cases hlt : i < fs.toList.length
      · have := e3 i hlt; simpa using this
      · have h8 : l[i]? = none := List.getElem?_eq_none (by simp at hlt; omega)
        rw [h8]; simp; omega
  obtain ⟨pl, e1, e2⟩ := hpl
  have e3 : (fun i : Nat => (pl[i]? : Option (Nat × Nat))) = (fun i => (l[i]?).map fun s => (s.1, s.2.1)) := funext e2
  refine ⟨.agg o, w, ?_, Post.val k ⟨o, rfl, h7.1, h7.2⟩⟩
  have hzv : (zeroValue T).run P w = .ok z0 w := by simp [zeroValue, typeInfo, h1, h2]
  simp only [Instr.build, Sem.run_bind, hzv, Result.andThen_ok, Sem.run_pure, run_underlying hu, e1]
  rw [e3, h6]
  rfl
end
end AM
end Go.Proofs.Ytioejbgdhmiiiaa
