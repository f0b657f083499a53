/- The abstract machine, 17: functions. -/
import Derived.Test.YtioejbgdhmiiiaaAM16
namespace Go.Proofs.Ytioejbgdhmiiiaa
open Go.RowKit
set_option linter.unusedVariables false
set_option linter.unusedSimpArgs false
namespace AM
def argS : Nat → List AV → Slots
  | _, [] => []
  | k, x :: r => (k, x) :: argS (k + 1) r
def resOf (P : Program) (t : Slots) (h : Heap) : ResultVar → Option A1
  | .tmp i => match get t i with
    | some (.a x) => some x
    | _ => none
  | .cell i T => (get t i).bind (loadA P h T)
def pack : List A1 → AV
  | [x] => .a x
  | xs => .tup xs
def resE (P : Program) (fn : Func) (t : Slots) (h : Heap) (K : AV → Prop) : Prop := ow (omap (resOf P t h) fn.results.toList) fun xs => K (pack xs)
section
variable {P : Program} {ρ : Own} {w w0 : World} {h : Heap} {t : Slots} {N : Nat} {a : Act}
theorem argS_get : ∀ (xs : List AV) (k i : Nat) (x : AV), get (argS k xs) i = some x → k ≤ i ∧ xs[i - k]? = some x
  | [], k, i, x, h => by cases h
  | y :: r, k, i, x, h => by
    simp only [argS, get] at h
    split at h
    · rename_i e; subst e; cases h; exact ⟨Nat.le_refl _, by simp⟩
    · obtain ⟨h1, h2⟩ := argS_get r (k + 1) i x h
      exact ⟨by omega, by rw [show i - k = (i - (k + 1)) + 1 by omega]; exact h2⟩
theorem resE_sound (hR : Rel t h N w0 ρ a w) {fn : Func} {K : AV → Prop} (hE : resE P fn t h K) : ∃ v r, (results fn a.tmps).run P w = .ok v w ∧ K r ∧ AR ρ w r v := by
  obtain ⟨xs, h1, h2⟩ := hE
  have one : ∀ (rv : ResultVar) (x : A1), resOf P t h rv = some x → ∃ v, ((match rv with | .tmp t => pure (a.tmps.getD t undef) | .cell b t => do loadVar t (← asAddr (a.tmps.getD b undef))) : Sem Value).run P w = .ok v w ∧ R1 ρ w x v := fun rv x hx => by
    cases rv with
    | tmp i =>
      simp only [resOf] at hx
      split at hx
      · rename_i y hg; cases hx; exact ⟨_, rfl, hR.slots i _ hg⟩
      · cases hx
    | cell i T =>
      simp only [resOf, Option.bind_eq_some_iff] at hx
      obtain ⟨u, hg, hl⟩ := hx
      obtain ⟨v, w', hrun, x', bs, ρ', ⟨e1, e2⟩, _, hxr, hbs⟩ := s_load (P := P) (n := 0) (K := fun y c => y = .a x ∧ c = none) hR.g (fun b blk hb => hb) (hR.slots i u hg) hl ⟨rfl, rfl⟩
      subst e1; subst e2
      dsimp only at hbs
      subst hbs
      have hp : ∃ ad, a.tmps.getD i undef = .pointer (some ad) := by
        have hu := hR.slots i u hg
        unfold loadA at hl
        cases hs : sizeL P T with
        | none => rw [hs] at hl; cases hl
        | some s =>
          rw [hs, Option.bind_some] at hl
          split at hl
          · obtain ⟨⟨g, q, f, e, _⟩, _⟩ := hu; exact ⟨_, e⟩
          · obtain ⟨⟨g, o, _, e⟩, _⟩ := hu; exact ⟨_, e⟩
          · cases hl
      obtain ⟨ad, hp⟩ := hp
      have hw : w' = w := by
        rw [hp] at hrun
        have := hrun
        unfold loadA at hl
        cases hs : sizeL P T with
        | none => rw [hs] at hl; cases hl
        | some s =>
          obtain ⟨i0, d, hi, hsz, hu', hd⟩ := sizeL_parts (k := s.1) (b := s.2) hs
          have hagg : (isAgg T).run P w = .ok d.isRow w := by
            unfold isAgg; rw [Sem.run_bind, run_underlying hu' w]; cases d <;> rfl
          have hsame : ∀ (n k : Nat) (acc : Array Value) (v : Array Value) (w' : World), (loadCellsFrom ad k n acc).run P w = .ok v w' → w' = w := by
            intro n
            induction n with
            | zero => intro k acc v w' hr; simp [loadCellsFrom] at hr; exact hr.2.symm
            | succ n ih =>
              intro k acc v w' hr
              simp only [loadCellsFrom, Sem.run_bind] at hr
              cases hc : (load (ad.add k)).run P w with
              | ok u w1 =>
                have : w1 = w := by
                  simp only [load, Sem.run] at hc
                  split at hc
                  · cases hc; rfl
                  · split at hc
                    · cases hc; rfl
                    · cases hc
                rw [hc] at hr
                subst this
                exact ih _ _ _ _ hr
              | halt x w1 => rw [hc] at hr; cases hr
          simp only [Instr.loadAt, Instr.sureAddr, loadVar, Sem.run_bind, Sem.run_pure, Result.andThen_ok, hagg] at hrun
          cases hb : d.isRow with
          | true =>
            rw [hb] at hrun
            simp only [if_true, Sem.run_bind, sizeOf, typeInfo, hi] at hrun
            cases hc : (loadCells ad i0.size).run P w with
            | ok u w1 =>
              have e := hsame _ _ _ _ _ hc
              subst e
              simp [hi, hc] at hrun
              exact hrun.2.symm
            | halt x w1 => simp [hi, hc] at hrun
          | false =>
            rw [hb] at hrun
            simp only [Bool.false_eq_true, if_false, load, Sem.run] at hrun
            split at hrun
            · cases hrun; rfl
            · split at hrun
              · cases hrun; rfl
              · cases hrun
      subst hw
      refine ⟨v, ?_, hxr⟩
      dsimp only
      rw [hp] at hrun ⊢
      simp only [Instr.loadAt, Instr.sureAddr, Sem.run_bind, Sem.run_pure, Result.andThen_ok] at hrun
      simp only [asAddr, Sem.run_bind, Sem.run_pure, Result.andThen_ok, hrun]
  have all : ∀ (l : List ResultVar) (xs : List A1), omap (resOf P t h) l = some xs → ∃ vs : List Value, (l.mapM fun rv => ((match rv with | .tmp t => pure (a.tmps.getD t undef) | .cell b t => do loadVar t (← asAddr (a.tmps.getD b undef))) : Sem Value)).run P w = .ok vs w ∧ vs.length = xs.length ∧ ∀ (j : Nat) x, xs[j]? = some x → ∃ u, vs[j]? = some u ∧ R1 ρ w x u := by
    intro l
    induction l with
    | nil => intro xs hx; cases hx; exact ⟨[], by simp, rfl, fun j x hj => by simp at hj⟩
    | cons rv r ih =>
      intro xs hx
      simp only [omap] at hx
      split at hx
      · rename_i y l' hy hl'
        cases hx
        obtain ⟨v, h3, h4⟩ := one rv y hy
        obtain ⟨vs, h5, h6, h7⟩ := ih l' hl'
        refine ⟨v :: vs, ?_, by simp [h6], fun j x hj => ?_⟩
        · rw [List.mapM_cons, Sem.run_bind, h3]
          simp only [Result.andThen_ok, Sem.run_bind, h5, Sem.run_pure]
        · cases j with
          | zero => cases hj; exact ⟨v, rfl, h4⟩
          | succ j => exact h7 j x hj
      · cases hx
  obtain ⟨vs, h3, h4, h5⟩ := all _ xs h1
  have hm : (fn.results.mapM fun rv => ((match rv with | .tmp t => pure (a.tmps.getD t undef) | .cell b t => do loadVar t (← asAddr (a.tmps.getD b undef))) : Sem Value)).run P w = .ok vs.toArray w := by
    rw [Array.mapM_eq_mapM_toList]
    show Sem.run P ((fn.results.toList.mapM _) >>= fun l => pure l.toArray) w = _
    rw [Sem.run_bind, h3]
    rfl
  have hres : (results fn a.tmps).run P w = .ok (if h : vs.toArray.size = 1 then vs.toArray[0] else .tuple vs.toArray) w := by
    unfold results
    rw [Sem.run_bind]
    erw [hm]
    rfl
  refine ⟨_, pack xs, hres, h2, ?_⟩
  unfold pack
  split
  · rename_i x
    have hv : vs.length = 1 := by simpa using h4
    rw [dif_pos (by simpa using hv)]
    obtain ⟨u, h6, h7⟩ := h5 0 x rfl
    have : vs[0]? = some vs[0] := List.getElem?_eq_getElem (by omega)
    rw [this] at h6
    cases h6
    exact h7
  · rename_i hne
    have hv : vs.length ≠ 1 := fun e => by
      rw [h4] at e
      obtain ⟨x, hx⟩ := List.length_eq_one_iff.1 e
      exact hne x hx
    rw [dif_neg (by simpa using hv)]
    exact ⟨vs.toArray, rfl, by simpa using h4, fun j x hj => by obtain ⟨u, h6, h7⟩ := h5 j x hj; exact ⟨u, by simpa using h6, h7⟩⟩
/-- The end of a function's body. -/
def endK (P : Program) (fn : Func) (K : AV → Heap → Prop) (e : Exit) (t : Slots) (h : Heap) : Prop := match e with
  | .normal | .ret => resE P fn t h fun r => K r h
  | _ => False
theorem body_sound {f : FuncId} {fn : Func} {c : Code} {xs : List AV} {K : AV → Heap → Prop} (hf : P.funcs[f]? = some fn) (hb : fn.body = some c) (hx : xs.length ≤ fn.ntmps) (hE : codeE P fn.ntmps h.length c (argS 0 xs) h (endK P fn K)) (hG : G h w0 ρ w) {vs : Array Value} (hs : vs.size = xs.length)
    (hv : ∀ (j : Nat) x, xs[j]? = some x → ∃ u, vs[j]? = some u ∧ AR ρ w x u) : Calls P f vs w fun e w' => ∃ v x h' ρ', e = .returned v ∧ K x h' ∧ G h' w0 ρ' w' ∧ Adv ρ w ρ' w' ∧ AR ρ' w' x v := by
  refine calls_of_wp hf hb (codeE_sound (N := fn.ntmps) (n0 := h.length) (ρe := ρ) (we := w) (w0 := w0) c _ h _ _ ρ _ w hE ⟨hG, fun i x hi => ?_, by simp; omega, rfl⟩ ((Adv.refl ρ w).n _) ?_)
  · obtain ⟨_, h1⟩ := argS_get xs 0 i x hi
    obtain ⟨u, h2, h3⟩ := hv i x (by simpa using h1)
    have : (vs ++ Array.replicate (fn.ntmps - vs.size) undef).getD i undef = u := by
      rw [Array.getD_eq_getD_getElem?, Array.getElem?_append_left (Array.getElem?_eq_some_iff.1 h2).1, h2]
      rfl
    dsimp only
    rw [this]; exact h3
  · intro e t' h' ρ' a' w' hK hR' hA'
    have ha : Adv ρ w ρ' w' := hA'.full (fun b x hb => (hG.lo b x.1 x.2 hb).2.2)
    cases e with
    | normal =>
      obtain ⟨v, r, h1, h2, h3⟩ := resE_sound (fn := fn) (K := fun r => K r h') hR' hK
      exact ⟨hR'.defers, v, h1, v, r, h', ρ', rfl, h2, hR'.g, ha, h3⟩
    | ret =>
      obtain ⟨v, r, h1, h2, h3⟩ := resE_sound (fn := fn) (K := fun r => K r h') hR' hK
      exact ⟨hR'.defers, v, h1, v, r, h', ρ', rfl, h2, hR'.g, ha, h3⟩
    | _ => exact hK.elim
theorem eff_of_code {f : FuncId} {fn : Func} {c : Code} {xs : List AV} {K : AV → Heap → Prop} (he : canEnter P f = true) (hf : P.funcs[f]? = some fn) (hb : fn.body = some c) (hx : xs.length ≤ fn.ntmps) (hE : codeE P fn.ntmps h.length c (argS 0 xs) h (endK P fn K)) : Eff P h f xs K :=
  ⟨he, fun _ _ _ _ hG hs hv => body_sound hf hb hx hE hG hs hv⟩
theorem pure_of_code {f : FuncId} {fn : Func} {c : Code} {xs : List AV} {fresh : Bool} {r : AV} (he : canEnter P f = true) (hf : P.funcs[f]? = some fn) (hb : fn.body = some c) (hx : xs.length ≤ fn.ntmps) (hE : codeE P fn.ntmps 0 c (argS 0 xs) [] (endK P fn fun r' h' => ExpA fresh h' r' r)) : Pure P fresh f xs r := by
  refine ⟨he, fun w S vs hS hs hv => ?_⟩
  let ρ0 : Own := ⟨fun _ => none, fun g => S g ∨ w.heap.size ≤ g⟩
  have hG : G [] w ρ0 w := ⟨Below.refl _ _, fun b g o hb => (by cases hb), fun b blk g o hb => (by simp at hb), fun b b' blk blk' g o o' hb => (by simp at hb), fun g hg => .inr hg⟩
  refine (body_sound (h := []) hf hb hx hE hG hs (fun j x hj => ?_)).mono ?_
  · obtain ⟨u, h1, h2⟩ := hv j x hj
    exact ⟨u, h1, PA.ar (h2.mono (fun g hg => ⟨hS g hg, fun b o hb => (by cases hb), .inl hg⟩) (fun _ _ _ => rfl))⟩
  · rintro e w' ⟨v, x, h', ρ', rfl, hexp, hG', ha, hxr⟩
    refine ⟨v, rfl, hG'.below, hexp.sound (fun hfr g hg => ?_) (fun b g o hb => ?_) hG' (fun b blk hb => hb) hxr⟩
    · have hA := hg.2.2
      rw [ha.A] at hA
      rcases hA with hA | hA
      · exact .inl ⟨hfr, hA⟩
      · exact .inr ⟨hA, hg.1⟩
    · obtain ⟨k1, k2, _⟩ := hG'.lo b g o hb
      exact .inr ⟨k1, k2⟩
end
end AM
end Go.Proofs.Ytioejbgdhmiiiaa
