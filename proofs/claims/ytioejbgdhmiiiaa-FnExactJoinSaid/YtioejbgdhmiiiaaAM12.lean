/- The abstract machine, 12: operations one after another. -/
import Derived.Test.YtioejbgdhmiiiaaAM11
namespace Go.Proofs.Ytioejbgdhmiiiaa
open Go.RowKit
set_option linter.unusedVariables false
set_option linter.unusedSimpArgs false
namespace AM
def putS (d : Option Tmp) (x : AV) (t : Slots) : Slots := match d with
  | some d => (d, x) :: t
  | none => t
def addB (h : Heap) : Option Blk → Heap
  | some b => h ++ [some b]
  | none => h
def ptrOf : AV → Option (Nat × Nat × Nat × Nat)
  | .a (.one (.ptr m b i j)) => some (m, b, i, j)
  | _ => none
def blkOf (h : Heap) (b : Nat) : Option Blk := (h[b]?).bind id
/-- What is appended. -/
def srcE (P : Program) (h : Heap) (m : Nat) (tx : TypeId) (v : AV) (K : List (List CV) → Prop) : Prop := match v with
  | .a (.one (.p (.view m' rows))) => m' = m ∧ ow (elemL P tx) fun _ => K (rows.map (·.map .p))
  | .a (.one (.sl m' b s n)) => m' = m ∧ (ow (elemL P tx) fun _ => ow (blkOf h b) fun blk => blk.m = m ∧ s + n ≤ blk.rows.length ∧ K ((blk.rows.drop s).take n))
  | .a (.one (.p (.val (.string s)))) => P.underlying tx = some .string ∧ m = 1 ∧ K (s.data.toList.map byteRow)
  | .a (.one (.p (.val (.slice a 0 c)))) => ow (elemL P tx) fun _ => K []
  | .a (.one .nilsl) => ow (elemL P tx) fun _ => K []
  | _ => False
def appE (P : Program) (t : Slots) (h : Heap) (o : Oper) (s x : Operand) (T tx : TypeId) (K : Slots → Heap → Prop) : Prop :=
  ow (evO t s) fun sv => ow (evO t x) fun xv => ow (elemL P T) fun em => ow (zeroL P em.1) fun z => ow (bytesL P em.1) fun by_ => z.length = em.2 ∧ 0 < em.2 ∧ srcE P h em.2 tx xv fun ys => match sv with
    | .a (.one (.sl m b s n)) => m = em.2 ∧ ow (blkOf h b) fun blk => blk.T = em.1 ∧ blk.m = em.2 ∧ s + n ≤ blk.rows.length ∧ (n + ys.length) * by_ ≤ 140737488355328 ∧ n + ys.length ≤ 4611686018427387904 ∧ K (putS o.dst (one (.sl m h.length 0 (n + ys.length))) t) (kill h b ++ [some ⟨em.1, em.2, (blk.rows.drop s).take n ++ ys⟩])
    | .a (.one (.p (.val (.slice a 0 0)))) => ys.length * by_ ≤ 140737488355328 ∧ ys.length ≤ 4611686018427387904 ∧ K (putS o.dst (one (.sl em.2 h.length 0 ys.length)) t) (h ++ [some ⟨em.1, em.2, ys⟩])
    | .a (.one .nilsl) => ys.length * by_ ≤ 140737488355328 ∧ ys.length ≤ 4611686018427387904 ∧ K (putS o.dst (one (.sl em.2 h.length 0 ys.length)) t) (h ++ [some ⟨em.1, em.2, ys⟩])
    | _ => False
def stoE (P : Program) (t : Slots) (h : Heap) (o : Oper) (T : TypeId) (x y : Operand) (K : Slots → Heap → Prop) : Prop :=
  ow (evO t x) fun u => ow (ptrOf u) fun p => ow (evO t y) fun v => ow (cellsA v) fun cs => ow (sizeL P T) fun s => ow (blkOf h p.2.1) fun blk => ow blk.rows[p.2.2.1]? fun row => blk.m = p.1 ∧ cs.length = s.1 ∧ p.2.2.2 + s.1 ≤ row.length ∧ K (putS o.dst .und t) (h.set p.2.1 (some { blk with rows := blk.rows.set p.2.2.1 (over row p.2.2.2 cs) }))
/-- A call that may write own blocks: what is left. -/
def Eff (P : Program) (h : Heap) (f : FuncId) (xs : List AV) (K : AV → Heap → Prop) : Prop :=
  canEnter P f = true ∧ ∀ (w0 w : World) (ρ : Own) (vs : Array Value), G h w0 ρ w → vs.size = xs.length → (∀ (j : Nat) x, xs[j]? = some x → ∃ u, vs[j]? = some u ∧ AR ρ w x u) →
    Calls P f vs w fun e w' => ∃ v x h' ρ', e = .returned v ∧ K x h' ∧ G h' w0 ρ' w' ∧ Adv ρ w ρ' w' ∧ AR ρ' w' x v
/-- One operation. -/
def opE (P : Program) (t : Slots) (h : Heap) (o : Oper) (K : Slots → Heap → Prop) : Prop :=
  match o.op with
  | .store T x y => stoE P t h o T x y K
  | .call { callee := .builtin .append, args, argTypes } => match args.toList, argTypes.toList with
    | [s, x], [T, tx] => appE P t h o s x T tx K
    | _, _ => False
  | .call { callee := .value (.func f), args, argTypes } => ow (omap (evO t) args.toList) fun xs => Eff P h f xs fun x h' => K (putS o.dst x t) h'
  | _ => opF P t h h.length o fun x bs => K (putS o.dst x t) (addB h bs)
/-- The operations' guards. -/
def gslot (ops : Array Oper) (j : Nat) : Option Tmp := (ops[j]?).bind (·.dst)
/-- Whether an operation is wanted: Ky if it is, Kn if not. -/
def guardE (ops : Array Oper) (t : Slots) (o : Oper) (Ky Kn : Slots → Prop) : Prop := match o.guard with
  | none => Ky t
  | some (j, b) => ow (gslot ops j) fun d => ow (get t d) fun v => match v with
    | .a (.one (.p (.val (.bool c)))) => (c = b → Ky ((d, V (.bool b)) :: t)) ∧ (c = !b → Kn ((d, V (.bool !b)) :: t))
    | .und => Kn t
    | _ => False
def opsE (P : Program) (ops : Array Oper) (N : Nat) : List Oper → Slots → Heap → (Slots → Heap → Prop) → Prop
  | [], t, h, K => K t h
  | o :: r, t, h, K => (∀ d, o.dst = some d → d < N) ∧ guardE ops t o (fun t' => opE P t' h o fun t'' h'' => opsE P ops N r t'' h'' K) (fun t' => opsE P ops N r (putS o.dst .und t') h K)
/-- What a state says of an activation and a world. -/
structure Rel (t : Slots) (h : Heap) (N : Nat) (w0 : World) (ρ : Own) (a : Act) (w : World) : Prop where
  g : G h w0 ρ w
  slots : ∀ i x, get t i = some x → AR ρ w x (a.tmps.getD i undef)
  size : a.tmps.size = N
  defers : a.defers = []
section
variable {P : Program} {ρ : Own} {w w0 : World} {h : Heap} {t : Slots} {N : Nat} {a : Act}
theorem Rel.evO (hR : Rel t h N w0 ρ a w) (x : Operand) (v : AV) (hv : AM.evO t x = some v) : AR ρ w v (a.eval x) := by
  cases x with
  | tmp i => exact hR.slots i v hv
  | const c => exact ofV_R hv
  | global g => cases hv; exact ⟨.val _, rfl⟩
  | func f => cases hv; exact ⟨.val _, rfl⟩
theorem Rel.fresh (hR : Rel t h N w0 ρ a w) : ρ h.length = none := by
  cases hc : ρ h.length with
  | none => rfl
  | some x => have := (hR.g.lo _ x.1 x.2 hc).2.2; omega
theorem get_putS (d : Option Tmp) (x : AV) (i : Nat) : get (putS d x t) i = if d = some i then some x else get t i := by
  cases d with
  | none => simp [putS]
  | some d =>
    simp only [putS, get, Option.some.injEq]
    by_cases e : i = d
    · rw [if_pos e, if_pos e.symm]
    · rw [if_neg e, if_neg (fun x => e x.symm)]
/-- The state behind an operation. -/
theorem Rel.put (hR : Rel t h N w0 ρ a w) {h' : Heap} {ρ' : Own} {w' : World} {d : Option Tmp} {x : AV} {v : Value} (hd : ∀ k, d = some k → k < N) (hG : G h' w0 ρ' w') (ha : Adv ρ w ρ' w') (hx : AR ρ' w' x v) : Rel (putS d x t) h' N w0 ρ' (a.put d v) w' := by
  refine ⟨hG, fun i y hy => ?_, by rw [size_put]; exact hR.size, by rw [defers_put]; exact hR.defers⟩
  rw [get_putS] at hy
  by_cases e : d = some i
  · rw [if_pos e] at hy
    cases hy
    rw [e, getD_put_same a i v (by rw [hR.size]; exact hd i e)]
    exact hx
  · rw [if_neg e] at hy
    rw [getD_put_ne a d i v e]
    exact (hR.slots i y hy).adv ha
theorem Rel.refine (hR : Rel t h N w0 ρ a w) {d : Nat} {x : AV} (hx : get t d = some x) : Rel ((d, x) :: t) h N w0 ρ a w :=
  ⟨hR.g, fun i y hy => by
    simp only [get] at hy
    split at hy
    · rename_i e; cases hy; subst e; exact hR.slots i x hx
    · exact hR.slots i y hy, hR.size, hR.defers⟩
theorem blkOf_at {b : Nat} {blk : Blk} (hb : blkOf h b = some blk) : h[b]? = some (some blk) := by
  unfold blkOf at hb
  cases hc : h[b]? with
  | none => rw [hc] at hb; cases hb
  | some o => rw [hc] at hb; rw [show o = some blk from hb]
theorem srcE_R (hR : Rel t h N w0 ρ a w) {m : Nat} {tx : TypeId} {xv : AV} {K : List (List CV) → Prop} {x : Value} (hm : 0 < m) (hx : AR ρ w xv x) (hs : srcE P h m tx xv K) : ∃ ys, K ys ∧ SrcR P ρ w m tx x ys := by
  unfold srcE at hs
  split at hs
  · obtain ⟨rfl, em, h1, h2⟩ := hs
    obtain ⟨i0, hu, _, _⟩ := elemL_parts (e := em.1) (k := em.2) h1
    exact ⟨_, h2, src_view hm hu hx⟩
  · obtain ⟨rfl, em, h1, blk, h2, h3, h4, h5⟩ := hs
    obtain ⟨i0, hu, _, _⟩ := elemL_parts (e := em.1) (k := em.2) h1
    exact ⟨_, h5, src_own hm hR.g (blkOf_at h2) h3 h4 hu hx⟩
  · obtain ⟨h1, rfl, h2⟩ := hs
    exact ⟨_, h2, src_string h1 hx.1.val_eq⟩
  · obtain ⟨em, h1, h2⟩ := hs
    obtain ⟨i0, hu, _, _⟩ := elemL_parts (e := em.1) (k := em.2) h1
    have e := hx.1.val_eq
    exact ⟨_, h2, by rw [e]; exact src_nil hu _ _⟩
  · obtain ⟨em, h1, h2⟩ := hs
    obtain ⟨i0, hu, _, _⟩ := elemL_parts (e := em.1) (k := em.2) h1
    obtain ⟨⟨b, rfl⟩, _⟩ := hx
    exact ⟨_, h2, src_nil hu _ _⟩
  · exact hs.elim
theorem AR_und : AR ρ w .und undef := rfl
theorem stoE_sound (hR : Rel t h N w0 ρ a w) {o : Oper} (hd : ∀ k, o.dst = some k → k < N) {T : TypeId} {x y : Operand} (ho : o.op = .store T x y) {K : Slots → Heap → Prop} {Q : Exit → Act → World → Prop} (hE : stoE P t h o T x y K) :
    o.wp P a w (fun a' w' => ∃ t' h' ρ', K t' h' ∧ Rel t' h' N w0 ρ' a' w' ∧ Adv ρ w ρ' w') Q := by
  obtain ⟨u, h1, ⟨m, b, i, j⟩, h2, v, h3, cs, h4, ⟨k, ag⟩, h5, blk, h6, row, h7, h8, h9, h10, h11⟩ := hE
  have hp : u = one (.ptr m b i j) := by unfold ptrOf at h2; split at h2 <;> cases h2; rfl
  subst hp
  obtain ⟨w', hrun, hG', ha⟩ := e_store hR.g (blkOf_at h6) h8 h7 h5 h10 (hR.evO x _ h1) (hR.evO y v h3) h4 h9
  unfold Oper.wp execOp
  simp only [ho, Sem.run_bind, hrun, Result.andThen_ok, Sem.run_pure]
  exact ⟨_, _, ρ, h11, hR.put hd hG' ha AR_und, ha⟩
theorem appE_sound (hR : Rel t h N w0 ρ a w) {o : Oper} (hd : ∀ k, o.dst = some k → k < N) {T tx : TypeId} {s x : Operand} (ho : o.op = .call { callee := .builtin .append, args := #[s, x], argTypes := #[T, tx] }) {K : Slots → Heap → Prop} {Q : Exit → Act → World → Prop} (hE : appE P t h o s x T tx K) :
    o.wp P a w (fun a' w' => ∃ t' h' ρ', K t' h' ∧ Rel t' h' N w0 ρ' a' w' ∧ Adv ρ w ρ' w') Q := by
  obtain ⟨sv, h1, xv, h2, ⟨e, m⟩, h3, z, h4, by_, h5, h6, h7, h8⟩ := hE
  obtain ⟨ys, h9, hsrc⟩ := srcE_R hR h7 (hR.evO x xv h2) h8
  have key : ∃ u w' ρ' x' h', (Builtin.append_ #[T, tx] o.type #[a.eval s, a.eval x]).run P w = .ok u w' ∧ K (putS o.dst x' t) h' ∧ G h' w0 ρ' w' ∧ Adv ρ w ρ' w' ∧ AR ρ' w' x' u := by
    have hsx := hR.evO s sv h1
    dsimp only at h9
    split at h9
    · obtain ⟨rfl, blk, h10, h11, h12, h13, h14, h15, h16⟩ := h9
      obtain ⟨T', m', rows⟩ := blk
      dsimp only at h11 h12 h13 h16
      subst h11; subst h12
      obtain ⟨u, w', ρ', r1, r2, r3, r4⟩ := e_append (P := P) (T := T) (ty := o.type) hR.g (blkOf_at h10) h13 h3 h4 h6 h7 h5 hsx hsrc h14 h15
      exact ⟨u, w', ρ', _, _, r1, h16, r2, r3, r4⟩
    · obtain ⟨h10, h11, h12⟩ := h9
      have e1 := hsx.1.val_eq
      obtain ⟨u, w', ρ', r1, r2, r3, r4⟩ := e_append_nil (P := P) (T := T) (ty := o.type) hR.g h3 h4 h6 h5 hsrc h10 h11
      exact ⟨u, w', ρ', _, _, by rw [e1]; exact r1, h12, r2, r3, r4⟩
    · obtain ⟨h10, h11, h12⟩ := h9
      obtain ⟨⟨b, e1⟩, _⟩ := hsx
      obtain ⟨u, w', ρ', r1, r2, r3, r4⟩ := e_append_nil (P := P) (T := T) (ty := o.type) hR.g h3 h4 h6 h5 hsrc h10 h11
      exact ⟨u, w', ρ', _, _, by rw [e1]; exact r1, h12, r2, r3, r4⟩
    · exact h9.elim
  obtain ⟨u, w', ρ', x', h', r1, r2, r3, r4, r5⟩ := key
  exact wp_of_run (by unfold execOp; simp only [ho, resolve, invoke, builtin, Sem.run_bind, Sem.run_pure, Result.andThen_ok, List.map_toArray, List.map_cons, List.map_nil, r1]) ⟨_, h', ρ', r2, hR.put hd r3 r4 r5, r4⟩
theorem opE_sound (hR : Rel t h N w0 ρ a w) {o : Oper} (hd : ∀ k, o.dst = some k → k < N) {K : Slots → Heap → Prop} {Q : Exit → Act → World → Prop} (hE : opE P t h o K) :
    o.wp P a w (fun a' w' => ∃ t' h' ρ', K t' h' ∧ Rel t' h' N w0 ρ' a' w' ∧ Adv ρ w ρ' w') Q := by
  unfold opE at hE
  split at hE
  · rename_i T x y ho; exact stoE_sound hR hd ho hE
  · rename_i args argTypes ho
    split at hE
    · rename_i s x T tx ha ht
      have ea : args = #[s, x] := by apply Array.ext'; simpa using ha
      have et : argTypes = #[T, tx] := by apply Array.ext'; simpa using ht
      subst ea; subst et
      exact appE_sound hR hd ho hE
    · exact hE.elim
  · rename_i f args argTypes ho
    obtain ⟨xs, h1, h2, h3⟩ := hE
    obtain ⟨e1, e2, e3⟩ := omap_at h1
    have hcall := h3 w0 w ρ (args.map a.eval) hR.g (by simp [e1]) (fun j x hj => by
      obtain ⟨y, h4, h5⟩ := e2 j x hj
      have h4' : args[j]? = some y := by simpa using h4
      exact ⟨a.eval y, by simp [h4'], hR.evO y x h5⟩)
    have hrun : (execOp a.eval o).run P w = .ok (.enter f (args.map a.eval)) w := by
      unfold execOp
      simp only [ho, resolve, Act.eval, Deferred.ofValue, invoke, Sem.run_bind, Sem.run_pure, Result.andThen_ok, Array.empty_append, Array.append_empty, run_enter h2]
    unfold Oper.wp
    rw [hrun, Oper.upon_enter]
    refine hcall.mono ?_
    rintro e w' ⟨v, x, h', ρ', rfl, k, hG', ha, hx⟩
    exact ⟨_, h', ρ', k, hR.put hd hG' ha hx, ha⟩
  · refine Oper.wp_mono ?_ (opF_sound hR.g (fun b blk hb => hb) hR.fresh (fun x _ v hv => hR.evO x v hv) hE)
    rintro a' w' ⟨v, rfl, x, bs, ρ', k, hb, hx, hbs⟩
    cases bs with
    | none =>
      dsimp only at hbs
      subst hbs
      have ha : Adv ρ' w ρ' w' := .of_below hb
      exact ⟨_, _, ρ', k, hR.put hd (hR.g.pass hb) ha hx, ha⟩
    | some blk =>
      obtain ⟨g, rfl, hg1, hg2, hblk⟩ := hbs
      have ha := adv_new (o := 0) hb hR.fresh hg1
      have hG' := (hR.g.more [some blk]).new hb hR.fresh (by simp) hg1 hg2 (by simp) hblk
      exact ⟨_, _, _, k, hR.put hd hG' ha hx, ha⟩
theorem guardE_sound (hR : Rel t h N w0 ρ a w) {ops : Array Oper} {o : Oper} {Ky Kn : Slots → Prop} (hg : guardE ops t o Ky Kn) :
    (∃ t', Region.wanted o (yielded ops a.tmps) = true ∧ Ky t' ∧ Rel t' h N w0 ρ a w) ∨ (∃ t', Region.wanted o (yielded ops a.tmps) = false ∧ Kn t' ∧ Rel t' h N w0 ρ a w) := by
  unfold guardE at hg
  split at hg
  · rename_i hn
    exact .inl ⟨t, by unfold Region.wanted; rw [hn], hg, hR⟩
  · rename_i j b hn
    obtain ⟨d, h1, v, h2, h3⟩ := hg
    have hv := hR.slots d v h2
    split at h3
    · rename_i c
      have e := hv.1.val_eq
      have hw := wanted_sym (a := a) hn h1 e
      by_cases hc : c = b
      · subst hc
        exact .inl ⟨_, by rw [hw]; simp, h3.1 rfl, hR.refine h2⟩
      · have hc' : c = !b := by cases c <;> cases b <;> simp_all
        subst hc'
        exact .inr ⟨_, by rw [hw]; cases b <;> rfl, h3.2 rfl, hR.refine h2⟩
    · exact .inr ⟨t, wanted_undef hn h1 hv, h3, hR⟩
    · exact h3.elim
theorem opsE_sound {ops : Array Oper} {Q : Exit → Act → World → Prop} {K : Slots → Heap → Prop} : ∀ (l : List Oper) (k : Nat) (t : Slots) (h : Heap) (ρ : Own) (a : Act) (w : World), (∀ i o, l[i]? = some o → ops[k + i]? = some o) → Rel t h N w0 ρ a w → opsE P ops N l t h K →
    (∀ t' h' ρ' a' w', K t' h' → Rel t' h' N w0 ρ' a' w' → Adv ρ w ρ' w' → Q .normal a' w') → wpOps P ops Q (List.range' k l.length) a w
  | [], k, t, h, ρ, a, w, _, hR, hE, hQ => hQ t h ρ a w hE hR (Adv.refl _ _)
  | o :: r, k, t, h, ρ, a, w, hl, hR, hE, hQ => by
    obtain ⟨hd, hE⟩ := hE
    have ho : ops[k]? = some o := by simpa using hl 0 o rfl
    rw [List.length_cons, List.range'_succ]
    simp only [wpOps, ho]
    have hr : ∀ i o', r[i]? = some o' → ops[k + 1 + i]? = some o' := fun i o' hi => by rw [show k + 1 + i = k + (i + 1) by omega]; exact hl (i + 1) o' hi
    rcases guardE_sound hR hE with ⟨t', hw, hK, hR'⟩ | ⟨t', hw, hK, hR'⟩
    · rw [if_pos hw]
      refine .inl (Oper.wp_mono ?_ (opE_sound hR' hd hK))
      rintro a' w' ⟨t'', h'', ρ', hK', hR'', ha⟩
      exact opsE_sound r (k + 1) t'' h'' ρ' a' w' hr hR'' hK' (fun t3 h3 ρ3 a3 w3 k3 r3 a3' => hQ t3 h3 ρ3 a3 w3 k3 r3 (ha.trans a3'))
    · rw [if_neg (by rw [hw]; simp)]
      exact opsE_sound r (k + 1) _ h ρ _ w hr (hR'.put hd hR'.g (Adv.refl _ _) AR_und) hK hQ
end
end AM
end Go.Proofs.Ytioejbgdhmiiiaa
