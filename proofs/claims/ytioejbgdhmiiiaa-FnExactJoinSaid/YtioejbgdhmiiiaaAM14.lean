/- The abstract machine, 14: a region that draws its order: the first k operations in any order, the others behind them. -/
import Derived.Test.YtioejbgdhmiiiaaAM13
namespace Go.Proofs.Ytioejbgdhmiiiaa
open Go.RowKit
set_option linter.unusedVariables false
set_option linter.unusedSimpArgs false
namespace AM
/-! ### What waits for what -/
def direct (o : Oper) : List Nat := (o.after.toList.filter (Region.binds .any)).map (·.on)
def ins (s : List Nat) (e : Nat) : List Nat := if s.contains e then s else e :: s
theorem mem_ins : ∀ (l s : List Nat) (x : Nat), x ∈ l.foldl ins s → x ∈ s ∨ x ∈ l
  | [], s, x, h => .inl h
  | e :: r, s, x, h => by
    rcases mem_ins r (ins s e) x h with h1 | h1
    · unfold ins at h1
      split at h1
      · exact .inl h1
      · rcases List.mem_cons.1 h1 with rfl | h2
        · exact .inr (List.mem_cons_self ..)
        · exact .inl h2
    · exact .inr (List.mem_cons_of_mem _ h1)
def closure : List (List Nat) → List Oper → List (List Nat)
  | acc, [] => acc
  | acc, o :: r => closure (acc ++ [((direct o) ++ (direct o).flatMap fun e => acc.getD e []).foldl ins []]) r
theorem closure_sound {ops : Array Oper} {L : Nat → Prop} (hcl : ∀ i j, L i → waitsFor ops i j = true → L j) : ∀ (l : List Oper) (acc : List (List Nat)), (∀ i o, l[i]? = some o → ops[acc.length + i]? = some o) →
    (∀ i, i < acc.length → (∀ j, waitsFor ops i j = true → L j) → ∀ j ∈ acc.getD i [], L j) → ∀ i, i < acc.length + l.length → (∀ j, waitsFor ops i j = true → L j) → ∀ j ∈ (closure acc l).getD i [], L j
  | [], acc, hl, ha, i, hi, hw, j, hj => ha i (by simpa using hi) hw j hj
  | o :: r, acc, hl, ha, i, hi, hw, j, hj => by
    refine closure_sound hcl r (acc ++ [_]) (fun i o' h => by
      have := hl (i + 1) o' h
      rwa [List.length_append, List.length_singleton, show acc.length + 1 + i = acc.length + (i + 1) by omega]) (fun i hi hw j hj => ?_) i (by simp at hi ⊢; omega) hw j hj
    by_cases hlt : i < acc.length
    · rw [List.getD_eq_getElem?_getD, List.getElem?_append_left hlt, ← List.getD_eq_getElem?_getD] at hj
      exact ha i hlt hw j hj
    · have e : i = acc.length := by simp at hi; omega
      subst e
      have ho : ops[acc.length]? = some o := by simpa using hl 0 o rfl
      rw [List.getD_eq_getElem?_getD, List.getElem?_append_right (Nat.le_refl _), Nat.sub_self] at hj
      have hd : ∀ e ∈ direct o, L e := fun e he => hw e (by
        unfold direct at he
        obtain ⟨ed, h1, rfl⟩ := List.mem_map.1 he
        obtain ⟨h2, h3⟩ := List.mem_filter.1 h1
        simp only [waitsFor, ho, List.any_eq_true, Bool.and_eq_true, beq_iff_eq]
        exact ⟨ed, h2, h3, rfl⟩)
      rcases mem_ins _ _ j hj with h1 | h1
      · cases h1
      · rcases List.mem_append.1 h1 with h2 | h2
        · exact hd j h2
        · obtain ⟨e, he, h3⟩ := List.mem_flatMap.1 h2
          by_cases hel : e < acc.length
          · exact ha e hel (fun j' hj' => hcl e j' (hd e he) hj') j h3
          · rw [List.getD_eq_getElem?_getD, List.getElem?_eq_none (by omega)] at h3; cases h3
/-- The form that the rule asks: whoever reads a slot waits for its writer, or the writer for it; behind k each waits for all. -/
def drawOk (ops : Array Oper) (k N : Nat) : Bool :=
  inOrderA ops && onceOnly ops N && Region.noSelect ops && decide (k ≤ ops.size) &&
  (List.range k).all (fun i => match ops[i]? with
    | some o => (o.looksAt ops).all fun d => (List.range ops.size).all fun j => i == j || dstOf ops j != some d || (if j < i then waitsFor ops i j else waitsFor ops j i)
    | none => true) &&
  (let c := closure [] ops.toList; (List.range ops.size).all fun i => decide (i < k) || (List.range i).all fun j => (c.getD i []).contains j)
/-! ### The chain, seen from one place -/
def Look (base : Slots) (ops : Array Oper) (V : List AV) (i : Nat) (t : Slots) : Prop :=
  ∀ d x, get t d = some x → (∃ j, j < i ∧ dstOf ops j = some d ∧ V[j]? = some x) ∨ ((∀ j, j < i → dstOf ops j ≠ some d) ∧ get base d = some x)
theorem Look.same {base : Slots} {ops : Array Oper} {V : List AV} {i : Nat} {t : Slots} (h : Look base ops V i t) {d : Nat} {x : AV} (hx : get t d = some x) : Look base ops V i ((d, x) :: t) := fun d' y hy => by
  simp only [get] at hy
  split at hy
  · rename_i e; cases hy; subst e; exact h d' x hx
  · exact h d' y hy
theorem Look.more {base : Slots} {ops : Array Oper} {V W : List AV} {i : Nat} {t : Slots} (h : Look base ops V i t) (hi : i ≤ V.length) : Look base ops (V ++ W) i t := fun d x hx => by
  rcases h d x hx with ⟨j, h1, h2, h3⟩ | h1
  · exact .inl ⟨j, h1, h2, by rw [List.getElem?_append_left (by omega)]; exact h3⟩
  · exact .inr h1
theorem Look.put {base : Slots} {ops : Array Oper} {V : List AV} {t : Slots} {o : Oper} {x : AV} (h : Look base ops V V.length t) (ho : ops[V.length]? = some o) : Look base ops (V ++ [x]) (V.length + 1) (putS o.dst x t) := fun d y hy => by
  have hdst : dstOf ops V.length = o.dst := by unfold dstOf; rw [ho]; rfl
  rw [get_putS] at hy
  by_cases e : o.dst = some d
  · rw [if_pos e] at hy
    cases hy
    exact .inl ⟨V.length, by omega, hdst.trans e, by simp⟩
  · rw [if_neg e] at hy
    rcases h d y hy with ⟨j, h1, h2, h3⟩ | ⟨h1, h2⟩
    · exact .inl ⟨j, by omega, h2, by rw [List.getElem?_append_left h1]; exact h3⟩
    · refine .inr ⟨fun j hj => ?_, h2⟩
      by_cases e2 : j = V.length
      · subst e2; rw [hdst]; exact e
      · exact h1 j (by omega)
def Step1 (P : Program) (ops : Array Oper) (t : Slots) (h : Heap) (o : Oper) (x : AV) (bs : Option Blk) : Prop :=
  (o.guard = none ∧ opF P t h h.length o (Is x bs)) ∨ (∃ j b d, o.guard = some (j, b) ∧ gslot ops j = some d ∧ get t d = some (V (.bool b)) ∧ opF P t h h.length o (Is x bs)) ∨
    (∃ j b d, o.guard = some (j, b) ∧ gslot ops j = some d ∧ (get t d = some (V (.bool !b)) ∨ get t d = some .und) ∧ x = .und ∧ bs = none)
section
variable {P : Program}
theorem chain_at {ops : Array Oper} {N : Nat} {base : Slots} {hb : Heap} {l : List Oper} {t : Slots} {h : Heap} {V : List AV} {B : List (Option Blk)} {t' : Slots} {h' : Heap} (hc : Chain P ops N l t h V B t' h') : ∀ (pV : List AV) (pB : List (Option Blk)), pB.length = pV.length →
    (∀ i o, l[i]? = some o → ops[pV.length + i]? = some o) → h = hb ++ pB → Look base ops pV pV.length t →
    (∀ i o, l[i]? = some o → ∃ ti x bs, (pV ++ V)[pV.length + i]? = some x ∧ (pB ++ B)[pV.length + i]? = some bs ∧ (∀ d, o.dst = some d → d < N) ∧ Look base ops (pV ++ V) (pV.length + i) ti ∧ Step1 P ops ti (hb ++ (pB ++ B).take (pV.length + i)) o x bs) ∧
      Look base ops (pV ++ V) (pV.length + l.length) t' ∧ h' = hb ++ (pB ++ B) ∧ V.length = l.length ∧ B.length = l.length := by
  -- one operation more
  have key : ∀ (o : Oper) (r : List Oper) (t ti tn : Slots) (h : Heap) (x : AV) (bs : Option Blk) (V : List AV) (B : List (Option Blk)) (t' : Slots) (h' : Heap) (pV : List AV) (pB : List (Option Blk)), pB.length = pV.length → (∀ i o', (o :: r)[i]? = some o' → ops[pV.length + i]? = some o') → h = hb ++ pB →
      Look base ops pV pV.length ti → (∀ d, o.dst = some d → d < N) → Step1 P ops ti h o x bs → tn = putS o.dst x ti →
      (∀ (pV : List AV) (pB : List (Option Blk)), pB.length = pV.length → (∀ i o, r[i]? = some o → ops[pV.length + i]? = some o) → (h ++ [bs]) = hb ++ pB → Look base ops pV pV.length tn →
        (∀ i o, r[i]? = some o → ∃ ti x bs, (pV ++ V)[pV.length + i]? = some x ∧ (pB ++ B)[pV.length + i]? = some bs ∧ (∀ d, o.dst = some d → d < N) ∧ Look base ops (pV ++ V) (pV.length + i) ti ∧ Step1 P ops ti (hb ++ (pB ++ B).take (pV.length + i)) o x bs) ∧
          Look base ops (pV ++ V) (pV.length + r.length) t' ∧ h' = hb ++ (pB ++ B) ∧ V.length = r.length ∧ B.length = r.length) →
      (∀ i o', (o :: r)[i]? = some o' → ∃ ti x' bs', (pV ++ x :: V)[pV.length + i]? = some x' ∧ (pB ++ bs :: B)[pV.length + i]? = some bs' ∧ (∀ d, o'.dst = some d → d < N) ∧ Look base ops (pV ++ x :: V) (pV.length + i) ti ∧ Step1 P ops ti (hb ++ (pB ++ bs :: B).take (pV.length + i)) o' x' bs') ∧
        Look base ops (pV ++ x :: V) (pV.length + (o :: r).length) t' ∧ h' = hb ++ (pB ++ bs :: B) ∧ (x :: V).length = (o :: r).length ∧ (bs :: B).length = (o :: r).length := by
    intro o r t ti tn h x bs V B t' h' pV pB hl hops hh hL hd hS htn ih
    subst htn
    have ho : ops[pV.length]? = some o := by simpa using hops 0 o rfl
    have ih' := ih (pV ++ [x]) (pB ++ [bs]) (by simp [hl]) (fun i o' hi => by
      have := hops (i + 1) o' hi
      rw [List.length_append, List.length_singleton, show pV.length + 1 + i = pV.length + (i + 1) by omega]
      exact this) (by rw [hh, List.append_assoc]) (by rw [List.length_append, List.length_singleton]; exact hL.put ho)
    simp only [List.append_assoc, List.singleton_append, List.length_append, List.length_singleton] at ih'
    obtain ⟨i1, i2, i3, i4, i5⟩ := ih'
    refine ⟨fun i o' hi => ?_, by rw [List.length_cons, show pV.length + (r.length + 1) = pV.length + 1 + r.length by omega]; exact i2, i3, by simp [i4], by simp [i5]⟩
    cases i with
    | zero =>
      cases hi
      refine ⟨ti, x, bs, by simp, by rw [Nat.add_zero, ← hl]; simp, hd, ?_, ?_⟩
      · exact hL.more (Nat.le_refl _)
      · rw [Nat.add_zero, ← hl, List.take_left' rfl, ← hh]; exact hS
    | succ i =>
      obtain ⟨t2, x2, b2, k1, k2, k3, k4, k5⟩ := i1 i o' hi
      rw [show pV.length + 1 + i = pV.length + (i + 1) by omega] at k1 k2 k4 k5
      exact ⟨t2, x2, b2, k1, k2, k3, k4, k5⟩
  induction hc with
  | nil t h =>
    intro pV pB hl hops hh hL
    exact ⟨fun i o hi => by simp at hi, by simpa using hL, by simpa using hh, rfl, rfl⟩
  | plain o r t h x bs V B t' h' hd hg hF hr ih =>
    intro pV pB hl hops hh hL
    exact key o r t t _ h x bs V B t' h' pV pB hl hops hh hL hd (.inl ⟨hg, hF⟩) rfl ih
  | yes o r t h j b d x bs V B t' h' hd hg hs hv hF hr ih =>
    intro pV pB hl hops hh hL
    exact key o r t _ _ h x bs V B t' h' pV pB hl hops hh (hL.same hv) hd (.inr (.inl ⟨j, b, d, hg, hs, by simp [get], hF⟩)) rfl ih
  | no o r t h j b d V B t' h' hd hg hs hv hr ih =>
    intro pV pB hl hops hh hL
    exact key o r t _ _ h .und none V B t' h' pV pB hl hops hh (hL.same hv) hd (.inr (.inr ⟨j, b, d, hg, hs, .inl (by simp [get]), rfl, rfl⟩)) rfl ih
  | skip o r t h j b d V B t' h' hd hg hs hv hr ih =>
    intro pV pB hl hops hh hL
    exact key o r t _ _ h .und none V B t' h' pV pB hl hops hh hL hd (.inr (.inr ⟨j, b, d, hg, hs, .inr hv, rfl, rfl⟩)) rfl ih
end
end AM
end Go.Proofs.Ytioejbgdhmiiiaa
