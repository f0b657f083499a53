/- The abstract machine, 9: the evaluation of one operation that touches no own block, and its soundness. -/
import Derived.Test.YtioejbgdhmiiiaaAM8
namespace Go.Proofs.Ytioejbgdhmiiiaa
open Go.RowKit
set_option linter.unusedVariables false
set_option linter.unusedSimpArgs false
namespace AM
abbrev Slots := List (Nat × AV)
def evB (t : Slots) (x : Operand) : Option Bool := match evO t x with
  | some (.a (.one (.p (.val (.bool b))))) => some b
  | _ => none
def evI (t : Slots) (x : Operand) : Option (IntKind × Int) := match evO t x with
  | some (.a (.one (.p (.val (.int k i))))) => some (k, i)
  | _ => none
def aggOf : AV → Option (List CV)
  | .a (.agg cs) => some cs
  | _ => none
def tupOf : AV → Option (List A1)
  | .tup xs => some xs
  | _ => none
/-- An operation on values alone. -/
def litF (P : Program) (t : Slots) (o : Oper) (K : AV → Option Blk → Prop) : Prop :=
  o.op.operands.toList.all (hasLit t) = true ∧ (match o.op with | .select .. => False | _ => True) ∧ pk P (execOp (litO t) o) (fun nx => match nx with
    | .value v => ow (ofV v) fun x => K x none
    | _ => False)
/-- What a comparison says, in every world. -/
def SemIs (P : Program) (t : Slots) (o : Oper) (r : Bool) : Prop := ∀ w, (execOp (litO t) o).run P w = .ok (.value (.bool r)) w
def semF (P : Program) (t : Slots) (o : Oper) (K : AV → Option Blk → Prop) : Prop :=
  o.op.operands.toList.all (hasLit t) = true ∧ (match o.op with | .select .. => False | _ => True) ∧ ∃ r, SemIs P t o r ∧ K (V (.bool r)) none
def isAggA : AV → Bool
  | .a (.agg _) => true
  | _ => false
def idxF (v : AV) (i : IntKind × Int) (em : TypeId × Nat) (K : AV → Option Blk → Prop) : Prop := match v with
  | .a (.one (.p (.view m rows))) => m = em.2 ∧ 0 ≤ i.2 ∧ ow rows[i.2.toNat]? fun row => K (one (.vp row)) none
  | .a (.one (.sl m b s len)) => m = em.2 ∧ 0 ≤ i.2 ∧ i.2 < len ∧ K (one (.ptr m b (s + i.2.toNat) 0)) none
  | _ => False
def boundO (t : Slots) (d : Int) : Option Operand → Option Int
  | none => some d
  | some x => (evI t x).map (·.2)
def slcF (v : AV) (t : Slots) (lo hi : Option Operand) (em : TypeId × Nat) (K : AV → Option Blk → Prop) : Prop := match v with
  | .a (.one (.p (.view m rows))) => m = em.2 ∧ ow (boundO t 0 lo) fun l => ow (boundO t rows.length hi) fun h => 0 ≤ l ∧ l ≤ h ∧ h ≤ rows.length ∧ K (one (.p (.view m ((rows.take h.toNat).drop l.toNat)))) none
  | .a (.one (.sl m b s len)) => m = em.2 ∧ ow (boundO t 0 lo) fun l => ow (boundO t len hi) fun h => 0 ≤ l ∧ l ≤ h ∧ h ≤ len ∧ K (one (.sl m b (s + l.toNat) (h.toNat - l.toNat))) none
  | _ => False
def isStr : AV → Bool
  | .a (.one (.p (.val _))) => true
  | _ => false
def lenF (P : Program) (T : TypeId) (v : AV) (K : AV → Option Blk → Prop) : Prop := match v with
  | .a (.one (.p (.view m rows))) => ow (elemL P T) fun _ => K (V (.int .i64 rows.length)) none
  | .a (.one (.sl m b s len)) => ow (elemL P T) fun _ => K (V (.int .i64 len)) none
  | .a (.one .nilsl) => ow (elemL P T) fun _ => K (V (.int .i64 0)) none
  | _ => False
def partsA (t : Slots) (parts : Array (Nat × Operand)) : Option (List (Nat × List CV)) := omap (fun p => ((evO t p.2).bind cellsA).map fun cs => (p.1, cs)) parts.toList
def strOf : AV → Option ByteArray
  | .a (.one (.p (.val (.string s)))) => some s
  | _ => none
def isSliceD : Option TypeDesc → Bool
  | some (.slice _) => true
  | _ => false
/-- Conversions between strings and bytes. -/
def convF (P : Program) (h : Heap) (n : Nat) (S D : TypeId) (v : AV) (K : AV → Option Blk → Prop) : Prop := match v with
  | .a (.one (.p (.val (.string s)))) => ∃ e, P.underlying S = some .string ∧ P.underlying D = some (.slice e) ∧ P.underlying e = some (.int .u8) ∧ s.size ≤ maxLen ∧ K (one (.sl 1 n 0 s.size)) (some ⟨e, 1, s.data.toList.map byteRow⟩)
  | .a (.one (.p (.view m rows))) => ∃ (e : TypeId) (l : List UInt8), P.underlying S = some (.slice e) ∧ P.underlying D = some .string ∧ P.underlying e = some (.int .u8) ∧ m = 1 ∧ rows = l.map byteRowP ∧ K (V (.string ⟨l.toArray⟩)) none
  | .a (.one (.sl m b s len)) => ∃ (e : TypeId) (l : List UInt8), P.underlying S = some (.slice e) ∧ P.underlying D = some .string ∧ P.underlying e = some (.int .u8) ∧ m = 1 ∧ (ow h[b]? fun ob => ow ob fun blk => blk.m = 1 ∧ (blk.rows.drop s).take len = l.map byteRow ∧ l.length = len) ∧ K (V (.string ⟨l.toArray⟩)) none
  | _ => False
/-- One operation. n: the number of the block that it may make. -/
def opF (P : Program) (t : Slots) (h : Heap) (n : Nat) (o : Oper) (K : AV → Option Blk → Prop) : Prop :=
  match o.op with
  | .move x | .assign x => ow (evO t x) fun v => K v none
  | .pick c x y => ow (evB t c) fun b => ow (evO t x) fun u => ow (evO t y) fun v => K (pickA b u v) none
  | .alloc T => ow (zeroL P T) fun z => K (one (.ptr z.length n 0 0)) (some ⟨T, z.length, [z.map fun v => .p (.val v)]⟩)
  | .box T x => ow (evO t x) fun v => ow (cellsA v) fun cs => K (one (.ptr cs.length n 0 0)) (some ⟨T, cs.length, [cs]⟩)
  | .build T parts => ow (fieldsL P T) fun l => ow (zeroL P T) fun z => ow (partsA t parts) fun ps => ow (fillA (fun i => (l[i]?).map fun s => (s.1, s.2.1)) (z.map fun v => .p (.val v)) ps) fun out => K (.a (.agg out)) none
  | .buildSlice T len parts => if len = 0 then parts.toList = [] ∧ ow (elemL P T) fun _ => K (one .nilsl) none else
      ow (elemL P T) fun em => ow (zeroL P em.1) fun z => z.length = em.2 ∧ em.2 ≠ 0 ∧ len * em.2 ≤ 16777216 ∧ ow (partsA t parts) fun ps => ow (fillA (fun i => some (i * em.2, em.2)) ((List.replicate len (z.map fun v => CV.p (.val v))).flatten) ps) fun out => K (one (.sl em.2 n 0 len)) (some ⟨em.1, em.2, chunk em.2 len out⟩)
  | .load T x => ow (evO t x) fun v => ow (loadA P h T v) fun y => K (.a y) none
  | .field T x f => ow (evO t x) fun v => ow (aggOf v) fun cs => ow (fieldsL P T) fun l => ow l[f]? fun s => ow (partA cs s) fun y => K (.a y) none
  | .fieldAddr T x f => ow (evO t x) fun v => ow (fieldsL P T) fun l => ow l[f]? fun s => s.2.1 ≠ 0 ∧ ow (fieldAddrA v s.1) fun y => K (one y) none
  | .extract x i => ow (evO t x) fun v => ow (tupOf v) fun xs => ow xs[i]? fun y => K (.a y) none
  | .indexAddr T x ix => ow (evO t x) fun v => ow (evI t ix) fun i => ow (elemL P T) fun em => idxF v i em K
  | .slice T x lo hi mx => ow (evO t x) fun v => if isStr v then litF P t o K else mx = none ∧ ow (elemL P T) fun em => slcF v t lo hi em K
  | .makeSlice T l c => ow (evI t l) fun l => ow (evI t c) fun c => ow (elemL P T) fun em => ow (zeroL P em.1) fun z => ow (bytesL P em.1) fun by_ => z.length = em.2 ∧ em.2 ≠ 0 ∧ 0 ≤ l.2 ∧ l.2 ≤ c.2 ∧ (by_ : Int) * c.2 ≤ 281474976710656 ∧ c.2 ≤ 9223372036854775807 ∧ K (one (.sl em.2 n 0 l.2.toNat)) (some ⟨em.1, em.2, List.replicate l.2.toNat (z.map fun v => .p (.val v))⟩)
  | .convert S D x => ow (evO t x) fun v => if isStr v && !isSliceD (P.underlying D) then litF P t o K else convF P h n S D v K
  | .binOp _ _ x _ _ => ow (evO t x) fun u => if isAggA u then semF P t o K else litF P t o K
  | .call { callee := .builtin b, args, argTypes } => match b, args.toList, argTypes.toList with
    | .len, [x], [T] => ow (evO t x) fun v => if isStr v then litF P t o K else lenF P T v K
    | _, _, _ => litF P t o K
  | .call { callee := .value (.func f), args, argTypes } => ow (omap (evO t) args.toList) fun xs => ∃ r, PureC P h f xs r ∧ K r none
  | _ => litF P t o K
section
variable {P : Program} {ρ : Own} {w w0 : World} {h H : Heap}
theorem of_s {o : Oper} {a : Act} {n : Nat} {K : AV → Option Blk → Prop} {Q : Exit → Act → World → Prop} {s : Sem Value} (he : execOp a.eval o = (do pure (.value (← s)))) (hs : ∃ u w', s.run P w = .ok u w' ∧ Post ρ w n K u w') :
    o.wp P a w (fun a' w' => ∃ v, a' = a.put o.dst v ∧ Post ρ w n K v w') Q := by
  obtain ⟨u, w', h1, h2⟩ := hs
  exact wp_of_run (by rw [he]; exact run_v h1) ⟨u, rfl, h2⟩
theorem litO_eq {t : Slots} {a : Act} {x : Operand} (hT : ∀ v, evO t x = some v → AR ρ w v (a.eval x)) (hl : hasLit t x = true) : a.eval x = litO t x := by
  unfold hasLit at hl; unfold litO
  cases hx : evO t x with
  | none => rw [hx] at hl; cases hl
  | some v =>
    rw [hx] at hl
    dsimp only at hl ⊢
    obtain ⟨u, hu⟩ := Option.isSome_iff_exists.1 hl
    rw [hu]
    exact litA_eq (hT v hx) hu
theorem litF_sound {t : Slots} {a : Act} {n : Nat} {o : Oper} {K : AV → Option Blk → Prop} {Q : Exit → Act → World → Prop} (hT : ∀ x ∈ o.op.operands.toList, ∀ v, evO t x = some v → AR ρ w v (a.eval x)) (hF : litF P t o K) :
    o.wp P a w (fun a' w' => ∃ v, a' = a.put o.dst v ∧ Post ρ w n K v w') Q := by
  obtain ⟨h1, h2, h3⟩ := hF
  have e : execOp a.eval o = execOp (litO t) o := execOp_congr o (fun cs b hs => by rw [hs] at h2; exact h2) (fun x hx => litO_eq (hT x (by simpa using hx)) (List.all_eq_true.1 h1 x (by simpa using hx)))
  obtain ⟨nx, h4, h5⟩ := pk_sound _ _ h3
  cases nx with
  | value v =>
    obtain ⟨x, h6, h7⟩ := h4
    exact wp_of_run (by rw [e]; exact h5 w) ⟨v, rfl, Post.val h7 (ofV_R h6)⟩
  | _ => exact h4.elim
theorem semF_sound {t : Slots} {a : Act} {n : Nat} {o : Oper} {K : AV → Option Blk → Prop} {Q : Exit → Act → World → Prop} (hT : ∀ x ∈ o.op.operands.toList, ∀ v, evO t x = some v → AR ρ w v (a.eval x)) (hF : semF P t o K) :
    o.wp P a w (fun a' w' => ∃ v, a' = a.put o.dst v ∧ Post ρ w n K v w') Q := by
  obtain ⟨h1, h2, r, h3, h4⟩ := hF
  have e : execOp a.eval o = execOp (litO t) o := execOp_congr o (fun cs b hs => by rw [hs] at h2; exact h2) (fun x hx => litO_eq (hT x (by simpa using hx)) (List.all_eq_true.1 h1 x (by simpa using hx)))
  exact wp_of_run (by rw [e]; exact h3 w) ⟨_, rfl, Post.val h4 ⟨.val _, rfl⟩⟩
theorem evB_R {t : Slots} {a : Act} {x : Operand} {b : Bool} (hT : ∀ v, evO t x = some v → AR ρ w v (a.eval x)) (h : evB t x = some b) : a.eval x = .bool b := by
  unfold evB at h
  split at h
  · rename_i hx; cases h; exact (hT _ hx).1.val_eq
  · cases h
theorem evI_R {t : Slots} {a : Act} {x : Operand} {k : IntKind} {i : Int} (hT : ∀ v, evO t x = some v → AR ρ w v (a.eval x)) (h : evI t x = some (k, i)) : a.eval x = .int k i := by
  unfold evI at h
  split at h
  · rename_i hx; cases h; exact (hT _ hx).1.val_eq
  · cases h
theorem boundO_R {t : Slots} {a : Act} {d l : Int} {lo : Option Operand} (hT : ∀ x, lo = some x → ∀ v, evO t x = some v → AR ρ w v (a.eval x)) (h : boundO t d lo = some l) : bound d (lo.map a.eval) = some l := by
  cases lo with
  | none => exact h
  | some x =>
    simp only [boundO, Option.map_eq_some_iff] at h
    obtain ⟨⟨k, i⟩, h1, rfl⟩ := h
    rw [Option.map_some, evI_R (hT x rfl) h1]
    rfl
theorem partsA_R {t : Slots} {a : Act} {parts : Array (Nat × Operand)} {ps : List (Nat × List CV)} (hT : ∀ p ∈ parts.toList, ∀ v, evO t p.2 = some v → AR ρ w v (a.eval p.2)) (h : partsA t parts = some ps) :
    (parts.map fun (i, x) => (i, a.eval x)).toList.map (·.1) = ps.map (·.1) ∧ ∀ (j : Nat) p q, ps[j]? = some p → (parts.map fun (i, x) => (i, a.eval x)).toList[j]? = some q → CellsR ρ w p.2 q.2.cells := by
  obtain ⟨h1, h2, h3⟩ := omap_at h
  refine ⟨?_, fun j p q hp hq => ?_⟩
  · apply List.ext_getElem?
    intro j
    simp only [Array.toList_map, List.map_map, List.getElem?_map]
    cases hj : parts.toList[j]? with
    | none =>
      have : ps[j]? = none := List.getElem?_eq_none (by rw [h1]; exact List.getElem?_eq_none_iff.1 hj)
      rw [this]; rfl
    | some p =>
      obtain ⟨b, h4, h5⟩ := h3 j p hj
      rw [h4]
      simp only [Option.map_eq_some_iff] at h5
      obtain ⟨cs, _, rfl⟩ := h5
      rfl
  · obtain ⟨x, h4, h5⟩ := h2 j p hp
    simp only [Array.toList_map, List.getElem?_map, h4] at hq
    cases hq
    simp only [Option.map_eq_some_iff, Option.bind_eq_some_iff] at h5
    obtain ⟨cs, ⟨v, h6, h7⟩, rfl⟩ := h5
    exact cellsA_R (hT x (List.mem_of_getElem? h4) v h6) h7
theorem strOf_R {v : AV} {u : Value} {s : ByteArray} (h : strOf v = some s) (hx : AR ρ w v u) : u = .string s := by
  unfold strOf at h
  split at h
  · cases h; exact hx.1.val_eq
  · cases h
theorem opF_sound (hG : G H w0 ρ w) (hH : ∀ (b : Nat) blk, h[b]? = some (some blk) → H[b]? = some (some blk)) {t : Slots} {a : Act} {n : Nat} {o : Oper} {K : AV → Option Blk → Prop} {Q : Exit → Act → World → Prop} (hn : ρ n = none)
    (hT : ∀ x ∈ o.op.operands.toList, ∀ v, evO t x = some v → AR ρ w v (a.eval x)) (hF : opF P t h n o K) :
    o.wp P a w (fun a' w' => ∃ v, a' = a.put o.dst v ∧ Post ρ w n K v w') Q := by
  unfold opF at hF
  split at hF
  · rename_i x ho
    obtain ⟨v, h1, h2⟩ := hF
    exact wp_of_run (v := a.eval x) (by unfold execOp; rw [ho]; rfl) ⟨_, rfl, Post.val h2 (hT x (by simp [ho, Op.operands]) v h1)⟩
  · rename_i x ho
    obtain ⟨v, h1, h2⟩ := hF
    exact wp_of_run (v := a.eval x) (by unfold execOp; rw [ho]; rfl) ⟨_, rfl, Post.val h2 (hT x (by simp [ho, Op.operands]) v h1)⟩
  · rename_i c x y ho
    obtain ⟨b, h1, u, h2, v, h3, h4⟩ := hF
    have hb := evB_R (hT c (by simp [ho, Op.operands])) h1
    refine wp_of_run (v := if b then a.eval x else a.eval y) (by unfold execOp; rw [ho]; simp [hb, asBool]) ⟨_, rfl, Post.val h4 (pickA_R (hT x (by simp [ho, Op.operands]) u h2) (hT y (by simp [ho, Op.operands]) v h3))⟩
  · rename_i T ho
    obtain ⟨z, h1, h2⟩ := hF
    exact of_s (by unfold execOp; rw [ho]) (s_alloc hn h1 h2)
  · rename_i T x ho
    obtain ⟨v, h1, cs, h2, h3⟩ := hF
    exact of_s (by unfold execOp; rw [ho]) (s_box hn (hT x (by simp [ho, Op.operands]) v h1) h2 h3)
  · rename_i T parts ho
    obtain ⟨l, h1, z, h2, ps, h3, out, h4, h5⟩ := hF
    have hp := partsA_R (fun p hp v hv => hT p.2 (by simp only [ho, Op.operands]; simpa using ⟨p.1, by simpa using hp⟩) v hv) h3
    exact of_s (by unfold execOp; rw [ho]) (s_build h1 h2 hp.1 hp.2 h4 h5)
  · rename_i T len parts ho
    split at hF
    · rename_i hlen
      subst hlen
      obtain ⟨h1, em, h2, h3⟩ := hF
      have : parts = #[] := by simpa using h1
      subst this
      exact of_s (by unfold execOp; rw [ho]) (s_buildNil (m := em.2) (e := em.1) h2 (by simp) h3)
    · rename_i hlen
      obtain ⟨em, h1, z, h2, h3, h4, h5, ps, h6, out, h7, h8⟩ := hF
      have hp := partsA_R (fun p hp v hv => hT p.2 (by simp only [ho, Op.operands]; simpa using ⟨p.1, by simpa using hp⟩) v hv) h6
      exact of_s (by unfold execOp; rw [ho]) (s_buildSlice (e := em.1) hn h1 h2 h3 h4 hlen h5 hp.1 hp.2 h7 h8)
  · rename_i T x ho
    obtain ⟨v, h1, y, h2, h3⟩ := hF
    exact of_s (by unfold execOp; rw [ho]) (s_load hG hH (hT x (by simp [ho, Op.operands]) v h1) h2 h3)
  · rename_i T x f ho
    obtain ⟨v, h1, cs, h2, l, h3, s, h4, y, h5, h6⟩ := hF
    have e : v = .a (.agg cs) := by unfold aggOf at h2; split at h2 <;> cases h2; rfl
    exact of_s (by unfold execOp; rw [ho]) (s_field (hT x (by simp [ho, Op.operands]) v h1) e h3 h4 h5 h6)
  · rename_i T x f ho
    obtain ⟨v, h1, l, h2, s, h3, h4, y, h5, h6⟩ := hF
    exact of_s (by unfold execOp; rw [ho]) (s_fieldAddr (hT x (by simp [ho, Op.operands]) v h1) h2 h3 h4 h5 h6)
  · rename_i x i ho
    obtain ⟨v, h1, xs, h2, y, h3, h4⟩ := hF
    have e : v = .tup xs := by unfold tupOf at h2; split at h2 <;> cases h2; rfl
    exact of_s (by unfold execOp; rw [ho]) (s_extract (hT x (by simp [ho, Op.operands]) v h1) e h3 h4)
  · rename_i T x ix ho
    obtain ⟨v, h1, ⟨k, i⟩, h2, ⟨e, m⟩, h3, h4⟩ := hF
    have hx := hT x (by simp [ho, Op.operands]) v h1
    have hi := evI_R (hT ix (by simp [ho, Op.operands])) h2
    refine of_s (s := Instr.indexAt T (a.eval x) (a.eval ix)) (by unfold execOp; rw [ho]) ?_
    rw [hi]
    unfold idxF at h4
    split at h4
    · obtain ⟨rfl, h5, row, h6, h7⟩ := h4
      exact s_index_view h3 hx h5 h6 h7
    · obtain ⟨rfl, h5, h6, h7⟩ := h4
      exact s_index_own h3 hx h5 h6 h7
    · exact h4.elim
  · rename_i T x lo hi mx ho
    obtain ⟨v, h1, h2⟩ := hF
    split at h2
    · exact litF_sound hT h2
    · obtain ⟨rfl, ⟨e, m⟩, h3, h4⟩ := h2
      have hx := hT x (by simp [ho, Op.operands]) v h1
      refine of_s (s := Instr.sliceAt T (a.eval x) (lo.map a.eval) (hi.map a.eval) none) (by unfold execOp; rw [ho]; rfl) ?_
      unfold slcF at h4
      split at h4
      · obtain ⟨rfl, l, h5, hh, h6, h7, h8, h9, h10⟩ := h4
        exact s_slice_view h3 hx (boundO_R (fun y hy => hT y (by simp [ho, Op.operands, hy])) h5) (boundO_R (fun y hy => hT y (by simp [ho, Op.operands, hy])) h6) h7 h8 h9 h10
      · obtain ⟨rfl, l, h5, hh, h6, h7, h8, h9, h10⟩ := h4
        exact s_slice_own h3 hx (boundO_R (fun y hy => hT y (by simp [ho, Op.operands, hy])) h5) (boundO_R (fun y hy => hT y (by simp [ho, Op.operands, hy])) h6) h7 h8 h9 h10
      · exact h4.elim
  · rename_i T l c ho
    obtain ⟨⟨kl, l'⟩, h1, ⟨kc, c'⟩, h2, ⟨e, m⟩, h3, z, h4, by_, h5, h6, h7, h8, h9, h10, h11, h12⟩ := hF
    have hl := evI_R (hT l (by simp [ho, Op.operands])) h1
    have hc := evI_R (hT c (by simp [ho, Op.operands])) h2
    refine of_s (s := Instr.makeSlice T (a.eval l) (a.eval c)) (by unfold execOp; rw [ho]) ?_
    rw [hl, hc]
    exact s_make hn h3 h4 h6 h7 h5 h8 h9 h10 h11 h12
  · rename_i S D x ho
    obtain ⟨v, h1, h2⟩ := hF
    split at h2
    · exact litF_sound hT h2
    · have hx := hT x (by simp [ho, Op.operands]) v h1
      refine of_s (s := convert S D (a.eval x)) (by unfold execOp; rw [ho]) ?_
      unfold convF at h2
      split at h2
      · obtain ⟨e, h3, h4, h5, h6, h7⟩ := h2
        have e1 := hx.1.val_eq
        rw [e1]
        exact s_bytes_of hn h3 h4 h5 h6 h7
      · obtain ⟨e, l, h3, h4, h5, rfl, h6, h7⟩ := h2
        exact s_string_view h3 h4 h5 hx h6 h7
      · obtain ⟨e, l, h3, h4, h5, rfl, ⟨ob, h6, blk, h7, h8, h9, h10⟩, h11⟩ := h2
        subst h7
        exact s_string_own hG (hH _ _ h6) h3 h4 h5 hx h8 h9 h10 h11
      · exact h2.elim
  · rename_i x y _ ho
    obtain ⟨u, h1, h2⟩ := hF
    split at h2
    · exact semF_sound hT h2
    · exact litF_sound hT h2
  · rename_i b args argTypes ho
    split at hF
    · rename_i x T ha ht
      obtain ⟨v, h1, h2⟩ := hF
      split at h2
      · exact litF_sound hT h2
      · have ea : args = #[x] := by apply Array.ext'; simpa using ha
        have et : argTypes = #[T] := by apply Array.ext'; simpa using ht
        subst ea; subst et
        have hx := hT x (by simp [ho, Op.operands, Call.operands]) v h1
        have hs : ∃ u w', (Builtin.len_ #[T] o.type #[a.eval x]).run P w = .ok u w' ∧ Post ρ w n K u w' := by
          unfold lenF at h2
          split at h2
          · obtain ⟨⟨e, m⟩, h3, h4⟩ := h2; exact s_len_view h3 hx h4
          · obtain ⟨⟨e, m⟩, h3, h4⟩ := h2; exact s_len_own h3 hx h4
          · obtain ⟨⟨e, m⟩, h3, h4⟩ := h2; exact s_len_nil h3 hx h4
          · exact h2.elim
        obtain ⟨u, w', h8, h9⟩ := hs
        exact wp_of_run (by unfold execOp; simp only [ho, resolve, invoke, builtin, Sem.run_bind, Sem.run_pure, Result.andThen_ok, List.map_toArray, List.map_cons, List.map_nil, h8]) ⟨u, rfl, h9⟩
    · exact litF_sound hT hF
  · rename_i f args argTypes ho
    obtain ⟨xs, h1, r, h2, h3⟩ := hF
    obtain ⟨e1, e2, e3⟩ := omap_at h1
    have hcall := PureC.calls (n := n) (K := K) hG hH h2 (vs := args.map a.eval) (by simp [e1]) (fun j x hj => by
      obtain ⟨y, h4, h5⟩ := e2 j x hj
      have h4' : args[j]? = some y := by simpa using h4
      refine ⟨a.eval y, by simp [h4'], hT y ?_ x h5⟩
      simp only [ho, Op.operands, Call.operands]
      simp only [Array.toList_append, List.mem_append]
      exact .inr (by simpa using Array.mem_of_getElem? h4')) h3
    have hrun : (execOp a.eval o).run P w = .ok (.enter f (args.map a.eval)) w := by
      unfold execOp
      simp only [ho, resolve, Act.eval, Deferred.ofValue, invoke, Sem.run_bind, Sem.run_pure, Result.andThen_ok, Array.empty_append, Array.append_empty, run_enter h2.enter]
    unfold Oper.wp
    rw [hrun, Oper.upon_enter]
    refine hcall.mono ?_
    rintro e w' ⟨v, rfl, hp⟩
    exact ⟨v, rfl, hp⟩
  · exact litF_sound hT hF
end
end AM
end Go.Proofs.Ytioejbgdhmiiiaa
