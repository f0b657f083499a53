/- The abstract machine, 19: a law for each kind of operation. -/
import Derived.Test.YtioejbgdhmiiiaaAM18
import Derived.Test.YtioejbgdhmiiiaaBytesMath
namespace Go.Proofs.Ytioejbgdhmiiiaa
open Go.RowKit
set_option linter.unusedVariables false
set_option linter.unusedSimpArgs false
namespace AM
section
variable {P : Program} {N : Nat} {t t1 : Slots} {h : Heap} {o : Oper} {n : Nat}
/-- Operations that touch no own block. -/
def isF (o : Oper) : Bool := match o.op with
  | .store .. => false
  | .call { callee := .builtin .append, .. } => false
  | .call { callee := .value (.func _), .. } => false
  | _ => true
theorem opE_F {K : Slots → Heap → Prop} (hF : isF o = true) (hx : opF P t h h.length o fun x bs => K (putS o.dst x t) (addB h bs)) : opE P t h o K := by
  unfold isF at hF
  unfold opE
  split
  · rename_i ho; rw [ho] at hF; cases hF
  · rename_i ho; rw [ho] at hF; cases hF
  · rename_i ho; rw [ho] at hF; cases hF
  · exact hx
/-- The slots at an operation that is wanted. -/
def gyes (ops : Array Oper) (t : Slots) (o : Oper) : Option Slots := match o.guard with
  | none => some t
  | some (j, b) => match gslot ops j with
    | none => none
    | some d => match get t d with
      | some (.a (.one (.p (.val (.bool c))))) => bif c == b then some ((d, Bo b) :: t) else none
      | _ => none
/-- The slots at one that is not. -/
def gno (ops : Array Oper) (t : Slots) (o : Oper) : Option Slots := match o.guard with
  | none => none
  | some (j, b) => match gslot ops j with
    | none => none
    | some d => match get t d with
      | some (.a (.one (.p (.val (.bool c))))) => bif c == b then none else some ((d, Bo !b) :: t)
      | some .und => some t
      | _ => none
theorem gyes_E {ops : Array Oper} {Ky Kn : Slots → Prop} (hg : gyes ops t o = some t1) (hk : Ky t1) : guardE ops t o Ky Kn := by
  unfold gyes at hg
  unfold guardE
  split at hg
  · rename_i e; cases hg; rw [e]; exact hk
  · rename_i j b e
    rw [e]
    split at hg
    · cases hg
    · rename_i d hs
      split at hg
      · rename_i c hv
        cases hcb : c == b with
        | false => rw [hcb] at hg; cases hg
        | true =>
          rw [hcb] at hg
          cases hg
          have := eq_of_beq hcb
          subst this
          exact ⟨d, hs, _, hv, show (_ → _) ∧ (_ → _) from ⟨fun _ => hk, fun e => by cases c <;> cases e⟩⟩
      · cases hg
theorem gno_E {ops : Array Oper} {Ky Kn : Slots → Prop} (hg : gno ops t o = some t1) (hk : Kn t1) : guardE ops t o Ky Kn := by
  unfold gno at hg
  unfold guardE
  split at hg
  · cases hg
  · rename_i j b e
    rw [e]
    split at hg
    · cases hg
    · rename_i d hs
      split at hg
      · rename_i c hv
        cases hcb : c == b with
        | true => rw [hcb] at hg; cases hg
        | false =>
          rw [hcb] at hg
          cases hg
          have hc : c = !b := by cases c <;> cases b <;> simp_all
          subst hc
          exact ⟨d, hs, _, hv, show (_ → _) ∧ (_ → _) from ⟨fun e => (by cases b <;> cases e), fun _ => hk⟩⟩
      · rename_i hv; cases hg; exact ⟨d, hs, _, hv, hk⟩
      · cases hg
section
variable {ops : Array Oper} {r : List Oper} {K : Slots → Heap → Prop} {d : Nat} {x : AV} {b : Blk}
theorem dst_lt (hd : o.dst = some d) (hN : decide (d < N) = true) : ∀ d', o.dst = some d' → d' < N := fun d' hd' => by rw [hd] at hd'; cases hd'; simpa using hN
theorem stN (hg : gyes ops t o = some t1) (hd : o.dst = some d) (hN : decide (d < N) = true) (hF : isF o = true) (hx : ∀ K : AV → Option Blk → Prop, K x none → opF P t1 h h.length o K) (k : opsE P ops N r ((d, x) :: t1) h K) : opsE P ops N (o :: r) t h K :=
  ⟨dst_lt hd hN, gyes_E hg (opE_F hF (hx _ (by rw [hd]; exact k)))⟩
theorem stB (hg : gyes ops t o = some t1) (hd : o.dst = some d) (hN : decide (d < N) = true) (hF : isF o = true) (hx : ∀ K : AV → Option Blk → Prop, K x (some b) → opF P t1 h h.length o K) (k : opsE P ops N r ((d, x) :: t1) (h ++ [some b]) K) : opsE P ops N (o :: r) t h K :=
  ⟨dst_lt hd hN, gyes_E hg (opE_F hF (hx _ (by rw [hd]; exact k)))⟩
theorem stU (hg : gno ops t o = some t1) (hd : o.dst = some d) (hN : decide (d < N) = true) (k : opsE P ops N r ((d, .und) :: t1) h K) : opsE P ops N (o :: r) t h K :=
  ⟨dst_lt hd hN, gno_E hg (by rw [hd]; exact k)⟩
theorem scN (hg : gyes ops t o = some t1) (hd : o.dst = some d) (hN : decide (d < N) = true) (hx : ∀ K : AV → Option Blk → Prop, K x none → opF P t1 h h.length o K) (k : chainE P ops N r ((d, x) :: t1) (h ++ [none]) K) : chainE P ops N (o :: r) t h K :=
  ⟨dst_lt hd hN, gyes_E hg (hx _ (by rw [hd]; exact k))⟩
theorem scB (hg : gyes ops t o = some t1) (hd : o.dst = some d) (hN : decide (d < N) = true) (hx : ∀ K : AV → Option Blk → Prop, K x (some b) → opF P t1 h h.length o K) (k : chainE P ops N r ((d, x) :: t1) (h ++ [some b]) K) : chainE P ops N (o :: r) t h K :=
  ⟨dst_lt hd hN, gyes_E hg (hx _ (by rw [hd]; exact k))⟩
theorem scU (hg : gno ops t o = some t1) (hd : o.dst = some d) (hN : decide (d < N) = true) (k : chainE P ops N r ((d, .und) :: t1) (h ++ [none]) K) : chainE P ops N (o :: r) t h K :=
  ⟨dst_lt hd hN, gno_E hg (by rw [hd]; exact k)⟩
/-- A guard that nobody has decided. -/
theorem get_dup {d : Nat} {y : AV} (hv : get t d = some y) : ∀ i, get ((d, y) :: t) i = get t i := fun i => by
  simp only [get]; split
  · rename_i e; subst e; exact hv.symm
  · rfl
theorem guardE_if {j : Nat} {c b : Bool} {Ky Kn : Slots → Prop} (hg : o.guard = some (j, b)) (hs : gslot ops j = some d) (hv : get t d = some (Bo c)) (h1 : c = b → Ky ((d, Bo b) :: t)) (h2 : c = !b → Kn ((d, Bo !b) :: t)) : guardE ops t o Ky Kn := by
  unfold guardE; rw [hg]
  exact ⟨d, hs, _, hv, show (_ → _) ∧ (_ → _) from ⟨h1, h2⟩⟩
/-- Without the guard. -/
theorem st_if {j : Nat} {c b : Bool} {d' : Nat} (hg : o.guard = some (j, b)) (hs : gslot ops j = some d) (hv : get t d = some (Bo c)) (hd : o.dst = some d') (hN : decide (d' < N) = true) (h1 : c = b → opsE P ops N ({ o with guard := none } :: r) ((d, Bo b) :: t) h K) (h2 : c = !b → opsE P ops N r ((d', .und) :: (d, Bo !b) :: t) h K) : opsE P ops N (o :: r) t h K :=
  ⟨dst_lt hd hN, guardE_if hg hs hv (fun e => (h1 e).2) (fun e => by rw [hd]; exact h2 e)⟩
theorem sc_if {j : Nat} {c b : Bool} {d' : Nat} (hg : o.guard = some (j, b)) (hs : gslot ops j = some d) (hv : get t d = some (Bo c)) (hd : o.dst = some d') (hN : decide (d' < N) = true) (h1 : c = b → chainE P ops N ({ o with guard := none } :: r) ((d, Bo b) :: t) h K) (h2 : c = !b → chainE P ops N r ((d', .und) :: (d, Bo !b) :: t) (h ++ [none]) K) : chainE P ops N (o :: r) t h K :=
  ⟨dst_lt hd hN, guardE_if hg hs hv (fun e => (h1 e).2) (fun e => by rw [hd]; exact h2 e)⟩
/-- Calls. -/
theorem st_eff {f : FuncId} {args : Array Operand} {Ts : Array TypeId} {xs : List AV} (hg : gyes ops t o = some t1) (hd : o.dst = some d) (hN : decide (d < N) = true) (ho : o.op = .call { callee := .value (.func f), args := args, argTypes := Ts }) (ha : omap (evO t1) args.toList = some xs)
    (hx : Eff P h f xs fun x h' => opsE P ops N r ((d, x) :: t1) h' K) : opsE P ops N (o :: r) t h K := by
  refine ⟨dst_lt hd hN, gyes_E hg ?_⟩
  unfold opE; rw [ho, hd]
  exact ⟨xs, ha, hx⟩
theorem st_call {f : FuncId} {args : Array Operand} {Ts : Array TypeId} {xs : List AV} {y : AV} (hg : gyes ops t o = some t1) (hd : o.dst = some d) (hN : decide (d < N) = true) (ho : o.op = .call { callee := .value (.func f), args := args, argTypes := Ts }) (ha : omap (evO t1) args.toList = some xs)
    (hc : PureC P h f xs y) (k : opsE P ops N r ((d, y) :: t1) h K) : opsE P ops N (o :: r) t h K := st_eff hg hd hN ho ha (eff_pure hc k)
theorem sc_call {f : FuncId} {args : Array Operand} {Ts : Array TypeId} {xs : List AV} {y : AV} (hg : gyes ops t o = some t1) (hd : o.dst = some d) (hN : decide (d < N) = true) (ho : o.op = .call { callee := .value (.func f), args := args, argTypes := Ts }) (ha : omap (evO t1) args.toList = some xs)
    (hc : PureC P h f xs y) (k : chainE P ops N r ((d, y) :: t1) (h ++ [none]) K) : chainE P ops N (o :: r) t h K := by
  refine ⟨dst_lt hd hN, gyes_E hg ?_⟩
  unfold opF; rw [ho, hd]
  exact ⟨xs, ha, y, hc, k⟩
theorem st_store {T : TypeId} {X Y : Operand} {m bn i j sz : Nat} {ag : Bool} {v : AV} {cs row : List CV} {blk : Blk} {out : List CV} {h' : Heap} (hg : gyes ops t o = some t1) (hd : o.dst = none) (ho : o.op = .store T X Y) (hx : evO t1 X = some (one (.ptr m bn i j))) (hy : evO t1 Y = some v) (hc : cellsA v = some cs) (hs : sizeL P T = some (sz, ag))
    (hb : blkOf h bn = some blk) (hr : blk.rows[i]? = some row) (hm : blk.m = m) (hl : cs.length = sz) (hj : j + sz ≤ row.length) (ho2 : over row j cs = out) (hh : h.set bn (some ⟨blk.T, blk.m, blk.rows.set i out⟩) = h') (k : opsE P ops N r t1 h' K) : opsE P ops N (o :: r) t h K := by
  refine ⟨fun d hd' => (by rw [hd] at hd'; cases hd'), gyes_E hg ?_⟩
  unfold opE; rw [ho]
  subst ho2; subst hh
  exact ⟨_, hx, _, rfl, v, hy, cs, hc, _, hs, blk, hb, row, hr, hm, hl, hj, by rw [hd]; exact k⟩
end
/-! ### The operations -/
variable {K : AV → Option Blk → Prop}
theorem f_move {X : Operand} {v : AV} (ho : o.op = .move X) (hx : evO t X = some v) (k : K v none) : opF P t h n o K := by unfold opF; rw [ho]; exact ⟨v, hx, k⟩
theorem f_assign {X : Operand} {v : AV} (ho : o.op = .assign X) (hx : evO t X = some v) (k : K v none) : opF P t h n o K := by unfold opF; rw [ho]; exact ⟨v, hx, k⟩
theorem f_pick {C X Y : Operand} {b : Bool} {u v y : AV} (ho : o.op = .pick C X Y) (hc : evB t C = some b) (hx : evO t X = some u) (hy : evO t Y = some v) (hp : pickA b u v = y) (k : K y none) : opF P t h n o K := by unfold opF; rw [ho]; subst hp; exact ⟨b, hc, u, hx, v, hy, k⟩
theorem f_alloc {T : TypeId} {z : List Value} (ho : o.op = .alloc T) (hz : zeroL P T = some z) (k : K (one (.ptr z.length n 0 0)) (some ⟨T, z.length, [z.map fun v => .p (.val v)]⟩)) : opF P t h n o K := by unfold opF; rw [ho]; exact ⟨z, hz, k⟩
theorem f_box {T : TypeId} {X : Operand} {v : AV} {cs : List CV} (ho : o.op = .box T X) (hx : evO t X = some v) (hc : cellsA v = some cs) (k : K (one (.ptr cs.length n 0 0)) (some ⟨T, cs.length, [cs]⟩)) : opF P t h n o K := by unfold opF; rw [ho]; exact ⟨v, hx, cs, hc, k⟩
theorem f_build {T : TypeId} {parts : Array (Nat × Operand)} {l : List (Nat × Nat × Bool)} {z : List Value} {ps : List (Nat × List CV)} {out : List CV} (ho : o.op = .build T parts) (hl : fieldsL P T = some l) (hz : zeroL P T = some z) (hp : partsA t parts = some ps) (hf : fillA (fun i => (l[i]?).map fun s => (s.1, s.2.1)) (z.map fun v => .p (.val v)) ps = some out) (k : K (.a (.agg out)) none) : opF P t h n o K := by unfold opF; rw [ho]; exact ⟨l, hl, z, hz, ps, hp, out, hf, k⟩
theorem f_load {T : TypeId} {X : Operand} {v : AV} {y : A1} (ho : o.op = .load T X) (hx : evO t X = some v) (hl : loadA P h T v = some y) (k : K (.a y) none) : opF P t h n o K := by unfold opF; rw [ho]; exact ⟨v, hx, y, hl, k⟩
theorem f_field {T : TypeId} {X : Operand} {f : Nat} {cs : List CV} {l : List (Nat × Nat × Bool)} {s : Nat × Nat × Bool} {y : A1} (ho : o.op = .field T X f) (hx : evO t X = some (.a (.agg cs))) (hl : fieldsL P T = some l) (hs : l[f]? = some s) (hp : partA cs s = some y) (k : K (.a y) none) : opF P t h n o K := by unfold opF; rw [ho]; exact ⟨_, hx, cs, rfl, l, hl, s, hs, y, hp, k⟩
theorem f_fieldAddr {T : TypeId} {X : Operand} {f : Nat} {v : AV} {l : List (Nat × Nat × Bool)} {s : Nat × Nat × Bool} {y : CV} (ho : o.op = .fieldAddr T X f) (hx : evO t X = some v) (hl : fieldsL P T = some l) (hs : l[f]? = some s) (hn : decide (s.2.1 = 0) = false) (hy : fieldAddrA v s.1 = some y) (k : K (one y) none) : opF P t h n o K := by unfold opF; rw [ho]; exact ⟨v, hx, l, hl, s, hs, by simpa using hn, y, hy, k⟩
theorem f_extract {X : Operand} {i : Nat} {xs : List A1} {y : A1} (ho : o.op = .extract X i) (hx : evO t X = some (.tup xs)) (hi : xs[i]? = some y) (k : K (.a y) none) : opF P t h n o K := by unfold opF; rw [ho]; exact ⟨_, hx, xs, rfl, y, hi, k⟩
theorem f_index_view {T e : TypeId} {X Y : Operand} {m : Nat} {rows : List (List PV)} {row : List PV} {ki : IntKind} {i : Int} (ho : o.op = .indexAddr T X Y) (hx : evO t X = some (one (.p (.view m rows)))) (hy : evI t Y = some (ki, i)) (he : elemL P T = some (e, m)) (h0 : 0 ≤ i) (hr : rows[i.toNat]? = some row) (k : K (one (.vp row)) none) : opF P t h n o K := by unfold opF; rw [ho]; exact ⟨_, hx, _, hy, _, he, rfl, h0, row, hr, k⟩
theorem f_index_own {T e : TypeId} {X Y : Operand} {m b s len : Nat} {ki : IntKind} {i : Int} (ho : o.op = .indexAddr T X Y) (hx : evO t X = some (one (.sl m b s len))) (hy : evI t Y = some (ki, i)) (he : elemL P T = some (e, m)) (h0 : 0 ≤ i) (h1 : i < len) (k : K (one (.ptr m b (s + i.toNat) 0)) none) : opF P t h n o K := by unfold opF; rw [ho]; exact ⟨_, hx, _, hy, _, he, rfl, h0, h1, k⟩
theorem f_slice_view {T e : TypeId} {X : Operand} {lo hi : Option Operand} {m : Nat} {rows : List (List PV)} {l u : Int} (ho : o.op = .slice T X lo hi none) (hx : evO t X = some (one (.p (.view m rows)))) (he : elemL P T = some (e, m)) (hl : boundO t 0 lo = some l) (hu : boundO t rows.length hi = some u) (h0 : 0 ≤ l) (h1 : l ≤ u) (h2 : u ≤ rows.length) (k : K (one (.p (.view m ((rows.take u.toNat).drop l.toNat)))) none) : opF P t h n o K := by unfold opF; rw [ho]; exact ⟨_, hx, rfl, _, he, rfl, l, hl, u, hu, h0, h1, h2, k⟩
theorem f_slice_own {T e : TypeId} {X : Operand} {lo hi : Option Operand} {m b s len : Nat} {l u : Int} (ho : o.op = .slice T X lo hi none) (hx : evO t X = some (one (.sl m b s len))) (he : elemL P T = some (e, m)) (hl : boundO t 0 lo = some l) (hu : boundO t len hi = some u) (h0 : 0 ≤ l) (h1 : l ≤ u) (h2 : u ≤ len) (k : K (one (.sl m b (s + l.toNat) (u.toNat - l.toNat))) none) : opF P t h n o K := by unfold opF; rw [ho]; exact ⟨_, hx, rfl, _, he, rfl, l, hl, u, hu, h0, h1, h2, k⟩
theorem f_make {T e : TypeId} {X Y : Operand} {m by_ : Nat} {z : List Value} {kl kc : IntKind} {l c : Int} (ho : o.op = .makeSlice T X Y) (hx : evI t X = some (kl, l)) (hy : evI t Y = some (kc, c)) (he : elemL P T = some (e, m)) (hz : zeroL P e = some z) (hb : bytesL P e = some by_) (hzm : z.length = m) (hm : m ≠ 0) (h0 : 0 ≤ l) (h1 : l ≤ c) (h2 : (by_ : Int) * c ≤ 281474976710656) (h3 : c ≤ 9223372036854775807) (k : K (one (.sl m n 0 l.toNat)) (some ⟨e, m, List.replicate l.toNat (z.map fun v => .p (.val v))⟩)) : opF P t h n o K := by unfold opF; rw [ho]; exact ⟨_, hx, _, hy, _, he, z, hz, by_, hb, hzm, hm, h0, h1, h2, h3, k⟩
theorem f_len_view {T : TypeId} {X : Operand} {em : TypeId × Nat} {m : Nat} {rows : List (List PV)} (ho : o.op = .call { callee := .builtin .len, args := #[X], argTypes := #[T] }) (hx : evO t X = some (one (.p (.view m rows)))) (he : elemL P T = some em) (k : K (I rows.length) none) : opF P t h n o K := by unfold opF; rw [ho]; exact ⟨_, hx, em, he, k⟩
theorem f_len_own {T : TypeId} {X : Operand} {em : TypeId × Nat} {m b s len : Nat} (ho : o.op = .call { callee := .builtin .len, args := #[X], argTypes := #[T] }) (hx : evO t X = some (one (.sl m b s len))) (he : elemL P T = some em) (k : K (I len) none) : opF P t h n o K := by unfold opF; rw [ho]; exact ⟨_, hx, em, he, k⟩
/-- Literals. -/
theorem f_lit {K : AV → Option Blk → Prop} {v : Value} {x : AV} (hF : isF o = true) (hl : o.op.operands.toList.all (hasLit t) = true) (hp : pk P (execOp (litO t) o) (fun nx => nx = .value v)) (hv : ofV v = some x) (hq : ∀ K, litF P t o K → opF P t h n o K) (hs : (match o.op with | .select .. => False | _ => True)) (k : K x none) : opF P t h n o K := by
  refine hq _ ⟨hl, hs, ?_⟩
  have mono : ∀ {α : Type} (s : Sem α) (K K' : α → Prop), (∀ v, K v → K' v) → pk P s K → pk P s K' := fun s K K' hk => by
    intro hp
    induction s with
    | pure a => exact hk a hp
    | program k ih => exact ih P hp
    | mark m k ih => exact ih hp
    | _ => exact hp.elim
  exact mono _ _ _ (fun nx e => by subst e; exact ⟨x, hv, k⟩) hp
theorem lit_V {X : Operand} {u : Value} (hx : evO t X = some (V u)) : hasLit t X = true ∧ litO t X = u := by
  unfold hasLit litO; rw [hx]; exact ⟨rfl, rfl⟩
theorem f_bin {op : BinOp} {T ty : TypeId} {X Y : Operand} {u v r : Value} {x : AV} (ho : o.op = .binOp op T X Y ty) (hx : evO t X = some (V u)) (hy : evO t Y = some (V v)) (hr : pk P (do eqGuard op T X Y u v; binOp op T u v : Sem Value) (· = r)) (hv : ofV r = some x) (k : K x none) : opF P t h n o K := by
  unfold opF; rw [ho]
  refine ⟨_, hx, ?_⟩
  show litF P t o K
  obtain ⟨a1, a2⟩ := lit_V hx
  obtain ⟨b1, b2⟩ := lit_V hy
  refine ⟨by rw [ho]; simp [Op.operands, a1, b1], by rw [ho]; trivial, ?_⟩
  unfold execOp
  simp only [ho, a2, b2, pk_bind, pk_pure] at hr ⊢
  have mono : ∀ {α : Type} (s : Sem α) (K K' : α → Prop), (∀ v, K v → K' v) → pk P s K → pk P s K' := fun s K K' hk => by
    intro hp
    induction s with
    | pure a => exact hk a hp
    | program k ih => exact ih P hp
    | mark m k ih => exact ih hp
    | _ => exact hp.elim
  exact mono _ _ _ (fun _ hh => mono _ _ _ (fun nx e => by subst e; exact ⟨x, hv, k⟩) hh) hr
theorem f_un {op : UnOp} {T : TypeId} {X : Operand} {u r : Value} {x : AV} (ho : o.op = .unOp op T X) (hx : evO t X = some (V u)) (hr : pk P (Op.unary op u) (· = r)) (hv : ofV r = some x) (k : K x none) : opF P t h n o K := by
  unfold opF; rw [ho]
  show litF P t o K
  obtain ⟨a1, a2⟩ := lit_V hx
  refine ⟨by rw [ho]; simp [Op.operands, a1], by rw [ho]; trivial, ?_⟩
  unfold execOp
  simp only [ho, a2, pk_bind, pk_pure] at hr ⊢
  have mono : ∀ {α : Type} (s : Sem α) (K K' : α → Prop), (∀ v, K v → K' v) → pk P s K → pk P s K' := fun s K K' hk => by
    intro hp
    induction s with
    | pure a => exact hk a hp
    | program k ih => exact ih P hp
    | mark m k ih => exact ih hp
    | _ => exact hp.elim
  exact mono _ _ _ (fun nx e => by subst e; exact ⟨x, hv, k⟩) hr
theorem f_not {T : TypeId} {X : Operand} {b : Bool} (ho : o.op = .unOp .not T X) (hx : evO t X = some (Bo b)) (k : K (Bo !b) none) : opF P t h n o K := f_un ho hx rfl rfl k
theorem f_neg {T : TypeId} {X : Operand} {a : Int} (ho : o.op = .unOp .neg T X) (hx : evO t X = some (I a)) (h1 : -9223372036854775808 ≤ -a) (h2 : -a ≤ 9223372036854775807) (k : K (I (-a)) none) : opF P t h n o K := f_un (r := .int .i64 (-a)) ho hx (by show Value.int _ (IntKind.i64.wrap (0 - a)) = _; rw [Int.zero_sub, AM.wrap64 h1 h2]) rfl k

theorem f_add {T ty : TypeId} {X Y : Operand} {a b : Int} (ho : o.op = .binOp .add T X Y ty) (hx : evO t X = some (I a)) (hy : evO t Y = some (I b)) (h1 : -9223372036854775808 ≤ a + b) (h2 : a + b ≤ 9223372036854775807) (k : K (I (a + b)) none) : opF P t h n o K := f_bin (r := .int .i64 ((a + b))) ho hx hy (by show Value.int _ (IntKind.i64.wrap (a + b)) = _; rw [AM.wrap64 h1 h2]) rfl k
theorem f_sub {T ty : TypeId} {X Y : Operand} {a b : Int} (ho : o.op = .binOp .sub T X Y ty) (hx : evO t X = some (I a)) (hy : evO t Y = some (I b)) (h1 : -9223372036854775808 ≤ a - b) (h2 : a - b ≤ 9223372036854775807) (k : K (I (a - b)) none) : opF P t h n o K := f_bin (r := .int .i64 ((a - b))) ho hx hy (by show Value.int _ (IntKind.i64.wrap (a - b)) = _; rw [AM.wrap64 h1 h2]) rfl k
theorem f_mul {T ty : TypeId} {X Y : Operand} {a b : Int} (ho : o.op = .binOp .mul T X Y ty) (hx : evO t X = some (I a)) (hy : evO t Y = some (I b)) (h1 : -9223372036854775808 ≤ a * b) (h2 : a * b ≤ 9223372036854775807) (k : K (I (a * b)) none) : opF P t h n o K := f_bin (r := .int .i64 ((a * b))) ho hx hy (by show Value.int _ (IntKind.i64.wrap (a * b)) = _; rw [AM.wrap64 h1 h2]) rfl k
theorem f_eql {T ty : TypeId} {X Y : Operand} {a b : Int} (ho : o.op = .binOp .eql T X Y ty) (hx : evO t X = some (I a)) (hy : evO t Y = some (I b)) (k : K (Bo (a == b)) none) : opF P t h n o K := f_bin (r := .bool ((a == b))) ho hx hy (rfl) rfl k
theorem f_neq {T ty : TypeId} {X Y : Operand} {a b : Int} (ho : o.op = .binOp .neq T X Y ty) (hx : evO t X = some (I a)) (hy : evO t Y = some (I b)) (k : K (Bo (a != b)) none) : opF P t h n o K := f_bin (r := .bool ((a != b))) ho hx hy (rfl) rfl k
theorem f_lss {T ty : TypeId} {X Y : Operand} {a b : Int} (ho : o.op = .binOp .lss T X Y ty) (hx : evO t X = some (I a)) (hy : evO t Y = some (I b)) (k : K (Bo (decide (a < b))) none) : opF P t h n o K := f_bin (r := .bool ((decide (a < b)))) ho hx hy (rfl) rfl k
theorem f_leq {T ty : TypeId} {X Y : Operand} {a b : Int} (ho : o.op = .binOp .leq T X Y ty) (hx : evO t X = some (I a)) (hy : evO t Y = some (I b)) (k : K (Bo (decide (a ≤ b))) none) : opF P t h n o K := f_bin (r := .bool ((decide (a ≤ b)))) ho hx hy (rfl) rfl k
theorem f_gtr {T ty : TypeId} {X Y : Operand} {a b : Int} (ho : o.op = .binOp .gtr T X Y ty) (hx : evO t X = some (I a)) (hy : evO t Y = some (I b)) (k : K (Bo (decide (b < a))) none) : opF P t h n o K := f_bin (r := .bool ((decide (b < a)))) ho hx hy (rfl) rfl k
theorem f_geq {T ty : TypeId} {X Y : Operand} {a b : Int} (ho : o.op = .binOp .geq T X Y ty) (hx : evO t X = some (I a)) (hy : evO t Y = some (I b)) (k : K (Bo (decide (b ≤ a))) none) : opF P t h n o K := f_bin (r := .bool ((decide (b ≤ a)))) ho hx hy (rfl) rfl k
theorem f_and {T ty : TypeId} {X Y : Operand} {a b : Int} (ho : o.op = .binOp .and T X Y ty) (hx : evO t X = some (I a)) (hy : evO t Y = some (I b)) (k : K (I (bits .and .i64 a b)) none) : opF P t h n o K := f_bin (r := .int .i64 ((bits .and .i64 a b))) ho hx hy (rfl) rfl k
theorem f_or {T ty : TypeId} {X Y : Operand} {a b : Int} (ho : o.op = .binOp .or T X Y ty) (hx : evO t X = some (I a)) (hy : evO t Y = some (I b)) (k : K (I (bits .or .i64 a b)) none) : opF P t h n o K := f_bin (r := .int .i64 ((bits .or .i64 a b))) ho hx hy (rfl) rfl k
theorem f_xor {T ty : TypeId} {X Y : Operand} {a b : Int} (ho : o.op = .binOp .xor T X Y ty) (hx : evO t X = some (I a)) (hy : evO t Y = some (I b)) (k : K (I (bits .xor .i64 a b)) none) : opF P t h n o K := f_bin (r := .int .i64 ((bits .xor .i64 a b))) ho hx hy (rfl) rfl k
theorem f_quo {T ty : TypeId} {X Y : Operand} {a b : Int} (ho : o.op = .binOp .quo T X Y ty) (hx : evO t X = some (I a)) (hy : evO t Y = some (I b)) (h0 : 0 ≤ a) (hb : 0 < b) (h2 : a ≤ 9223372036854775807) (k : K (I (a / b)) none) : opF P t h n o K := f_bin (r := .int .i64 ((a / b))) ho hx hy (by
  show pk P (Op.intDiv .quo .i64 a b) _
  rw [pk_quo]
  refine ⟨by omega, ?_⟩
  rw [tdiv_pos h0, AM.wrap64]
  · have := Int.ediv_nonneg h0 (Int.le_of_lt hb); omega
  · exact Int.le_trans (Int.ediv_le_self b h0) h2) rfl k
theorem f_rem {T ty : TypeId} {X Y : Operand} {a b : Int} (ho : o.op = .binOp .rem T X Y ty) (hx : evO t X = some (I a)) (hy : evO t Y = some (I b)) (h0 : 0 ≤ a) (hb : 0 < b) (k : K (I (a % b)) none) : opF P t h n o K := f_bin (r := .int .i64 ((a % b))) ho hx hy (by
  show pk P (Op.intDiv .rem .i64 a b) _
  rw [pk_rem]
  exact ⟨by omega, by rw [tmod_pos h0]⟩) rfl k
theorem f_shl {T ty : TypeId} {X Y : Operand} {a s q : Int} {yk : IntKind} (ho : o.op = .binOp .shl T X Y ty) (hx : evO t X = some (I a)) (hy : evO t Y = some (V (.int yk s))) (h0 : 0 ≤ s) (hs : s ≤ 64) (hq : a * 2 ^ s.toNat = q) (h1 : -9223372036854775808 ≤ q) (h2 : q ≤ 9223372036854775807) (k : K (I q) none) : opF P t h n o K := f_bin (r := .int .i64 q) ho hx hy (by
  show pk P (Op.shift .shl .i64 a yk s) _
  rw [pk_shl]
  refine ⟨h0, ?_⟩
  rw [show min s.toNat IntKind.i64.bits = s.toNat from Nat.min_eq_left (by show s.toNat ≤ 64; omega), hq, AM.wrap64 h1 h2]) rfl k
theorem f_shr {T ty : TypeId} {X Y : Operand} {a s q : Int} {yk : IntKind} (ho : o.op = .binOp .shr T X Y ty) (hx : evO t X = some (I a)) (hy : evO t Y = some (V (.int yk s))) (h0 : 0 ≤ s) (hs : s ≤ 64) (hq : a / 2 ^ s.toNat = q) (k : K (I q) none) : opF P t h n o K := f_bin (r := .int .i64 q) ho hx hy (by
  show pk P (Op.shift .shr .i64 a yk s) _
  rw [pk_shr]
  refine ⟨h0, ?_⟩
  rw [show min s.toNat IntKind.i64.bits = s.toNat from Nat.min_eq_left (by show s.toNat ≤ 64; omega), Int.fdiv_eq_ediv_of_nonneg _ (Int.le_of_lt (Int.pow_pos (by decide))), hq]) rfl k
theorem bytes_eq (a b : ByteArray) : (a.toList == b.toList) = decide (a = b) := by
  by_cases h : a = b
  · subst h; simp
  · rw [decide_eq_false h]
    exact str_ne h
theorem f_cat {T ty : TypeId} {X Y : Operand} {a b : ByteArray} (ho : o.op = .binOp .add T X Y ty) (hx : evO t X = some (Sg a)) (hy : evO t Y = some (Sg b)) (h1 : a.size + b.size ≤ 9223372036854775807) (k : K (Sg (a ++ b)) none) : opF P t h n o K := f_bin (r := .string (a ++ b)) ho hx hy (by
  show pk P (Op.stringOp .add a b) _
  rw [pk_string]
  exact ⟨by omega, rfl⟩) rfl k
theorem f_seq {T ty : TypeId} {X Y : Operand} {a b : ByteArray} (ho : o.op = .binOp .eql T X Y ty) (hx : evO t X = some (Sg a)) (hy : evO t Y = some (Sg b)) (k : K (Bo (decide (a = b))) none) : opF P t h n o K := f_bin (r := .bool (decide (a = b))) ho hx hy (by show Value.bool (a.toList == b.toList) = _; rw [bytes_eq]) rfl k
theorem f_sneq {T ty : TypeId} {X Y : Operand} {a b : ByteArray} (ho : o.op = .binOp .neq T X Y ty) (hx : evO t X = some (Sg a)) (hy : evO t Y = some (Sg b)) (k : K (Bo (!decide (a = b))) none) : opF P t h n o K := f_bin (r := .bool (!decide (a = b))) ho hx hy (by show Value.bool (!(a.toList == b.toList)) = _; rw [bytes_eq]) rfl k
theorem f_beq {T ty : TypeId} {X Y : Operand} {a b : Bool} (ho : o.op = .binOp .eql T X Y ty) (hT : P.underlying T = some .bool) (hx : evO t X = some (Bo a)) (hy : evO t Y = some (Bo b)) (k : K (Bo (a == b)) none) : opF P t h n o K := f_bin (r := .bool (a == b)) ho hx hy (by
  show pk P (Op.equal T (.bool a) (.bool b) >>= fun r => (pure (Value.bool r) : Sem Value)) _
  rw [pk_bind, pk_eqb, hT, ow_some]; exact ⟨rfl, rfl⟩) rfl k
theorem f_bneq {T ty : TypeId} {X Y : Operand} {a b : Bool} (ho : o.op = .binOp .neq T X Y ty) (hT : P.underlying T = some .bool) (hx : evO t X = some (Bo a)) (hy : evO t Y = some (Bo b)) (k : K (Bo (!(a == b))) none) : opF P t h n o K := f_bin (r := .bool (!(a == b))) ho hx hy (by
  show pk P (Op.equal T (.bool a) (.bool b) >>= fun r => (pure (Value.bool !r) : Sem Value)) _
  rw [pk_bind, pk_eqb, hT, ow_some]; exact ⟨rfl, rfl⟩) rfl k
theorem f_sem {op : BinOp} {T ty : TypeId} {X Y : Operand} {a b : List CV} {r : Bool} (ho : o.op = .binOp op T X Y ty) (hx : evO t X = some (.a (.agg a))) (hy : evO t Y = some (.a (.agg b))) (ha : (litL a).isSome = true) (hb : (litL b).isSome = true) (hr : SemIs P t o r) (k : K (Bo r) none) : opF P t h n o K := by
  unfold opF; rw [ho]
  refine ⟨_, hx, ?_⟩
  show semF P t o K
  refine ⟨?_, by rw [ho]; trivial, r, hr, k⟩
  rw [ho]
  simp [Op.operands, hasLit, hx, hy, litA, ha, hb]
/-- Conversions between kinds of integers. -/
theorem f_conv {S D : TypeId} {X : Operand} {a q : Int} {kd ks : IntKind} (ho : o.op = .convert S D X) (hS : ∃ d, P.underlying S = some d) (hD : P.underlying D = some (.int kd)) (hx : evO t X = some (V (.int ks a))) (hq : kd.wrap a = q) (k : K (V (.int kd q)) none) : opF P t h n o K := by
  unfold opF; rw [ho]
  refine ⟨_, hx, ?_⟩
  simp only [isStr, hD, isSliceD, Bool.not_false, Bool.and_self, if_true]
  obtain ⟨a1, a2⟩ := lit_V hx
  obtain ⟨d, hS⟩ := hS
  refine ⟨by rw [ho]; simp [Op.operands, a1], by rw [ho]; trivial, ?_⟩
  unfold execOp
  simp only [ho, a2]
  show pk P (convert S D (.int ks a) >>= fun v => pure (Next.value v)) _
  rw [pk_bind]
  unfold convert
  rw [pk_bind, pk_underlying, hS, ow_some, pk_bind, pk_underlying, hD, ow_some]
  subst hq
  exact ⟨_, rfl, k⟩
theorem f_slen {T : TypeId} {X : Operand} {s : ByteArray} (ho : o.op = .call { callee := .builtin .len, args := #[X], argTypes := #[T] }) (hT : P.underlying T = some .string) (hx : evO t X = some (Sg s)) (k : K (I s.size) none) : opF P t h n o K := by
  unfold opF; rw [ho]
  refine ⟨_, hx, ?_⟩
  simp only [isStr, if_true]
  obtain ⟨a1, a2⟩ := lit_V hx
  refine ⟨by rw [ho]; simp [Op.operands, Call.operands, a1], by rw [ho]; trivial, ?_⟩
  unfold execOp
  simp only [ho, resolve, List.map_toArray, List.map_cons, List.map_nil, a2, invoke, builtin, Builtin.len_, pk_bind, pk_pure, pk_pure', pk_underlying, hT, ow_some]
  simp [hT, ow_some, pk_bind, pk_underlying, pk_pure, goInt, ofV]
  exact k
theorem f_sidx {T : TypeId} {X Y : Operand} {s : ByteArray} {i : Int} {ki : IntKind} (ho : o.op = .index T X Y) (hT : P.underlying T = some .string) (hx : evO t X = some (Sg s)) (hy : evO t Y = some (V (.int ki i))) (h0 : 0 ≤ i) (h1 : i < s.size) (k : K (V (.int .u8 (byteI s i.toNat))) none) : opF P t h n o K := by
  unfold opF; rw [ho]
  show litF P t o K
  obtain ⟨a1, a2⟩ := lit_V hx
  obtain ⟨b1, b2⟩ := lit_V hy
  refine ⟨by rw [ho]; simp [Op.operands, a1, b1], by rw [ho]; trivial, ?_⟩
  unfold execOp
  simp only [ho, a2, b2, Instr.index, asIntOf, pk_bind, pk_pure, pk_underlying, hT, ow_some]
  have e : (s[i.toNat]? : Option UInt8) = some s[i.toNat] := by simp [show i.toNat < s.size by omega]
  have e2 := byteI_at s i.toNat (by omega)
  simp only [h0, if_true, e, pk_pure]
  rw [e2] at k
  exact ⟨_, rfl, k⟩
theorem f_sslice {T : TypeId} {X : Operand} {lo hi : Option Operand} {s : ByteArray} {l u : Int} (ho : o.op = .slice T X lo hi none) (hT : P.underlying T = some .string) (hx : evO t X = some (Sg s)) (hl : boundO t 0 lo = some l) (hu : boundO t s.size hi = some u) (h0 : 0 ≤ l) (h1 : l ≤ u) (h2 : u ≤ s.size) (k : K (Sg (s.extract l.toNat u.toNat)) none) : opF P t h n o K := by
  unfold opF; rw [ho]
  refine ⟨_, hx, ?_⟩
  simp only [isStr, if_true]
  obtain ⟨a1, a2⟩ := lit_V hx
  have hbo : ∀ (d l : Int) (lo : Option Operand), boundO t d lo = some l → (lo = none ∧ l = d) ∨ ∃ y ki, lo = some y ∧ hasLit t y = true ∧ litO t y = .int ki l := fun d l lo hb => by
    cases lo with
    | none => exact .inl ⟨rfl, (Option.some.inj hb).symm⟩
    | some y =>
      simp only [boundO, Option.map_eq_some_iff] at hb
      obtain ⟨⟨ki, i⟩, hy, rfl⟩ := hb
      have hy' : evO t y = some (V (.int ki i)) := by
        unfold evI at hy
        split at hy
        · rename_i e; cases hy; exact e
        · cases hy
      obtain ⟨b1, b2⟩ := lit_V hy'
      exact .inr ⟨y, ki, rfl, b1, b2⟩
  have hlu := hbo _ _ _ hl
  have huu := hbo _ _ _ hu
  refine ⟨?_, by rw [ho]; trivial, ?_⟩
  · rw [ho]
    rcases hlu with ⟨rfl, _⟩ | ⟨y, ki, rfl, b1, _⟩ <;> rcases huu with ⟨rfl, _⟩ | ⟨y2, ki2, rfl, c1, _⟩ <;> simp [Op.operands, a1, *]
  · unfold execOp
    simp only [ho, a2, Instr.sliceAt, Instr.slice, pk_bind, pk_pure, pk_underlying, hT, ow_some, Option.map_none]
    have hb : ∀ (K : Nat × Nat × Nat → Prop), K (l.toNat, u.toNat, s.size) → pk P (Instr.sliceBounds false s.size s.size (lo.map (litO t)) (hi.map (litO t)) none) K := fun K hK => by
      have h00 : 0 ≤ u := by omega
      have hut : ((u.toNat : Nat) : Int) = u := by omega
      unfold Instr.sliceBounds
      rcases hlu with ⟨rfl, rfl⟩ | ⟨y, ki, rfl, b1, b2⟩ <;> rcases huu with ⟨rfl, rfl⟩ | ⟨y2, ki2, rfl, c1, c2⟩
      · simpa [pk_pure, pk_bind] using hK
      · simpa [pk_pure, pk_bind, c2, Instr.sliceBound, asIntOf, h00, h2] using hK
      · have : l ≤ (s.size : Int) := h1
        simpa [pk_pure, pk_bind, b2, Instr.sliceBound, asIntOf, h0, this] using hK
      · simpa [pk_pure, pk_bind, b2, c2, Instr.sliceBound, asIntOf, h0, h00, h1, h2, hut] using hK
    simp only [Option.isSome_none, Bool.false_eq_true, if_false, pk_bind]
    refine hb _ ?_
    exact ⟨_, rfl, k⟩
theorem f_min {T1 T2 : TypeId} {X Y : Operand} {a b : Int} (ho : o.op = .call { callee := .builtin .min, args := #[X, Y], argTypes := #[T1, T2] }) (hx : evO t X = some (I a)) (hy : evO t Y = some (I b)) (k : K (I (if b < a then b else a)) none) : opF P t h n o K := by
  unfold opF; rw [ho]
  show litF P t o K
  obtain ⟨a1, a2⟩ := lit_V hx
  obtain ⟨b1, b2⟩ := lit_V hy
  refine ⟨by rw [ho]; simp [Op.operands, Call.operands, a1, b1], by rw [ho]; trivial, ?_⟩
  unfold execOp
  simp only [ho, resolve, List.map_toArray, List.map_cons, List.map_nil, a2, b2, invoke, builtin, Builtin.min_, pk_bind, pk_pure, pk_pure', List.foldlM_cons, List.foldlM_nil, Builtin.min2]
  exact ⟨_, rfl, k⟩
theorem f_max {T1 T2 : TypeId} {X Y : Operand} {a b : Int} (ho : o.op = .call { callee := .builtin .max, args := #[X, Y], argTypes := #[T1, T2] }) (hx : evO t X = some (I a)) (hy : evO t Y = some (I b)) (k : K (I (if b > a then b else a)) none) : opF P t h n o K := by
  unfold opF; rw [ho]
  show litF P t o K
  obtain ⟨a1, a2⟩ := lit_V hx
  obtain ⟨b1, b2⟩ := lit_V hy
  refine ⟨by rw [ho]; simp [Op.operands, Call.operands, a1, b1], by rw [ho]; trivial, ?_⟩
  unfold execOp
  simp only [ho, resolve, List.map_toArray, List.map_cons, List.map_nil, a2, b2, invoke, builtin, Builtin.max_, pk_bind, pk_pure, pk_pure', List.foldlM_cons, List.foldlM_nil, Builtin.max2]
  exact ⟨_, rfl, k⟩
end
end AM
end Go.Proofs.Ytioejbgdhmiiiaa
