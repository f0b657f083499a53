/- The abstract machine, 18: steps. -/
import Derived.Test.YtioejbgdhmiiiaaAM17
namespace Go.Proofs.Ytioejbgdhmiiiaa
open Go.RowKit
set_option linter.unusedVariables false
set_option linter.unusedSimpArgs false
namespace AM
abbrev I (n : Int) : AV := .a (.one (.p (.val (.int .i64 n))))
abbrev Bo (b : Bool) : AV := .a (.one (.p (.val (.bool b))))
abbrev Sg (s : ByteArray) : AV := .a (.one (.p (.val (.string s))))
/-- The cell of an int, a bool, a string. -/
abbrev cI (n : Int) : CV := .p (.val (.int .i64 n))
abbrev cB (b : Bool) : CV := .p (.val (.bool b))
abbrev cS (s : ByteArray) : CV := .p (.val (.string s))
abbrev pI (n : Int) : PV := .val (.int .i64 n)
abbrev pS (s : ByteArray) : PV := .val (.string s)
def dstOkB (o : Oper) (N : Nat) : Bool := match o.dst with
  | some d => decide (d < N)
  | none => true
theorem dstOkB_at {o : Oper} {N : Nat} (h : dstOkB o N = true) : ∀ d, o.dst = some d → d < N := fun d hd => by
  unfold dstOkB at h; rw [hd] at h; simpa using h
section
variable {P : Program} {N n0 : Nat} {t : Slots} {h : Heap}
theorem codeE_seq_k {x y : Code} {K : Exit → Slots → Heap → Prop} (hx : ∀ Kx : Exit → Slots → Heap → Prop, (∀ t h, codeE P N n0 y t h K → Kx .normal t h) → (∀ t h, K .ret t h → Kx .ret t h) → (∀ id t h, K (.exit id) t h → Kx (.exit id) t h) → (∀ l t h, K (.goto l) t h → Kx (.goto l) t h) → codeE P N n0 x t h Kx) : codeE P N n0 (.seq x y) t h K :=
  hx _ (fun _ _ h => h) (fun _ _ h => h) (fun _ _ _ h => h) (fun _ _ _ h => h)
/-- Behind a block. -/
def blockK (id : Nat) (K : Exit → Slots → Heap → Prop) (e : Exit) (t : Slots) (h : Heap) : Prop := match e with
  | .exit id' => if id' = id then K .normal t h else K (.exit id') t h
  | e => K e t h
theorem codeE_block {id : Nat} {c : Code} {K : Exit → Slots → Heap → Prop} (hx : codeE P N n0 c t h (blockK id K)) : codeE P N n0 (.block id c) t h K := hx
theorem blockK_normal {id : Nat} {K : Exit → Slots → Heap → Prop} (hK : K .normal t h) : blockK id K .normal t h := hK
theorem blockK_ret {id : Nat} {K : Exit → Slots → Heap → Prop} (hK : K .ret t h) : blockK id K .ret t h := hK
theorem blockK_goto {id l : Nat} {K : Exit → Slots → Heap → Prop} (hK : K (.goto l) t h) : blockK id K (.goto l) t h := hK
theorem blockK_exit {id : Nat} {K : Exit → Slots → Heap → Prop} (hK : K .normal t h) : blockK id K (.exit id) t h := by simpa [blockK] using hK
theorem blockK_far {id id' : Nat} {K : Exit → Slots → Heap → Prop} (hne : (id' == id) = false) (hK : K (.exit id') t h) : blockK id K (.exit id') t h := by simpa [blockK, beq_eq_false_iff_ne.1 hne] using hK
/-- The round of a loop. -/
def roundK (n0 : Nat) (I : Nat → Slots → Heap → Prop) (n : Nat) (K : Exit → Slots → Heap → Prop) (e : Exit) (t : Slots) (h : Heap) : Prop := match e with
  | .normal => ∃ m, m < n ∧ ∃ t2 h2, WeakE n0 t h t2 h2 ∧ I m t2 h2
  | e => K e t h
theorem codeE_loop {c : Code} {K : Exit → Slots → Heap → Prop} (I : Nat → Slots → Heap → Prop) (n : Nat) (h0 : ∃ t2 h2, WeakE n0 t h t2 h2 ∧ I n t2 h2) (hr : ∀ n t h, I n t h → codeE P N n0 c t h (roundK n0 I n K)) : codeE P N n0 (.loop c) t h K := ⟨I, n, h0, hr⟩
theorem roundK_normal {I : Nat → Slots → Heap → Prop} {n : Nat} {K : Exit → Slots → Heap → Prop} (m : Nat) (hm : m < n) (t2 : Slots) (h2 : Heap) (hW : WeakE n0 t h t2 h2) (hI : I m t2 h2) : roundK n0 I n K .normal t h := ⟨m, hm, t2, h2, hW, hI⟩
theorem roundK_ret {I : Nat → Slots → Heap → Prop} {n : Nat} {K : Exit → Slots → Heap → Prop} (hK : K .ret t h) : roundK n0 I n K .ret t h := hK
theorem roundK_exit {I : Nat → Slots → Heap → Prop} {n id : Nat} {K : Exit → Slots → Heap → Prop} (hK : K (.exit id) t h) : roundK n0 I n K (.exit id) t h := hK
theorem roundK_goto {I : Nat → Slots → Heap → Prop} {n l : Nat} {K : Exit → Slots → Heap → Prop} (hK : K (.goto l) t h) : roundK n0 I n K (.goto l) t h := hK
theorem codeE_region {id : Nat} {ops : Array Oper} {K : Exit → Slots → Heap → Prop} (hE : opsE P ops N ops.toList t h (K .normal)) : codeE P N n0 (.region id ops false) t h K := hE
theorem codeE_draw {id : Nat} {ops : Array Oper} {K : Exit → Slots → Heap → Prop} (k : Nat) (h1 : drawOk ops k N = true) (h2 : P.follows .mixedOrders = true) (hE : chainE P ops N (ops.toList.take k) t h fun t' h' => opsE P ops N (ops.toList.drop k) t' h' (K .normal)) : codeE P N n0 (.region id ops true) t h K := ⟨k, h1, h2, hE⟩
theorem codeE_cond {c : Operand} {x y : Code} {K : Exit → Slots → Heap → Prop} {b : Bool} (hb : evB t c = some b) (h1 : b = true → codeE P N n0 x t h K) (h2 : b = false → codeE P N n0 y t h K) : codeE P N n0 (.cond c x y) t h K := ⟨b, hb, h1, h2⟩
theorem codeE_ret {K : Exit → Slots → Heap → Prop} (hK : K .ret t h) : codeE P N n0 .ret t h K := hK
theorem codeE_exit {id : Nat} {K : Exit → Slots → Heap → Prop} (hK : K (.exit id) t h) : codeE P N n0 (.exit id) t h K := hK
theorem codeE_skip {K : Exit → Slots → Heap → Prop} (hK : K .normal t h) : codeE P N n0 .skip t h K := hK
theorem opsE_nil {ops : Array Oper} {K : Slots → Heap → Prop} (hK : K t h) : opsE P ops N [] t h K := hK
theorem chainE_nil {ops : Array Oper} {K : Slots → Heap → Prop} (hK : K t h) : chainE P ops N [] t h K := hK
/-- One operation without a guard. -/
theorem opsE_one {ops : Array Oper} {o : Oper} {r : List Oper} {K : Slots → Heap → Prop} (hg : o.guard = none) (hd : dstOkB o N = true) (hx : ∀ K1 : Slots → Heap → Prop, (∀ t' h', opsE P ops N r t' h' K → K1 t' h') → opE P t h o K1) : opsE P ops N (o :: r) t h K := by
  refine ⟨dstOkB_at hd, ?_⟩
  unfold guardE; rw [hg]
  exact hx _ (fun _ _ h => h)
theorem chainE_one {ops : Array Oper} {o : Oper} {r : List Oper} {K : Slots → Heap → Prop} (hg : o.guard = none) (hd : dstOkB o N = true) (hx : ∀ K1 : AV → Option Blk → Prop, (∀ x bs, chainE P ops N r (putS o.dst x t) (h ++ [bs]) K → K1 x bs) → opF P t h h.length o K1) : chainE P ops N (o :: r) t h K := by
  refine ⟨dstOkB_at hd, ?_⟩
  unfold guardE; rw [hg]
  exact hx _ (fun _ _ h => h)
/-- One operation with a guard that is known. -/
theorem opsE_yes {ops : Array Oper} {o : Oper} {r : List Oper} {K : Slots → Heap → Prop} {j d : Nat} {b : Bool} (hg : o.guard = some (j, b)) (hs : gslot ops j = some d) (hd : dstOkB o N = true) (hv : get t d = some (Bo b)) (hx : ∀ K1 : Slots → Heap → Prop, (∀ t' h', opsE P ops N r t' h' K → K1 t' h') → opE P ((d, Bo b) :: t) h o K1) : opsE P ops N (o :: r) t h K := by
  refine ⟨dstOkB_at hd, ?_⟩
  unfold guardE; rw [hg]
  exact ⟨d, hs, _, hv, show (_ → _) ∧ (_ → _) from ⟨fun _ => hx _ (fun _ _ h => h), fun e => by cases b <;> cases e⟩⟩
theorem opsE_no {ops : Array Oper} {o : Oper} {r : List Oper} {K : Slots → Heap → Prop} {j d : Nat} {b : Bool} (hg : o.guard = some (j, b)) (hs : gslot ops j = some d) (hd : dstOkB o N = true) (hv : get t d = some (Bo !b)) (hx : opsE P ops N r (putS o.dst .und ((d, Bo !b) :: t)) h K) : opsE P ops N (o :: r) t h K := by
  refine ⟨dstOkB_at hd, ?_⟩
  unfold guardE; rw [hg]
  exact ⟨d, hs, _, hv, show (_ → _) ∧ (_ → _) from ⟨fun e => (by cases b <;> cases e), fun _ => hx⟩⟩
theorem opsE_und {ops : Array Oper} {o : Oper} {r : List Oper} {K : Slots → Heap → Prop} {j d : Nat} {b : Bool} (hg : o.guard = some (j, b)) (hs : gslot ops j = some d) (hd : dstOkB o N = true) (hv : get t d = some .und) (hx : opsE P ops N r (putS o.dst .und t) h K) : opsE P ops N (o :: r) t h K := by
  refine ⟨dstOkB_at hd, ?_⟩
  unfold guardE; rw [hg]
  exact ⟨d, hs, _, hv, hx⟩
theorem opsE_if {ops : Array Oper} {o : Oper} {r : List Oper} {K : Slots → Heap → Prop} {j d : Nat} {b c : Bool} (hg : o.guard = some (j, b)) (hs : gslot ops j = some d) (hd : dstOkB o N = true) (hv : get t d = some (Bo c)) (hx : c = b → ∀ K1 : Slots → Heap → Prop, (∀ t' h', opsE P ops N r t' h' K → K1 t' h') → opE P ((d, Bo b) :: t) h o K1)
    (hy : c = !b → opsE P ops N r (putS o.dst .und ((d, Bo !b) :: t)) h K) : opsE P ops N (o :: r) t h K := by
  refine ⟨dstOkB_at hd, ?_⟩
  unfold guardE; rw [hg]
  exact ⟨d, hs, _, hv, show (_ → _) ∧ (_ → _) from ⟨fun e => hx e _ (fun _ _ h => h), hy⟩⟩
theorem chainE_if {ops : Array Oper} {o : Oper} {r : List Oper} {K : Slots → Heap → Prop} {j d : Nat} {b c : Bool} (hg : o.guard = some (j, b)) (hs : gslot ops j = some d) (hd : dstOkB o N = true) (hv : get t d = some (Bo c)) (hx : c = b → ∀ K1 : AV → Option Blk → Prop, (∀ x bs, chainE P ops N r (putS o.dst x ((d, Bo b) :: t)) (h ++ [bs]) K → K1 x bs) → opF P ((d, Bo b) :: t) h h.length o K1)
    (hy : c = !b → chainE P ops N r (putS o.dst .und ((d, Bo !b) :: t)) (h ++ [none]) K) : chainE P ops N (o :: r) t h K := by
  refine ⟨dstOkB_at hd, ?_⟩
  unfold guardE; rw [hg]
  exact ⟨d, hs, _, hv, show (_ → _) ∧ (_ → _) from ⟨fun e => hx e _ (fun _ _ h => h), hy⟩⟩
theorem chainE_yes {ops : Array Oper} {o : Oper} {r : List Oper} {K : Slots → Heap → Prop} {j d : Nat} {b : Bool} (hg : o.guard = some (j, b)) (hs : gslot ops j = some d) (hd : dstOkB o N = true) (hv : get t d = some (Bo b)) (hx : ∀ K1 : AV → Option Blk → Prop, (∀ x bs, chainE P ops N r (putS o.dst x ((d, Bo b) :: t)) (h ++ [bs]) K → K1 x bs) → opF P ((d, Bo b) :: t) h h.length o K1) : chainE P ops N (o :: r) t h K :=
  chainE_if hg hs hd hv (fun _ => hx) (fun e => by cases b <;> cases e)
theorem chainE_no {ops : Array Oper} {o : Oper} {r : List Oper} {K : Slots → Heap → Prop} {j d : Nat} {b : Bool} (hg : o.guard = some (j, b)) (hs : gslot ops j = some d) (hd : dstOkB o N = true) (hv : get t d = some (Bo !b)) (hx : chainE P ops N r (putS o.dst .und ((d, Bo !b) :: t)) (h ++ [none]) K) : chainE P ops N (o :: r) t h K :=
  chainE_if hg hs hd hv (fun e => by cases b <;> cases e) (fun _ => hx)
theorem chainE_und {ops : Array Oper} {o : Oper} {r : List Oper} {K : Slots → Heap → Prop} {j d : Nat} {b : Bool} (hg : o.guard = some (j, b)) (hs : gslot ops j = some d) (hd : dstOkB o N = true) (hv : get t d = some .und) (hx : chainE P ops N r (putS o.dst .und t) (h ++ [none]) K) : chainE P ops N (o :: r) t h K := by
  refine ⟨dstOkB_at hd, ?_⟩
  unfold guardE; rw [hg]
  exact ⟨d, hs, _, hv, hx⟩
/-- A call of a function that makes new memory alone, in a sequence. -/
theorem eff_pure {f : FuncId} {xs : List AV} {r : AV} {K : AV → Heap → Prop} (hc : PureC P h f xs r) (hK : K r h) : Eff P h f xs K := by
  refine ⟨hc.enter, fun w0 w ρ vs hG hs hv => (hc.calls (n := 0) (K := fun x bs => x = r ∧ bs = none) hG (fun b blk hb => hb) hs hv ⟨rfl, rfl⟩).mono ?_⟩
  rintro e w' ⟨v, rfl, x, bs, ρ', ⟨rfl, rfl⟩, hb, hx, hbs⟩
  dsimp only at hbs
  subst hbs
  exact ⟨v, x, h, ρ', rfl, hK, hG.pass hb, .of_below hb, hx⟩
theorem pure_of_code' {f : FuncId} {fn : Func} {c : Code} {N : Nat} {xs : List AV} {fresh : Bool} {r : AV} (he : canEnter P f = true) (hf : P.funcs[f]? = some fn) (hb : fn.body = some c) (hN : fn.ntmps = N) (hx : xs.length ≤ N) (hE : ∀ K : Exit → Slots → Heap → Prop, (∀ t h, resE P fn t h (fun r' => ExpA fresh h r' r) → K .ret t h) → (∀ t h, resE P fn t h (fun r' => ExpA fresh h r' r) → K .normal t h) → codeE P N 0 c (argS 0 xs) [] K) : Pure P fresh f xs r := by
  subst hN
  exact pure_of_code he hf hb hx (hE _ (fun _ _ h => h) (fun _ _ h => h))
/-! ### Meanings that ask nothing of the world -/
theorem pk_underlying {T : TypeId} (K : TypeDesc → Prop) : pk P (underlying T) K = ow (P.underlying T) K := by
  unfold underlying
  rw [pk_bind, pk_program]
  cases P.underlying T with
  | none => simp [ow, stuck, pk]
  | some d => simp [ow, pk_pure]
theorem pk_typeInfo {T : TypeId} (K : TypeInfo → Prop) : pk P (typeInfo T) K = ow (P.info? T) K := by
  unfold typeInfo
  rw [pk_bind, pk_program]
  cases P.info? T with
  | none => simp [ow, stuck, pk]
  | some d => simp [ow, pk_pure]
theorem pk_halt {α : Type} (x : Halt) (K : α → Prop) : pk P (.halt x) K = False := rfl
theorem pk_stuck {α : Type} (s : String) (K : α → Prop) : pk P (stuck s) K = False := rfl
theorem pk_unsup {α : Type} (u : Unsupported) (K : α → Prop) : pk P (unsupported u) K = False := rfl
theorem pk_bounds {α : Type} (k : IntKind) (x y : Int) (c : BoundsCode) (K : α → Prop) : pk P (boundsPanic k x y c) K = False := by
  have h : ∀ s, pk P (runtimePanic (.bounds (IntKind.i64.wrap x) y s c) : Sem α) K = False := fun s => by
    unfold runtimePanic
    rw [pk_bind, pk_program]
    rfl
  unfold boundsPanic
  dsimp only
  split
  · rfl
  · rw [pk_bind, pk_pure]; exact h _
theorem pk_rpanic {α : Type} (m : String) (K : α → Prop) : pk P (runtimePanic (.error m) : Sem α) K = False := by
  unfold runtimePanic
  rw [pk_bind, pk_program]
  rfl
theorem ite_F (c : Prop) [Decidable c] (p : Prop) : (if c then p else False) = (c ∧ p) := by by_cases h : c <;> simp [h]
theorem ite_F' (c : Prop) [Decidable c] (p : Prop) : (if c then False else p) = (¬ c ∧ p) := by by_cases h : c <;> simp [h]
theorem pk_eqb {T : TypeId} (a b : Bool) (K : Bool → Prop) : pk P (Op.equal T (.bool a) (.bool b)) K = ow (P.underlying T) (fun d => d = .bool ∧ K (a == b)) := by
  unfold Op.equal Op.maxDepth Op.equalIn
  rw [pk_bind, pk_underlying]
  congr 1
  funext d
  cases d <;> simp [pk, stuck, pk_pure]
theorem pk_or (k : IntKind) (a b : Int) (K : Value → Prop) : pk P (Op.intBits .or k a b) K = K (.int k (bits .or k a b)) := rfl
theorem pk_and (k : IntKind) (a b : Int) (K : Value → Prop) : pk P (Op.intBits .and k a b) K = K (.int k (bits .and k a b)) := rfl
theorem pk_xor (k : IntKind) (a b : Int) (K : Value → Prop) : pk P (Op.intBits .xor k a b) K = K (.int k (bits .xor k a b)) := rfl
theorem pk_shl (k yk : IntKind) (x y : Int) (K : Value → Prop) : pk P (Op.shift .shl k x yk y) K = (0 ≤ y ∧ K (.int k (k.wrap (x * 2 ^ (min y.toNat k.bits))))) := by
  unfold Op.shift
  by_cases h : y < 0
  · rw [if_pos h, pk_rpanic]; exact propext ⟨fun h => h.elim, fun h2 => by have := h2.1; omega⟩
  · rw [if_neg h]; exact propext ⟨fun hk => ⟨by omega, hk⟩, fun hk => hk.2⟩
theorem pk_shr (k yk : IntKind) (x y : Int) (K : Value → Prop) : pk P (Op.shift .shr k x yk y) K = (0 ≤ y ∧ K (.int k (x.fdiv (2 ^ (min y.toNat k.bits))))) := by
  unfold Op.shift
  by_cases h : y < 0
  · rw [if_pos h, pk_rpanic]; exact propext ⟨fun h => h.elim, fun h2 => by have := h2.1; omega⟩
  · rw [if_neg h]; exact propext ⟨fun hk => ⟨by omega, hk⟩, fun hk => hk.2⟩
theorem pk_quo (k : IntKind) (x y : Int) (K : Value → Prop) : pk P (Op.intDiv .quo k x y) K = (y ≠ 0 ∧ K (.int k (k.wrap (x.tdiv y)))) := by
  unfold Op.intDiv
  by_cases h : y = 0
  · rw [if_pos h, pk_rpanic]; exact propext ⟨fun h => h.elim, fun h2 => h2.1 h⟩
  · rw [if_neg h]; exact propext ⟨fun hk => ⟨h, hk⟩, fun hk => hk.2⟩
theorem pk_rem (k : IntKind) (x y : Int) (K : Value → Prop) : pk P (Op.intDiv .rem k x y) K = (y ≠ 0 ∧ K (.int k (x.tmod y))) := by
  unfold Op.intDiv
  by_cases h : y = 0
  · rw [if_pos h, pk_rpanic]; exact propext ⟨fun h => h.elim, fun h2 => h2.1 h⟩
  · rw [if_neg h]; exact propext ⟨fun hk => ⟨h, hk⟩, fun hk => hk.2⟩
theorem wrap64 {x : Int} (h1 : -9223372036854775808 ≤ x) (h2 : x ≤ 9223372036854775807) : IntKind.i64.wrap x = x := by rw [IntKind.wrap_i64]; omega
theorem wrap8 {x : Int} (h1 : 0 ≤ x) (h2 : x ≤ 255) : IntKind.u8.wrap x = x := by
  unfold IntKind.wrap
  simp [IntKind.bits, IntKind.signed]
  omega
theorem tdiv_pos {x y : Int} (h : 0 ≤ x) : x.tdiv y = x / y := Int.tdiv_eq_ediv_of_nonneg h
theorem tmod_pos {x y : Int} (h : 0 ≤ x) : x.tmod y = x % y := Int.tmod_eq_emod_of_nonneg h
/-- A byte of a string. -/
theorem byte_at (s : ByteArray) (i : Nat) (K : Value → Prop) : (pk P (match (s[i]? : Option UInt8) with | some b => (pure (.int .u8 b.toNat) : Sem Value) | none => boundsPanic .i64 (i : Int) s.size .index) K) = (i < s.size ∧ K (.int .u8 ((s.data.toList.getD i 0).toNat : Int))) := by
  by_cases h : i < s.size
  · have e : (s[i]? : Option UInt8) = some s[i] := by simp [h]
    rw [e]
    have e2 : s.data.toList.getD i 0 = s[i] := by
      rw [List.getD_eq_getElem?_getD, List.getElem?_eq_getElem (by simpa using h)]; rfl
    rw [e2]
    exact propext ⟨fun hk => ⟨h, hk⟩, fun hk => hk.2⟩
  · have e : (s[i]? : Option UInt8) = none := by simp [h]
    rw [e]
    dsimp only
    rw [pk_bounds]
    exact propext ⟨fun hk => hk.elim, fun hk => h hk.1⟩
theorem pk_string (m : ByteArray) (n : ByteArray) (K : Value → Prop) : pk P (Op.stringOp .add m n) K = (((m.size + n.size : Nat) : Int) ≤ 9223372036854775807 ∧ K (.string (m ++ n))) := by
  unfold Op.stringOp
  simp only
  by_cases h : ((m.size + n.size : Nat) : Int) ≤ 9223372036854775807
  · rw [if_neg (by show ¬ (_ > (9223372036854775807 : Int)); omega)]
    rw [pk_pure]
    exact propext ⟨fun hk => ⟨h, hk⟩, fun hk => hk.2⟩
  · rw [if_pos (by show (_ > (9223372036854775807 : Int)); omega)]
    rw [pk_unsup]
    exact propext ⟨fun hk => hk.elim, fun hk => h hk.1⟩
/-! ### What is handed back -/
inductive ExpCs (fr : Bool) (h : Heap) : List CV → List CV → Prop
  | nil : ExpCs fr h [] []
  | cons (c c' : CV) (r r' : List CV) (hc : ExpC fr h c c') (hr : ExpCs fr h r r') : ExpCs fr h (c :: r) (c' :: r')
theorem ExpCs.at {fr : Bool} {l l' : List CV} (e : ExpCs fr h l l') : l'.length = l.length ∧ ∀ (j : Nat) c c', l[j]? = some c → l'[j]? = some c' → ExpC fr h c c' := by
  induction e with
  | nil => exact ⟨rfl, fun j c c' hj => by simp at hj⟩
  | cons c c' r r' hc hr ih =>
    refine ⟨by simp [ih.1], fun j a b h1 h2 => ?_⟩
    cases j with
    | zero => cases h1; cases h2; exact hc
    | succ j => exact ih.2 j a b h1 h2
theorem exp_agg {fr : Bool} {l l' : List CV} (e : ExpCs fr h l l') : ExpA fr h (.a (.agg l)) (.a (.agg l')) := .a _ _ (.agg _ _ e.at.1 e.at.2)
theorem exp_one {fr : Bool} {c c' : CV} (e : ExpC fr h c c') : ExpA fr h (.a (.one c)) (.a (.one c')) := .a _ _ (.one _ _ e)
theorem exp_agg1 {fr : Bool} {l l' : List CV} (e : ExpCs fr h l l') : Exp1 fr h (.agg l) (.agg l') := .agg _ _ e.at.1 e.at.2
inductive Exp1s (fr : Bool) (h : Heap) : List A1 → List A1 → Prop
  | nil : Exp1s fr h [] []
  | cons (c c' : A1) (r r' : List A1) (hc : Exp1 fr h c c') (hr : Exp1s fr h r r') : Exp1s fr h (c :: r) (c' :: r')
theorem Exp1s.at {fr : Bool} {l l' : List A1} (e : Exp1s fr h l l') : l'.length = l.length ∧ ∀ (j : Nat) c c', l[j]? = some c → l'[j]? = some c' → Exp1 fr h c c' := by
  induction e with
  | nil => exact ⟨rfl, fun j c c' hj => by simp at hj⟩
  | cons c c' r r' hc hr ih =>
    refine ⟨by simp [ih.1], fun j a b h1 h2 => ?_⟩
    cases j with
    | zero => cases h1; cases h2; exact hc
    | succ j => exact ih.2 j a b h1 h2
theorem exp_tup {fr : Bool} {l l' : List A1} (e : Exp1s fr h l l') : ExpA fr h (.tup l) (.tup l') := .tup _ _ e.at.1 e.at.2
theorem exp_val {fr : Bool} {a b : Value} (e : a = b) : ExpC fr h (.p (.val a)) (.p (.val b)) := by subst e; exact .p _ (fun _ => trivial)
theorem exp_same {x : PV} : ExpC false h (.p x) (.p x) := .p _ (fun e => by cases e)
/-! ### Contracts of the older walks -/
def ofV1 : Value → Option A1
  | .agg cs => if cs.all (·.oneCell') then some (.agg (cs.toList.map fun v => .p (.val v))) else none
  | .tuple _ => none
  | v => some (.one (.p (.val v)))
def ofVt : Value → Option AV
  | .tuple vs => (omap ofV1 vs.toList).map .tup
  | v => (ofV1 v).map .a
theorem ofV1_P {S : Nat → Prop} {w : World} {v : Value} {x : A1} (hx : ofV1 v = some x) : P1 S w x v := by
  cases v <;> simp only [ofV1] at hx <;> first
    | (cases hx; exact ⟨.val _, rfl⟩)
    | (split at hx
       · rename_i cs hc
         cases hx
         refine ⟨cs, rfl, by simp, fun j c hj => ?_⟩
         rw [List.getElem?_map] at hj
         cases hv : cs.toList[j]? with
         | none => rw [hv] at hj; cases hj
         | some u =>
           rw [hv] at hj
           cases hj
           have hm : u ∈ cs := by simpa using List.mem_of_getElem? hv
           exact ⟨u, by simpa using hv, .val _, by simpa using Array.all_eq_true_iff_forall_mem.1 hc u hm⟩
       · cases hx)
    | cases hx
theorem ofVt_P {S : Nat → Prop} {w : World} {v : Value} {x : AV} (hx : ofVt v = some x) : PA S w x v := by
  cases v with
  | tuple vs =>
    simp only [ofVt, Option.map_eq_some_iff] at hx
    obtain ⟨xs, h1, rfl⟩ := hx
    obtain ⟨h2, h3, _⟩ := omap_at h1
    refine ⟨vs, rfl, by simpa using h2.symm, fun j x hj => ?_⟩
    obtain ⟨u, h4, h5⟩ := h3 j x hj
    exact ⟨u, by simpa using h4, ofV1_P h5⟩
  | _ =>
    simp only [ofVt, Option.map_eq_some_iff] at hx
    obtain ⟨y, h1, rfl⟩ := hx
    exact ofV1_P h1
theorem PC.lit {S : Nat → Prop} {w : World} {c : CV} {u v : Value} (hc : PC S w c v) (hl : lit1 c = some u) : v = u := by
  cases c with
  | p x =>
    cases x with
    | val y => cases hl; exact PR.val_eq hc
    | view m rows => cases hl
  | _ => cases hl
theorem PA.lit {S : Nat → Prop} {w : World} {x : AV} {u v : Value} (hx : PA S w x v) (hl : litA x = some u) : v = u := by
  cases x with
  | a y =>
    cases y with
    | one c => exact hx.1.lit hl
    | agg cs =>
      simp only [litA, Option.map_eq_some_iff] at hl
      obtain ⟨l, h1, rfl⟩ := hl
      obtain ⟨vs, rfl, h3, h4⟩ := hx
      obtain ⟨h5, h6⟩ := litL_at cs l h1
      congr 1
      refine Array.ext (by simp; omega) fun j hj hj' => ?_
      have hjc : j < cs.length := by omega
      obtain ⟨u, h7, h8⟩ := h6 j cs[j] (by simp [hjc])
      obtain ⟨z, h9, h10, _⟩ := h4 j cs[j] (by simp [hjc])
      have e := h10.lit h7
      have e1 : vs[j] = z := by rw [Array.getElem?_eq_getElem hj] at h9; exact Option.some.inj h9
      have e2 : l[j]? = some l[j] := by simp [h5, hjc]
      rw [e2] at h8
      simp only [List.getElem_toArray]
      rw [e1, e, Option.some.inj h8]
  | tup xs => cases hl
  | und => cases hl
theorem walk_of_pure {fr : Bool} {f : FuncId} {xs : List AV} {vs : Array Value} (hp : Pure P fr f xs (Bo true)) (hv : omap ofVt vs.toList = some xs) (w : World) : Calls P f vs w fun e w' => e = .returned (.bool true) ∧ Below w.heap.size w w' := by
  obtain ⟨h1, h2, h3⟩ := omap_at hv
  refine (hp.calls w (Lt w) vs (fun g hg => hg) (by rw [h1]; simp) (fun j x hj => ?_)).mono ?_
  · obtain ⟨u, h4, h5⟩ := h2 j x hj
    exact ⟨u, by simpa using h4, ofVt_P h5⟩
  · rintro e w' ⟨v, rfl, hb, hr⟩
    exact ⟨by rw [hr.1.val_eq], hb⟩
theorem pure_of_calls {f : FuncId} {xs : List AV} {vs : Array Value} {v : Value} {r : AV} (he : canEnter P f = true) (hl : omap litA xs = some vs.toList) (hr : ofVt v = some r) (hc : ∀ w, Calls P f vs w fun e w' => e = .returned v ∧ Below w.heap.size w w') : Pure P true f xs r := by
  refine ⟨he, fun w S us hS hs hu => ?_⟩
  obtain ⟨h1, h2, h3⟩ := omap_at hl
  have e : us = vs := by
    refine Array.ext (by rw [hs, ← h1]; simp) fun j hj hj' => ?_
    obtain ⟨x, h4, h5⟩ := h2 j vs[j] (by simp [hj'])
    obtain ⟨u, h6, h7⟩ := hu j x h4
    rw [Array.getElem?_eq_getElem hj] at h6
    rw [Option.some.inj h6]
    exact h7.lit h5
  rw [e]
  refine (hc w).mono ?_
  rintro e w' ⟨rfl, hb⟩
  exact ⟨v, rfl, hb, ofVt_P hr⟩
end
end AM
end Go.Proofs.Ytioejbgdhmiiiaa
