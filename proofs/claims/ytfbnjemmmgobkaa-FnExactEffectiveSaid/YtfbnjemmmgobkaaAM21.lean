/- The abstract machine, 18: steps. -/
import Derived.Test.YtfbnjemmmgobkaaAM17
import Derived.Test.YtfbnjemmmgobkaaBytesMath
namespace Go.Proofs.Ytfbnjemmmgobkaa
open Go.RowKit
set_option linter.unusedVariables false
set_option linter.unusedSimpArgs false
namespace AM
abbrev I (n : Int) : AV := .a (.one (.p (.val (.int .i64 n))))
abbrev Bo (b : Bool) : AV := .a (.one (.p (.val (.bool b))))
abbrev Sg (s : ByteArray) : AV := .a (.one (.p (.val (.string s))))
/-- The cell of an int, a bool, a string. -/
abbrev cI (n : Int) : CV := .p (.val (.int .i64 n))
abbrev cB (b : Bool) : CV := .p (.val (.bool b))
abbrev cS (s : ByteArray) : CV := .p (.val (.string s))
abbrev pI (n : Int) : PV := .val (.int .i64 n)
abbrev pS (s : ByteArray) : PV := .val (.string s)
def dstOkB (o : Oper) (N : Nat) : Bool := match o.dst with
  | some d => decide (d < N)
  | none => true
theorem dstOkB_at {o : Oper} {N : Nat} (h : dstOkB o N = true) : ∀ d, o.dst = some d → d < N := fun d hd => by
  unfold dstOkB at h; rw [hd] at h; simpa using h
section
variable {P : Program} {N n0 : Nat} {t : Slots} {h : Heap}
theorem codeE_seq_k {x y : Code} {K : Exit → Slots → Heap → Prop} (hx : ∀ Kx : Exit → Slots → Heap → Prop, (∀ t h, codeE P N n0 y t h K → Kx .normal t h) → (∀ t h, K .ret t h → Kx .ret t h) → (∀ id t h, K (.exit id) t h → Kx (.exit id) t h) → (∀ l t h, K (.goto l) t h → Kx (.goto l) t h) → codeE P N n0 x t h Kx) : codeE P N n0 (.seq x y) t h K :=
  hx _ (fun _ _ h => h) (fun _ _ h => h) (fun _ _ _ h => h) (fun _ _ _ h => h)
/-- Behind a block. -/
def blockK (id : Nat) (K : Exit → Slots → Heap → Prop) (e : Exit) (t : Slots) (h : Heap) : Prop := match e with
  | .exit id' => if id' = id then K .normal t h else K (.exit id') t h
  | e => K e t h
theorem codeE_block {id : Nat} {c : Code} {K : Exit → Slots → Heap → Prop} (hx : codeE P N n0 c t h (blockK id K)) : codeE P N n0 (.block id c) t h K := hx
theorem blockK_normal {id : Nat} {K : Exit → Slots → Heap → Prop} (hK : K .normal t h) : blockK id K .normal t h := hK
theorem blockK_ret {id : Nat} {K : Exit → Slots → Heap → Prop} (hK : K .ret t h) : blockK id K .ret t h := hK
theorem blockK_goto {id l : Nat} {K : Exit → Slots → Heap → Prop} (hK : K (.goto l) t h) : blockK id K (.goto l) t h := hK
theorem blockK_exit {id : Nat} {K : Exit → Slots → Heap → Prop} (hK : K .normal t h) : blockK id K (.exit id) t h := by simpa [blockK] using hK
theorem blockK_far {id id' : Nat} {K : Exit → Slots → Heap → Prop} (hne : (id' == id) = false) (hK : K (.exit id') t h) : blockK id K (.exit id') t h := by simpa [blockK, beq_eq_false_iff_ne.1 hne] using hK
/-- The round of a loop. -/
def roundK (n0 : Nat) (I : Nat → Slots → Heap → Prop) (n : Nat) (K : Exit → Slots → Heap → Prop) (e : Exit) (t : Slots) (h : Heap) : Prop := match e with
  | .normal => ∃ m, m < n ∧ ∃ t2 h2, WeakE n0 t h t2 h2 ∧ I m t2 h2
  | e => K e t h
theorem codeE_loop {c : Code} {K : Exit → Slots → Heap → Prop} (I : Nat → Slots → Heap → Prop) (n : Nat) (h0 : ∃ t2 h2, WeakE n0 t h t2 h2 ∧ I n t2 h2) (hr : ∀ n t h, I n t h → codeE P N n0 c t h (roundK n0 I n K)) : codeE P N n0 (.loop c) t h K := ⟨I, n, h0, hr⟩
theorem roundK_normal {I : Nat → Slots → Heap → Prop} {n : Nat} {K : Exit → Slots → Heap → Prop} (m : Nat) (hm : m < n) (t2 : Slots) (h2 : Heap) (hW : WeakE n0 t h t2 h2) (hI : I m t2 h2) : roundK n0 I n K .normal t h := ⟨m, hm, t2, h2, hW, hI⟩
theorem roundK_ret {I : Nat → Slots → Heap → Prop} {n : Nat} {K : Exit → Slots → Heap → Prop} (hK : K .ret t h) : roundK n0 I n K .ret t h := hK
theorem roundK_exit {I : Nat → Slots → Heap → Prop} {n id : Nat} {K : Exit → Slots → Heap → Prop} (hK : K (.exit id) t h) : roundK n0 I n K (.exit id) t h := hK
theorem roundK_goto {I : Nat → Slots → Heap → Prop} {n l : Nat} {K : Exit → Slots → Heap → Prop} (hK : K (.goto l) t h) : roundK n0 I n K (.goto l) t h := hK
theorem firstK_normal {I : Nat → Slots → Heap → Prop} {n : Nat} {K : Exit → Slots → Heap → Prop} (t2 : Slots) (h2 : Heap) (hW : WeakE n0 t h t2 h2) (hI : I n t2 h2) : firstK n0 I n K .normal t h := ⟨t2, h2, hW, hI⟩
theorem firstK_ret {I : Nat → Slots → Heap → Prop} {n : Nat} {K : Exit → Slots → Heap → Prop} (hK : K .ret t h) : firstK n0 I n K .ret t h := hK
theorem passK_goto {I : Nat → Slots → Heap → Prop} {n l : Nat} {K : Exit → Slots → Heap → Prop} (m : Nat) (hm : m < n) (t2 : Slots) (h2 : Heap) (hW : WeakE n0 t h t2 h2) (hI : I m t2 h2) : passK n0 l I n K (.goto l) t h := ⟨rfl, m, hm, t2, h2, hW, hI⟩
theorem passK_ret {I : Nat → Slots → Heap → Prop} {n l : Nat} {K : Exit → Slots → Heap → Prop} (hK : K .ret t h) : passK n0 l I n K .ret t h := hK
theorem passK_normal {I : Nat → Slots → Heap → Prop} {n l : Nat} {K : Exit → Slots → Heap → Prop} (hK : K .normal t h) : passK n0 l I n K .normal t h := hK
theorem passK_exit {I : Nat → Slots → Heap → Prop} {n l id : Nat} {K : Exit → Slots → Heap → Prop} (hK : K (.exit id) t h) : passK n0 l I n K (.exit id) t h := hK
theorem codeE_goto {l : Nat} {K : Exit → Slots → Heap → Prop} (hK : K (.goto l) t h) : codeE P N n0 (.goto l) t h K := hK
theorem codeE_label {l : Nat} {K : Exit → Slots → Heap → Prop} (hK : K .normal t h) : codeE P N n0 (.label l) t h K := hK
theorem codeE_region {id : Nat} {ops : Array Oper} {K : Exit → Slots → Heap → Prop} (hE : opsE P ops N ops.toList t h (K .normal)) : codeE P N n0 (.region id ops false) t h K := hE
theorem codeE_draw {id : Nat} {ops : Array Oper} {K : Exit → Slots → Heap → Prop} (k : Nat) (h1 : drawOk ops k N = true) (h2 : P.follows .mixedOrders = true) (hE : chainE P ops N (ops.toList.take k) t h fun t' h' => opsE P ops N (ops.toList.drop k) t' h' (K .normal)) : codeE P N n0 (.region id ops true) t h K := ⟨k, h1, h2, hE⟩
theorem codeE_cond {c : Operand} {x y : Code} {K : Exit → Slots → Heap → Prop} {b : Bool} (hb : evB t c = some b) (h1 : b = true → codeE P N n0 x t h K) (h2 : b = false → codeE P N n0 y t h K) : codeE P N n0 (.cond c x y) t h K := ⟨b, hb, h1, h2⟩
theorem codeE_ret {K : Exit → Slots → Heap → Prop} (hK : K .ret t h) : codeE P N n0 .ret t h K := hK
theorem codeE_exit {id : Nat} {K : Exit → Slots → Heap → Prop} (hK : K (.exit id) t h) : codeE P N n0 (.exit id) t h K := hK
theorem codeE_skip {K : Exit → Slots → Heap → Prop} (hK : K .normal t h) : codeE P N n0 .skip t h K := hK
theorem opsE_nil {ops : Array Oper} {K : Slots → Heap → Prop} (hK : K t h) : opsE P ops N [] t h K := hK
theorem chainE_nil {ops : Array Oper} {K : Slots → Heap → Prop} (hK : K t h) : chainE P ops N [] t h K := hK
/-- One operation without a guard. -/
theorem opsE_one {ops : Array Oper} {o : Oper} {r : List Oper} {K : Slots → Heap → Prop} (hg : o.guard = none) (hd : dstOkB o N = true) (hx : ∀ K1 : Slots → Heap → Prop, (∀ t' h', opsE P ops N r t' h' K → K1 t' h') → opE P t h o K1) : opsE P ops N (o :: r) t h K := by
  refine ⟨dstOkB_at hd, ?_⟩
  unfold guardE; rw [hg]
  exact hx _ (fun _ _ h => h)
theorem chainE_one {ops : Array Oper} {o : Oper} {r : List Oper} {K : Slots → Heap → Prop} (hg : o.guard = none) (hd : dstOkB o N = true) (hx : ∀ K1 : AV → Option Blk → Prop, (∀ x bs, chainE P ops N r (putS o.dst x t) (h ++ [bs]) K → K1 x bs) → opF P t h h.length o K1) : chainE P ops N (o :: r) t h K := by
  refine ⟨dstOkB_at hd, ?_⟩
  unfold guardE; rw [hg]
  exact hx _ (fun _ _ h => h)
/-- One operation with a guard that is known. -/
theorem opsE_yes {ops : Array Oper} {o : Oper} {r : List Oper} {K : Slots → Heap → Prop} {j d : Nat} {b : Bool} (hg : o.guard = some (j, b)) (hs : gslot ops j = some d) (hd : dstOkB o N = true) (hv : get t d = some (Bo b)) (hx : ∀ K1 : Slots → Heap → Prop, (∀ t' h', opsE P ops N r t' h' K → K1 t' h') → opE P ((d, Bo b) :: t) h o K1) : opsE P ops N (o :: r) t h K := by
  refine ⟨dstOkB_at hd, ?_⟩
  unfold guardE; rw [hg]
  exact ⟨d, hs, _, hv, show (_ → _) ∧ (_ → _) from ⟨fun _ => hx _ (fun _ _ h => h), fun e => by cases b <;> cases e⟩⟩
theorem opsE_no {ops : Array Oper} {o : Oper} {r : List Oper} {K : Slots → Heap → Prop} {j d : Nat} {b : Bool} (hg : o.guard = some (j, b)) (hs : gslot ops j = some d) (hd : dstOkB o N = true) (hv : get t d = some (Bo !b)) (hx : opsE P ops N r (putS o.dst .und ((d, Bo !b) :: t)) h K) : opsE P ops N (o :: r) t h K := by
  refine ⟨dstOkB_at hd, ?_⟩
  unfold guardE; rw [hg]
  exact ⟨d, hs, _, hv, show (_ → _) ∧ (_ → _) from ⟨fun e => (by cases b <;> cases e), fun _ => hx⟩⟩
theorem opsE_und {ops : Array Oper} {o : Oper} {r : List Oper} {K : Slots → Heap → Prop} {j d : Nat} {b : Bool} (hg : o.guard = some (j, b)) (hs : gslot ops j = some d) (hd : dstOkB o N = true) (hv : get t d = some .und) (hx : opsE P ops N r (putS o.dst .und t) h K) : opsE P ops N (o :: r) t h K := by
  refine ⟨dstOkB_at hd, ?_⟩
  unfold guardE; rw [hg]
  exact ⟨d, hs, _, hv, hx⟩
theorem opsE_if {ops : Array Oper} {o : Oper} {r : List Oper} {K : Slots → Heap → Prop} {j d : Nat} {b c : Bool} (hg : o.guard = some (j, b)) (hs : gslot ops j = some d) (hd : dstOkB o N = true) (hv : get t d = some (Bo c)) (hx : c = b → ∀ K1 : Slots → Heap → Prop, (∀ t' h', opsE P ops N r t' h' K → K1 t' h') → opE P ((d, Bo b) :: t) h o K1)
    (hy : c = !b → opsE P ops N r (putS o.dst .und ((d, Bo !b) :: t)) h K) : opsE P ops N (o :: r) t h K := by
  refine ⟨dstOkB_at hd, ?_⟩
  unfold guardE; rw [hg]
  exact ⟨d, hs, _, hv, show (_ → _) ∧ (_ → _) from ⟨fun e => hx e _ (fun _ _ h => h), hy⟩⟩
theorem chainE_if {ops : Array Oper} {o : Oper} {r : List Oper} {K : Slots → Heap → Prop} {j d : Nat} {b c : Bool} (hg : o.guard = some (j, b)) (hs : gslot ops j = some d) (hd : dstOkB o N = true) (hv : get t d = some (Bo c)) (hx : c = b → ∀ K1 : AV → Option Blk → Prop, (∀ x bs, chainE P ops N r (putS o.dst x ((d, Bo b) :: t)) (h ++ [bs]) K → K1 x bs) → opF P ((d, Bo b) :: t) h h.length o K1)
    (hy : c = !b → chainE P ops N r (putS o.dst .und ((d, Bo !b) :: t)) (h ++ [none]) K) : chainE P ops N (o :: r) t h K := by
  refine ⟨dstOkB_at hd, ?_⟩
  unfold guardE; rw [hg]
  exact ⟨d, hs, _, hv, show (_ → _) ∧ (_ → _) from ⟨fun e => hx e _ (fun _ _ h => h), hy⟩⟩
theorem chainE_yes {ops : Array Oper} {o : Oper} {r : List Oper} {K : Slots → Heap → Prop} {j d : Nat} {b : Bool} (hg : o.guard = some (j, b)) (hs : gslot ops j = some d) (hd : dstOkB o N = true) (hv : get t d = some (Bo b)) (hx : ∀ K1 : AV → Option Blk → Prop, (∀ x bs, chainE P ops N r (putS o.dst x ((d, Bo b) :: t)) (h ++ [bs]) K → K1 x bs) → opF P ((d, Bo b) :: t) h h.length o K1) : chainE P ops N (o :: r) t h K :=
  chainE_if hg hs hd hv (fun _ => hx) (fun e => by cases b <;> cases e)
theorem chainE_no {ops : Array Oper} {o : Oper} {r : List Oper} {K : Slots → Heap → Prop} {j d : Nat} {b : Bool} (hg : o.guard = some (j, b)) (hs : gslot ops j = some d) (hd : dstOkB o N = true) (hv : get t d = some (Bo !b)) (hx : chainE P ops N r (putS o.dst .und ((d, Bo !b) :: t)) (h ++ [none]) K) : chainE P ops N (o :: r) t h K :=
  chainE_if hg hs hd hv (fun e => by cases b <;> cases e) (fun _ => hx)
theorem chainE_und {ops : Array Oper} {o : Oper} {r : List Oper} {K : Slots → Heap → Prop} {j d : Nat} {b : Bool} (hg : o.guard = some (j, b)) (hs : gslot ops j = some d) (hd : dstOkB o N = true) (hv : get t d = some .und) (hx : chainE P ops N r (putS o.dst .und t) (h ++ [none]) K) : chainE P ops N (o :: r) t h K := by
  refine ⟨dstOkB_at hd, ?_⟩
  unfold guardE; rw [hg]
  exact ⟨d, hs, _, hv, hx⟩
/-- A call of a function that makes new memory alone, in a sequence. -/
theorem eff_pure {f : FuncId} {xs : List AV} {r : AV} {K : AV → Heap → Prop} (hc : PureC P h f xs r) (hK : K r h) : Eff P h f xs K := by
  refine ⟨hc.enter, fun w0 w ρ vs hG hs hv => (hc.calls (n := 0) (K := fun x bs => x = r ∧ bs = none) hG (fun b blk hb => hb) hs hv ⟨rfl, rfl⟩).mono ?_⟩
  rintro e w' ⟨v, rfl, x, bs, ρ', ⟨rfl, rfl⟩, hb, hx, hbs⟩
  dsimp only at hbs
  subst hbs
  exact ⟨v, x, h, ρ', rfl, hK, hG.pass hb, .of_below hb, hx⟩
theorem pure_of_code' {f : FuncId} {fn : Func} {c : Code} {N : Nat} {xs : List AV} {fresh : Bool} {r : AV} (he : canEnter P f = true) (hf : P.funcs[f]? = some fn) (hb : fn.body = some c) (hN : fn.ntmps = N) (hx : xs.length ≤ N) (hE : ∀ K : Exit → Slots → Heap → Prop, (∀ t h, resE P fn t h (fun r' => ExpA fresh h r' r) → K .ret t h) → (∀ t h, resE P fn t h (fun r' => ExpA fresh h r' r) → K .normal t h) → codeE P N 0 c (argS 0 xs) [] K) : Pure P fresh f xs r := by
  subst hN
  exact pure_of_code he hf hb hx (hE _ (fun _ _ h => h) (fun _ _ h => h))
/-! ### Meanings that ask nothing of the world -/
theorem pk_underlying {T : TypeId} (K : TypeDesc → Prop) : pk P (underlying T) K = ow (P.underlying T) K := by
  unfold underlying
  rw [pk_bind, pk_program]
  cases P.underlying T with
  | none => simp [ow, stuck, pk]
  | some d => simp [ow, pk_pure]
theorem pk_typeInfo {T : TypeId} (K : TypeInfo → Prop) : pk P (typeInfo T) K = ow (P.info? T) K := by
  unfold typeInfo
  rw [pk_bind, pk_program]
  cases P.info? T with
  | none => simp [ow, stuck, pk]
  | some d => simp [ow, pk_pure]
theorem pk_halt {α : Type} (x : Halt) (K : α → Prop) : pk P (.halt x) K = False := rfl
theorem pk_stuck {α : Type} (s : String) (K : α → Prop) : pk P (stuck s) K = False := rfl
theorem pk_unsup {α : Type} (u : Unsupported) (K : α → Prop) : pk P (unsupported u) K = False := rfl
theorem pk_bounds {α : Type} (k : IntKind) (x y : Int) (c : BoundsCode) (K : α → Prop) : pk P (boundsPanic k x y c) K = False := by
  have h : ∀ s, pk P (runtimePanic (.bounds (IntKind.i64.wrap x) y s c) : Sem α) K = False := fun s => by
    unfold runtimePanic
    rw [pk_bind, pk_program]
    rfl
  unfold boundsPanic
  dsimp only
  split
  · rfl
  · rw [pk_bind, pk_pure]; exact h _
theorem pk_rpanic {α : Type} (m : String) (K : α → Prop) : pk P (runtimePanic (.error m) : Sem α) K = False := by
  unfold runtimePanic
  rw [pk_bind, pk_program]
  rfl
theorem ite_F (c : Prop) [Decidable c] (p : Prop) : (if c then p else False) = (c ∧ p) := by by_cases h : c <;> simp [h]
theorem ite_F' (c : Prop) [Decidable c] (p : Prop) : (if c then False else p) = (¬ c ∧ p) := by by_cases h : c <;> simp [h]
theorem pk_eqb {T : TypeId} (a b : Bool) (K : Bool → Prop) : pk P (Op.equal T (.bool a) (.bool b)) K = ow (P.underlying T) (fun d => d = .bool ∧ K (a == b)) := by
  unfold Op.equal Op.maxDepth Op.equalIn
  rw [pk_bind, pk_underlying]
  congr 1
  funext d
  cases d <;> simp [pk, stuck, pk_pure]
theorem pk_or (k : IntKind) (a b : Int) (K : Value → Prop) : pk P (Op.intBits .or k a b) K = K (.int k (bits .or k a b)) := rfl
theorem pk_and (k : IntKind) (a b : Int) (K : Value → Prop) : pk P (Op.intBits .and k a b) K = K (.int k (bits .and k a b)) := rfl
theorem pk_xor (k : IntKind) (a b : Int) (K : Value → Prop) : pk P (Op.intBits .xor k a b) K = K (.int k (bits .xor k a b)) := rfl
theorem pk_shl (k yk : IntKind) (x y : Int) (K : Value → Prop) : pk P (Op.shift .shl k x yk y) K = (0 ≤ y ∧ K (.int k (k.wrap (x * 2 ^ (min y.toNat k.bits))))) := by
  unfold Op.shift
  by_cases h : y < 0
  · rw [if_pos h, pk_rpanic]; exact propext ⟨fun h => h.elim, fun h2 => by have := h2.1; omega⟩
  · rw [if_neg h]; exact propext ⟨fun hk => ⟨by omega, hk⟩, fun hk => hk.2⟩
theorem pk_shr (k yk : IntKind) (x y : Int) (K : Value → Prop) : pk P (Op.shift .shr k x yk y) K = (0 ≤ y ∧ K (.int k (x.fdiv (2 ^ (min y.toNat k.bits))))) := by
  unfold Op.shift
  by_cases h : y < 0
  · rw [if_pos h, pk_rpanic]; exact propext ⟨fun h => h.elim, fun h2 => by have := h2.1; omega⟩
  · rw [if_neg h]; exact propext ⟨fun hk => ⟨by omega, hk⟩, fun hk => hk.2⟩
theorem pk_quo (k : IntKind) (x y : Int) (K : Value → Prop) : pk P (Op.intDiv .quo k x y) K = (y ≠ 0 ∧ K (.int k (k.wrap (x.tdiv y)))) := by
  unfold Op.intDiv
  by_cases h : y = 0
  · rw [if_pos h, pk_rpanic]; exact propext ⟨fun h => h.elim, fun h2 => h2.1 h⟩
  · rw [if_neg h]; exact propext ⟨fun hk => ⟨h, hk⟩, fun hk => hk.2⟩
theorem pk_rem (k : IntKind) (x y : Int) (K : Value → Prop) : pk P (Op.intDiv .rem k x y) K = (y ≠ 0 ∧ K (.int k (x.tmod y))) := by
  unfold Op.intDiv
  by_cases h : y = 0
  · rw [if_pos h, pk_rpanic]; exact propext ⟨fun h => h.elim, fun h2 => h2.1 h⟩
  · rw [if_neg h]; exact propext ⟨fun hk => ⟨h, hk⟩, fun hk => hk.2⟩
theorem wrap64 {x : Int} (h1 : -9223372036854775808 ≤ x) (h2 : x ≤ 9223372036854775807) : IntKind.i64.wrap x = x := by rw [IntKind.wrap_i64]; omega
theorem wrap8 {x : Int} (h1 : 0 ≤ x) (h2 : x ≤ 255) : IntKind.u8.wrap x = x := by
  unfold IntKind.wrap
  simp [IntKind.bits, IntKind.signed]
  omega
theorem tdiv_pos {x y : Int} (h : 0 ≤ x) : x.tdiv y = x / y := Int.tdiv_eq_ediv_of_nonneg h
theorem tmod_pos {x y : Int} (h : 0 ≤ x) : x.tmod y = x % y := Int.tmod_eq_emod_of_nonneg h
/-- A byte of a string. -/
theorem byte_at (s : ByteArray) (i : Nat) (K : Value → Prop) : (pk P (match (s[i]? : Option UInt8) with | some b => (pure (.int .u8 b.toNat) : Sem Value) | none => boundsPanic .i64 (i : Int) s.size .index) K) = (i < s.size ∧ K (.int .u8 ((s.data.toList.getD i 0).toNat : Int))) := by
  by_cases h : i < s.size
  · have e : (s[i]? : Option UInt8) = some s[i] := by simp [h]
    rw [e]
    have e2 : s.data.toList.getD i 0 = s[i] := by
      rw [List.getD_eq_getElem?_getD, List.getElem?_eq_getElem (by simpa using h)]; rfl
    rw [e2]
    exact propext ⟨fun hk => ⟨h, hk⟩, fun hk => hk.2⟩
  · have e : (s[i]? : Option UInt8) = none := by simp [h]
    rw [e]
    dsimp only
    rw [pk_bounds]
    exact propext ⟨fun hk => hk.elim, fun hk => h hk.1⟩
theorem pk_string (m : ByteArray) (n : ByteArray) (K : Value → Prop) : pk P (Op.stringOp .add m n) K = (((m.size + n.size : Nat) : Int) ≤ 9223372036854775807 ∧ K (.string (m ++ n))) := by
  unfold Op.stringOp
  simp only
  by_cases h : ((m.size + n.size : Nat) : Int) ≤ 9223372036854775807
  · rw [if_neg (by show ¬ (_ > (9223372036854775807 : Int)); omega)]
    rw [pk_pure]
    exact propext ⟨fun hk => ⟨h, hk⟩, fun hk => hk.2⟩
  · rw [if_pos (by show (_ > (9223372036854775807 : Int)); omega)]
    rw [pk_unsup]
    exact propext ⟨fun hk => hk.elim, fun hk => h hk.1⟩
/-! ### What is handed back -/
inductive ExpCs (fr : Bool) (h : Heap) : List CV → List CV → Prop
  | nil : ExpCs fr h [] []
  | cons (c c' : CV) (r r' : List CV) (hc : ExpC fr h c c') (hr : ExpCs fr h r r') : ExpCs fr h (c :: r) (c' :: r')
theorem ExpCs.at {fr : Bool} {l l' : List CV} (e : ExpCs fr h l l') : l'.length = l.length ∧ ∀ (j : Nat) c c', l[j]? = some c → l'[j]? = some c' → ExpC fr h c c' := by
  induction e with
  | nil => exact ⟨rfl, fun j c c' hj => by simp at hj⟩
  | cons c c' r r' hc hr ih =>
    refine ⟨by simp [ih.1], fun j a b h1 h2 => ?_⟩
    cases j with
    | zero => cases h1; cases h2; exact hc
    | succ j => exact ih.2 j a b h1 h2
theorem exp_agg {fr : Bool} {l l' : List CV} (e : ExpCs fr h l l') : ExpA fr h (.a (.agg l)) (.a (.agg l')) := .a _ _ (.agg _ _ e.at.1 e.at.2)
theorem exp_one {fr : Bool} {c c' : CV} (e : ExpC fr h c c') : ExpA fr h (.a (.one c)) (.a (.one c')) := .a _ _ (.one _ _ e)
theorem exp_agg1 {fr : Bool} {l l' : List CV} (e : ExpCs fr h l l') : Exp1 fr h (.agg l) (.agg l') := .agg _ _ e.at.1 e.at.2
inductive Exp1s (fr : Bool) (h : Heap) : List A1 → List A1 → Prop
  | nil : Exp1s fr h [] []
  | cons (c c' : A1) (r r' : List A1) (hc : Exp1 fr h c c') (hr : Exp1s fr h r r') : Exp1s fr h (c :: r) (c' :: r')
theorem Exp1s.at {fr : Bool} {l l' : List A1} (e : Exp1s fr h l l') : l'.length = l.length ∧ ∀ (j : Nat) c c', l[j]? = some c → l'[j]? = some c' → Exp1 fr h c c' := by
  induction e with
  | nil => exact ⟨rfl, fun j c c' hj => by simp at hj⟩
  | cons c c' r r' hc hr ih =>
    refine ⟨by simp [ih.1], fun j a b h1 h2 => ?_⟩
    cases j with
    | zero => cases h1; cases h2; exact hc
    | succ j => exact ih.2 j a b h1 h2
theorem exp_tup {fr : Bool} {l l' : List A1} (e : Exp1s fr h l l') : ExpA fr h (.tup l) (.tup l') := .tup _ _ e.at.1 e.at.2
theorem exp_val {fr : Bool} {a b : Value} (e : a = b) : ExpC fr h (.p (.val a)) (.p (.val b)) := by subst e; exact .p _ (fun _ => trivial)
theorem exp_same {x : PV} : ExpC false h (.p x) (.p x) := .p _ (fun e => by cases e)
/-! ### Contracts of the older walks -/
def ofV1 : Value → Option A1
  | .agg cs => if cs.all (·.oneCell') then some (.agg (cs.toList.map fun v => .p (.val v))) else none
  | .tuple _ => none
  | v => some (.one (.p (.val v)))
def ofVt : Value → Option AV
  | .tuple vs => (omap ofV1 vs.toList).map .tup
  | v => (ofV1 v).map .a
theorem ofV1_P {S : Nat → Prop} {w : World} {v : Value} {x : A1} (hx : ofV1 v = some x) : P1 S w x v := by
  cases v <;> simp only [ofV1] at hx <;> first
    | (cases hx; exact ⟨.val _, rfl⟩)
    | (split at hx
       · rename_i cs hc
         cases hx
         refine ⟨cs, rfl, by simp, fun j c hj => ?_⟩
         rw [List.getElem?_map] at hj
         cases hv : cs.toList[j]? with
         | none => rw [hv] at hj; cases hj
         | some u =>
           rw [hv] at hj
           cases hj
           have hm : u ∈ cs := by simpa using List.mem_of_getElem? hv
           exact ⟨u, by simpa using hv, .val _, by simpa using Array.all_eq_true_iff_forall_mem.1 hc u hm⟩
       · cases hx)
    | cases hx
theorem ofVt_P {S : Nat → Prop} {w : World} {v : Value} {x : AV} (hx : ofVt v = some x) : PA S w x v := by
  cases v with
  | tuple vs =>
    simp only [ofVt, Option.map_eq_some_iff] at hx
    obtain ⟨xs, h1, rfl⟩ := hx
    obtain ⟨h2, h3, _⟩ := omap_at h1
    refine ⟨vs, rfl, by simpa using h2.symm, fun j x hj => ?_⟩
    obtain ⟨u, h4, h5⟩ := h3 j x hj
    exact ⟨u, by simpa using h4, ofV1_P h5⟩
  | _ =>
    simp only [ofVt, Option.map_eq_some_iff] at hx
    obtain ⟨y, h1, rfl⟩ := hx
    exact ofV1_P h1
theorem PC.lit {S : Nat → Prop} {w : World} {c : CV} {u v : Value} (hc : PC S w c v) (hl : lit1 c = some u) : v = u := by
  cases c with
  | p x =>
    cases x with
    | val y => cases hl; exact PR.val_eq hc
    | view m rows => cases hl
  | _ => cases hl
theorem PA.lit {S : Nat → Prop} {w : World} {x : AV} {u v : Value} (hx : PA S w x v) (hl : litA x = some u) : v = u := by
  cases x with
  | a y =>
    cases y with
    | one c => exact hx.1.lit hl
    | agg cs =>
      simp only [litA, Option.map_eq_some_iff] at hl
      obtain ⟨l, h1, rfl⟩ := hl
      obtain ⟨vs, rfl, h3, h4⟩ := hx
      obtain ⟨h5, h6⟩ := litL_at cs l h1
      congr 1
      refine Array.ext (by simp; omega) fun j hj hj' => ?_
      have hjc : j < cs.length := by omega
      obtain ⟨u, h7, h8⟩ := h6 j cs[j] (by simp [hjc])
      obtain ⟨z, h9, h10, _⟩ := h4 j cs[j] (by simp [hjc])
      have e := h10.lit h7
      have e1 : vs[j] = z := by rw [Array.getElem?_eq_getElem hj] at h9; exact Option.some.inj h9
      have e2 : l[j]? = some l[j] := by simp [h5, hjc]
      rw [e2] at h8
      simp only [List.getElem_toArray]
      rw [e1, e, Option.some.inj h8]
  | tup xs => cases hl
  | und => cases hl
theorem walk_of_pure {fr : Bool} {f : FuncId} {xs : List AV} {vs : Array Value} (hp : Pure P fr f xs (Bo true)) (hv : omap ofVt vs.toList = some xs) (w : World) : Calls P f vs w fun e w' => e = .returned (.bool true) ∧ Below w.heap.size w w' := by
  obtain ⟨h1, h2, h3⟩ := omap_at hv
  refine (hp.calls w (Lt w) vs (fun g hg => hg) (by rw [h1]; simp) (fun j x hj => ?_)).mono ?_
  · obtain ⟨u, h4, h5⟩ := h2 j x hj
    exact ⟨u, by simpa using h4, ofVt_P h5⟩
  · rintro e w' ⟨v, rfl, hb, hr⟩
    exact ⟨by rw [hr.1.val_eq], hb⟩
theorem pure_of_calls {f : FuncId} {xs : List AV} {vs : Array Value} {v : Value} {r : AV} (he : canEnter P f = true) (hl : omap litA xs = some vs.toList) (hr : ofVt v = some r) (hc : ∀ w, Calls P f vs w fun e w' => e = .returned v ∧ Below w.heap.size w w') : Pure P true f xs r := by
  refine ⟨he, fun w S us hS hs hu => ?_⟩
  obtain ⟨h1, h2, h3⟩ := omap_at hl
  have e : us = vs := by
    refine Array.ext (by rw [hs, ← h1]; simp) fun j hj hj' => ?_
    obtain ⟨x, h4, h5⟩ := h2 j vs[j] (by simp [hj'])
    obtain ⟨u, h6, h7⟩ := hu j x h4
    rw [Array.getElem?_eq_getElem hj] at h6
    rw [Option.some.inj h6]
    exact h7.lit h5
  rw [e]
  refine (hc w).mono ?_
  rintro e w' ⟨rfl, hb⟩
  exact ⟨v, rfl, hb, ofVt_P hr⟩
end
end AM
end Go.Proofs.Ytfbnjemmmgobkaa

namespace Go.Proofs.Ytfbnjemmmgobkaa
open Go.RowKit
set_option linter.unusedVariables false
set_option linter.unusedSimpArgs false
namespace AM
section
variable {P : Program} {N : Nat} {t t1 : Slots} {h : Heap} {o : Oper} {n : Nat}
/-- Operations that touch no own block. -/
def isF (o : Oper) : Bool := match o.op with
  | .store .. => false
  | .call { callee := .builtin .append, .. } => false
  | .call { callee := .value (.func _), .. } => false
  | .call { callee := .value (.tmp _), .. } => false
  | _ => true
theorem opE_F {K : Slots → Heap → Prop} (hF : isF o = true) (hx : opF P t h h.length o fun x bs => K (putS o.dst x t) (addB h bs)) : opE P t h o K := by
  unfold isF at hF
  unfold opE
  split
  · rename_i ho; rw [ho] at hF; cases hF
  · rename_i ho; rw [ho] at hF; cases hF
  · rename_i ho; rw [ho] at hF; cases hF
  · rename_i ho; rw [ho] at hF; cases hF
  · exact hx
/-- The slots at an operation that is wanted. -/
def gyes (ops : Array Oper) (t : Slots) (o : Oper) : Option Slots := match o.guard with
  | none => some t
  | some (j, b) => match gslot ops j with
    | none => none
    | some d => match get t d with
      | some (.a (.one (.p (.val (.bool c))))) => bif c == b then some ((d, Bo b) :: t) else none
      | _ => none
/-- The slots at one that is not. -/
def gno (ops : Array Oper) (t : Slots) (o : Oper) : Option Slots := match o.guard with
  | none => none
  | some (j, b) => match gslot ops j with
    | none => none
    | some d => match get t d with
      | some (.a (.one (.p (.val (.bool c))))) => bif c == b then none else some ((d, Bo !b) :: t)
      | some .und => some t
      | _ => none
theorem gyes_E {ops : Array Oper} {Ky Kn : Slots → Prop} (hg : gyes ops t o = some t1) (hk : Ky t1) : guardE ops t o Ky Kn := by
  unfold gyes at hg
  unfold guardE
  split at hg
  · rename_i e; cases hg; rw [e]; exact hk
  · rename_i j b e
    rw [e]
    split at hg
    · cases hg
    · rename_i d hs
      split at hg
      · rename_i c hv
        cases hcb : c == b with
        | false => rw [hcb] at hg; cases hg
        | true =>
          rw [hcb] at hg
          cases hg
          have := eq_of_beq hcb
          subst this
          exact ⟨d, hs, _, hv, show (_ → _) ∧ (_ → _) from ⟨fun _ => hk, fun e => by cases c <;> cases e⟩⟩
      · cases hg
theorem gno_E {ops : Array Oper} {Ky Kn : Slots → Prop} (hg : gno ops t o = some t1) (hk : Kn t1) : guardE ops t o Ky Kn := by
  unfold gno at hg
  unfold guardE
  split at hg
  · cases hg
  · rename_i j b e
    rw [e]
    split at hg
    · cases hg
    · rename_i d hs
      split at hg
      · rename_i c hv
        cases hcb : c == b with
        | true => rw [hcb] at hg; cases hg
        | false =>
          rw [hcb] at hg
          cases hg
          have hc : c = !b := by cases c <;> cases b <;> simp_all
          subst hc
          exact ⟨d, hs, _, hv, show (_ → _) ∧ (_ → _) from ⟨fun e => (by cases b <;> cases e), fun _ => hk⟩⟩
      · rename_i hv; cases hg; exact ⟨d, hs, _, hv, hk⟩
      · cases hg
section
variable {ops : Array Oper} {r : List Oper} {K : Slots → Heap → Prop} {d : Nat} {x : AV} {b : Blk}
theorem dst_lt (hd : o.dst = some d) (hN : decide (d < N) = true) : ∀ d', o.dst = some d' → d' < N := fun d' hd' => by rw [hd] at hd'; cases hd'; simpa using hN
theorem stN (hg : gyes ops t o = some t1) (hd : o.dst = some d) (hN : decide (d < N) = true) (hF : isF o = true) (hx : ∀ K : AV → Option Blk → Prop, K x none → opF P t1 h h.length o K) (k : opsE P ops N r ((d, x) :: t1) h K) : opsE P ops N (o :: r) t h K :=
  ⟨dst_lt hd hN, gyes_E hg (opE_F hF (hx _ (by rw [hd]; exact k)))⟩
theorem stB (hg : gyes ops t o = some t1) (hd : o.dst = some d) (hN : decide (d < N) = true) (hF : isF o = true) (hx : ∀ K : AV → Option Blk → Prop, K x (some b) → opF P t1 h h.length o K) (k : opsE P ops N r ((d, x) :: t1) (h ++ [some b]) K) : opsE P ops N (o :: r) t h K :=
  ⟨dst_lt hd hN, gyes_E hg (opE_F hF (hx _ (by rw [hd]; exact k)))⟩
theorem stU (hg : gno ops t o = some t1) (hd : o.dst = some d) (hN : decide (d < N) = true) (k : opsE P ops N r ((d, .und) :: t1) h K) : opsE P ops N (o :: r) t h K :=
  ⟨dst_lt hd hN, gno_E hg (by rw [hd]; exact k)⟩
theorem scN (hg : gyes ops t o = some t1) (hd : o.dst = some d) (hN : decide (d < N) = true) (hx : ∀ K : AV → Option Blk → Prop, K x none → opF P t1 h h.length o K) (k : chainE P ops N r ((d, x) :: t1) (h ++ [none]) K) : chainE P ops N (o :: r) t h K :=
  ⟨dst_lt hd hN, gyes_E hg (hx _ (by rw [hd]; exact k))⟩
theorem scB (hg : gyes ops t o = some t1) (hd : o.dst = some d) (hN : decide (d < N) = true) (hx : ∀ K : AV → Option Blk → Prop, K x (some b) → opF P t1 h h.length o K) (k : chainE P ops N r ((d, x) :: t1) (h ++ [some b]) K) : chainE P ops N (o :: r) t h K :=
  ⟨dst_lt hd hN, gyes_E hg (hx _ (by rw [hd]; exact k))⟩
theorem scU (hg : gno ops t o = some t1) (hd : o.dst = some d) (hN : decide (d < N) = true) (k : chainE P ops N r ((d, .und) :: t1) (h ++ [none]) K) : chainE P ops N (o :: r) t h K :=
  ⟨dst_lt hd hN, gno_E hg (by rw [hd]; exact k)⟩
/-- A guard that nobody has decided. -/
theorem get_dup {d : Nat} {y : AV} (hv : get t d = some y) : ∀ i, get ((d, y) :: t) i = get t i := fun i => by
  simp only [get]; split
  · rename_i e; subst e; exact hv.symm
  · rfl
theorem guardE_if {j : Nat} {c b : Bool} {Ky Kn : Slots → Prop} (hg : o.guard = some (j, b)) (hs : gslot ops j = some d) (hv : get t d = some (Bo c)) (h1 : c = b → Ky ((d, Bo b) :: t)) (h2 : c = !b → Kn ((d, Bo !b) :: t)) : guardE ops t o Ky Kn := by
  unfold guardE; rw [hg]
  exact ⟨d, hs, _, hv, show (_ → _) ∧ (_ → _) from ⟨h1, h2⟩⟩
/-- Without the guard. -/
theorem st_if {j : Nat} {c b : Bool} {d' : Nat} (hg : o.guard = some (j, b)) (hs : gslot ops j = some d) (hv : get t d = some (Bo c)) (hd : o.dst = some d') (hN : decide (d' < N) = true) (h1 : c = b → opsE P ops N ({ o with guard := none } :: r) ((d, Bo b) :: t) h K) (h2 : c = !b → opsE P ops N r ((d', .und) :: (d, Bo !b) :: t) h K) : opsE P ops N (o :: r) t h K :=
  ⟨dst_lt hd hN, guardE_if hg hs hv (fun e => (h1 e).2) (fun e => by rw [hd]; exact h2 e)⟩
theorem sc_if {j : Nat} {c b : Bool} {d' : Nat} (hg : o.guard = some (j, b)) (hs : gslot ops j = some d) (hv : get t d = some (Bo c)) (hd : o.dst = some d') (hN : decide (d' < N) = true) (h1 : c = b → chainE P ops N ({ o with guard := none } :: r) ((d, Bo b) :: t) h K) (h2 : c = !b → chainE P ops N r ((d', .und) :: (d, Bo !b) :: t) (h ++ [none]) K) : chainE P ops N (o :: r) t h K :=
  ⟨dst_lt hd hN, guardE_if hg hs hv (fun e => (h1 e).2) (fun e => by rw [hd]; exact h2 e)⟩
/-- Calls. -/
theorem st_eff {f : FuncId} {args : Array Operand} {Ts : Array TypeId} {xs : List AV} (hg : gyes ops t o = some t1) (hd : o.dst = some d) (hN : decide (d < N) = true) (ho : o.op = .call { callee := .value (.func f), args := args, argTypes := Ts }) (ha : omap (evO t1) args.toList = some xs)
    (hx : Eff P h f xs fun x h' => opsE P ops N r ((d, x) :: t1) h' K) : opsE P ops N (o :: r) t h K := by
  refine ⟨dst_lt hd hN, gyes_E hg ?_⟩
  unfold opE; rw [ho, hd]
  exact ⟨xs, ha, hx⟩
theorem st_call {f : FuncId} {args : Array Operand} {Ts : Array TypeId} {xs : List AV} {y : AV} (hg : gyes ops t o = some t1) (hd : o.dst = some d) (hN : decide (d < N) = true) (ho : o.op = .call { callee := .value (.func f), args := args, argTypes := Ts }) (ha : omap (evO t1) args.toList = some xs)
    (hc : PureC P h f xs y) (k : opsE P ops N r ((d, y) :: t1) h K) : opsE P ops N (o :: r) t h K := st_eff hg hd hN ho ha (eff_pure hc k)
theorem sc_call {f : FuncId} {args : Array Operand} {Ts : Array TypeId} {xs : List AV} {y : AV} (hg : gyes ops t o = some t1) (hd : o.dst = some d) (hN : decide (d < N) = true) (ho : o.op = .call { callee := .value (.func f), args := args, argTypes := Ts }) (ha : omap (evO t1) args.toList = some xs)
    (hc : PureC P h f xs y) (k : chainE P ops N r ((d, y) :: t1) (h ++ [none]) K) : chainE P ops N (o :: r) t h K := by
  refine ⟨dst_lt hd hN, gyes_E hg ?_⟩
  unfold opF; rw [ho, hd]
  exact ⟨xs, ha, y, hc, k⟩
theorem st_store {T : TypeId} {X Y : Operand} {m bn i j sz : Nat} {ag : Bool} {v : AV} {cs row : List CV} {blk : Blk} {out : List CV} {h' : Heap} (hg : gyes ops t o = some t1) (hd : o.dst = none) (ho : o.op = .store T X Y) (hx : evO t1 X = some (one (.ptr m bn i j))) (hy : evO t1 Y = some v) (hc : cellsA v = some cs) (hs : sizeL P T = some (sz, ag))
    (hb : blkOf h bn = some blk) (hr : blk.rows[i]? = some row) (hm : blk.m = m) (hl : cs.length = sz) (hj : j + sz ≤ row.length) (ho2 : over row j cs = out) (hh : h.set bn (some ⟨blk.T, blk.m, blk.rows.set i out⟩) = h') (k : opsE P ops N r t1 h' K) : opsE P ops N (o :: r) t h K := by
  refine ⟨fun d hd' => (by rw [hd] at hd'; cases hd'), gyes_E hg ?_⟩
  unfold opE; rw [ho]
  subst ho2; subst hh
  exact ⟨_, hx, _, rfl, v, hy, cs, hc, _, hs, blk, hb, row, hr, hm, hl, hj, by rw [hd]; exact k⟩
end
/-! ### The operations -/
variable {K : AV → Option Blk → Prop}
theorem f_move {X : Operand} {v : AV} (ho : o.op = .move X) (hx : evO t X = some v) (k : K v none) : opF P t h n o K := by unfold opF; rw [ho]; exact ⟨v, hx, k⟩
theorem f_assign {X : Operand} {v : AV} (ho : o.op = .assign X) (hx : evO t X = some v) (k : K v none) : opF P t h n o K := by unfold opF; rw [ho]; exact ⟨v, hx, k⟩
theorem f_pick {C X Y : Operand} {b : Bool} {u v y : AV} (ho : o.op = .pick C X Y) (hc : evB t C = some b) (hx : evO t X = some u) (hy : evO t Y = some v) (hp : pickA b u v = y) (k : K y none) : opF P t h n o K := by unfold opF; rw [ho]; subst hp; exact ⟨b, hc, u, hx, v, hy, k⟩
theorem f_alloc {T : TypeId} {z : List Value} (ho : o.op = .alloc T) (hz : zeroL P T = some z) (k : K (one (.ptr z.length n 0 0)) (some ⟨T, z.length, [z.map fun v => .p (.val v)]⟩)) : opF P t h n o K := by unfold opF; rw [ho]; exact ⟨z, hz, k⟩
theorem f_box {T : TypeId} {X : Operand} {v : AV} {cs : List CV} (ho : o.op = .box T X) (hx : evO t X = some v) (hc : cellsA v = some cs) (k : K (one (.ptr cs.length n 0 0)) (some ⟨T, cs.length, [cs]⟩)) : opF P t h n o K := by unfold opF; rw [ho]; exact ⟨v, hx, cs, hc, k⟩
theorem f_build {T : TypeId} {parts : Array (Nat × Operand)} {l : List (Nat × Nat × Bool)} {z : List Value} {ps : List (Nat × List CV)} {out : List CV} (ho : o.op = .build T parts) (hl : fieldsL P T = some l) (hz : zeroL P T = some z) (hp : partsA t parts = some ps) (hf : fillA (fun i => (l[i]?).map fun s => (s.1, s.2.1)) (z.map fun v => .p (.val v)) ps = some out) (k : K (.a (.agg out)) none) : opF P t h n o K := by unfold opF; rw [ho]; exact ⟨l, hl, z, hz, ps, hp, out, hf, k⟩
theorem f_load {T : TypeId} {X : Operand} {v : AV} {y : A1} (ho : o.op = .load T X) (hx : evO t X = some v) (hl : loadA P h T v = some y) (k : K (.a y) none) : opF P t h n o K := by unfold opF; rw [ho]; exact ⟨v, hx, y, hl, k⟩
theorem f_field {T : TypeId} {X : Operand} {f : Nat} {cs : List CV} {l : List (Nat × Nat × Bool)} {s : Nat × Nat × Bool} {y : A1} (ho : o.op = .field T X f) (hx : evO t X = some (.a (.agg cs))) (hl : fieldsL P T = some l) (hs : l[f]? = some s) (hp : partA cs s = some y) (k : K (.a y) none) : opF P t h n o K := by unfold opF; rw [ho]; exact ⟨_, hx, cs, rfl, l, hl, s, hs, y, hp, k⟩
theorem f_fieldAddr {T : TypeId} {X : Operand} {f : Nat} {v : AV} {l : List (Nat × Nat × Bool)} {s : Nat × Nat × Bool} {y : CV} (ho : o.op = .fieldAddr T X f) (hx : evO t X = some v) (hl : fieldsL P T = some l) (hs : l[f]? = some s) (hn : decide (s.2.1 = 0) = false) (hy : fieldAddrA v s.1 = some y) (k : K (one y) none) : opF P t h n o K := by unfold opF; rw [ho]; exact ⟨v, hx, l, hl, s, hs, by simpa using hn, y, hy, k⟩
theorem f_extract {X : Operand} {i : Nat} {xs : List A1} {y : A1} (ho : o.op = .extract X i) (hx : evO t X = some (.tup xs)) (hi : xs[i]? = some y) (k : K (.a y) none) : opF P t h n o K := by unfold opF; rw [ho]; exact ⟨_, hx, xs, rfl, y, hi, k⟩
theorem f_index_view {T e : TypeId} {X Y : Operand} {m : Nat} {rows : List (List PV)} {row : List PV} {ki : IntKind} {i : Int} (ho : o.op = .indexAddr T X Y) (hx : evO t X = some (one (.p (.view m rows)))) (hy : evI t Y = some (ki, i)) (he : elemL P T = some (e, m)) (h0 : 0 ≤ i) (hr : rows[i.toNat]? = some row) (k : K (one (.vp row)) none) : opF P t h n o K := by unfold opF; rw [ho]; exact ⟨_, hx, _, hy, _, he, rfl, h0, row, hr, k⟩
theorem f_index_own {T e : TypeId} {X Y : Operand} {m b s len : Nat} {ki : IntKind} {i : Int} (ho : o.op = .indexAddr T X Y) (hx : evO t X = some (one (.sl m b s len))) (hy : evI t Y = some (ki, i)) (he : elemL P T = some (e, m)) (h0 : 0 ≤ i) (h1 : i < len) (k : K (one (.ptr m b (s + i.toNat) 0)) none) : opF P t h n o K := by unfold opF; rw [ho]; exact ⟨_, hx, _, hy, _, he, rfl, h0, h1, k⟩
theorem f_slice_view {T e : TypeId} {X : Operand} {lo hi : Option Operand} {m : Nat} {rows : List (List PV)} {l u : Int} (ho : o.op = .slice T X lo hi none) (hx : evO t X = some (one (.p (.view m rows)))) (he : elemL P T = some (e, m)) (hl : boundO t 0 lo = some l) (hu : boundO t rows.length hi = some u) (h0 : 0 ≤ l) (h1 : l ≤ u) (h2 : u ≤ rows.length) (k : K (one (.p (.view m ((rows.take u.toNat).drop l.toNat)))) none) : opF P t h n o K := by unfold opF; rw [ho]; exact ⟨_, hx, rfl, _, he, rfl, l, hl, u, hu, h0, h1, h2, k⟩
theorem f_slice_own {T e : TypeId} {X : Operand} {lo hi : Option Operand} {m b s len : Nat} {l u : Int} (ho : o.op = .slice T X lo hi none) (hx : evO t X = some (one (.sl m b s len))) (he : elemL P T = some (e, m)) (hl : boundO t 0 lo = some l) (hu : boundO t len hi = some u) (h0 : 0 ≤ l) (h1 : l ≤ u) (h2 : u ≤ len) (k : K (one (.sl m b (s + l.toNat) (u.toNat - l.toNat))) none) : opF P t h n o K := by unfold opF; rw [ho]; exact ⟨_, hx, rfl, _, he, rfl, l, hl, u, hu, h0, h1, h2, k⟩
theorem f_make {T e : TypeId} {X Y : Operand} {m by_ : Nat} {z : List Value} {kl kc : IntKind} {l c : Int} (ho : o.op = .makeSlice T X Y) (hx : evI t X = some (kl, l)) (hy : evI t Y = some (kc, c)) (he : elemL P T = some (e, m)) (hz : zeroL P e = some z) (hb : bytesL P e = some by_) (hzm : z.length = m) (hm : m ≠ 0) (h0 : 0 ≤ l) (h1 : l ≤ c) (h2 : (by_ : Int) * c ≤ 281474976710656) (h3 : c ≤ 9223372036854775807) (k : K (one (.sl m n 0 l.toNat)) (some ⟨e, m, List.replicate l.toNat (z.map fun v => .p (.val v))⟩)) : opF P t h n o K := by unfold opF; rw [ho]; exact ⟨_, hx, _, hy, _, he, z, hz, by_, hb, hzm, hm, h0, h1, h2, h3, k⟩
theorem f_len_view {T : TypeId} {X : Operand} {em : TypeId × Nat} {m : Nat} {rows : List (List PV)} (ho : o.op = .call { callee := .builtin .len, args := #[X], argTypes := #[T] }) (hx : evO t X = some (one (.p (.view m rows)))) (he : elemL P T = some em) (k : K (I rows.length) none) : opF P t h n o K := by unfold opF; rw [ho]; exact ⟨_, hx, em, he, k⟩
theorem f_len_own {T : TypeId} {X : Operand} {em : TypeId × Nat} {m b s len : Nat} (ho : o.op = .call { callee := .builtin .len, args := #[X], argTypes := #[T] }) (hx : evO t X = some (one (.sl m b s len))) (he : elemL P T = some em) (k : K (I len) none) : opF P t h n o K := by unfold opF; rw [ho]; exact ⟨_, hx, em, he, k⟩
/-- Literals. -/
theorem f_lit {K : AV → Option Blk → Prop} {v : Value} {x : AV} (hF : isF o = true) (hl : o.op.operands.toList.all (hasLit t) = true) (hp : pk P (execOp (litO t) o) (fun nx => nx = .value v)) (hv : ofV v = some x) (hq : ∀ K, litF P t o K → opF P t h n o K) (hs : (match o.op with | .select .. => False | _ => True)) (k : K x none) : opF P t h n o K := by
  refine hq _ ⟨hl, hs, ?_⟩
  have mono : ∀ {α : Type} (s : Sem α) (K K' : α → Prop), (∀ v, K v → K' v) → pk P s K → pk P s K' := fun s K K' hk => by
    intro hp
    induction s with
    | pure a => exact hk a hp
    | program k ih => exact ih P hp
    | mark m k ih => exact ih hp
    | _ => exact hp.elim
  exact mono _ _ _ (fun nx e => by subst e; exact ⟨x, hv, k⟩) hp
theorem lit_V {X : Operand} {u : Value} (hx : evO t X = some (V u)) : hasLit t X = true ∧ litO t X = u := by
  unfold hasLit litO; rw [hx]; exact ⟨rfl, rfl⟩
theorem f_bin {op : BinOp} {T ty : TypeId} {X Y : Operand} {u v r : Value} {x : AV} (ho : o.op = .binOp op T X Y ty) (hx : evO t X = some (V u)) (hy : evO t Y = some (V v)) (hr : pk P (do eqGuard op T X Y u v; binOp op T u v : Sem Value) (· = r)) (hv : ofV r = some x) (k : K x none) : opF P t h n o K := by
  unfold opF; rw [ho]
  refine ⟨_, hx, ?_⟩
  show litF P t o K
  obtain ⟨a1, a2⟩ := lit_V hx
  obtain ⟨b1, b2⟩ := lit_V hy
  refine ⟨by rw [ho]; simp [Op.operands, a1, b1], by rw [ho]; trivial, ?_⟩
  unfold execOp
  simp only [ho, a2, b2, pk_bind, pk_pure] at hr ⊢
  have mono : ∀ {α : Type} (s : Sem α) (K K' : α → Prop), (∀ v, K v → K' v) → pk P s K → pk P s K' := fun s K K' hk => by
    intro hp
    induction s with
    | pure a => exact hk a hp
    | program k ih => exact ih P hp
    | mark m k ih => exact ih hp
    | _ => exact hp.elim
  exact mono _ _ _ (fun _ hh => mono _ _ _ (fun nx e => by subst e; exact ⟨x, hv, k⟩) hh) hr
theorem f_un {op : UnOp} {T : TypeId} {X : Operand} {u r : Value} {x : AV} (ho : o.op = .unOp op T X) (hx : evO t X = some (V u)) (hr : pk P (Op.unary op u) (· = r)) (hv : ofV r = some x) (k : K x none) : opF P t h n o K := by
  unfold opF; rw [ho]
  show litF P t o K
  obtain ⟨a1, a2⟩ := lit_V hx
  refine ⟨by rw [ho]; simp [Op.operands, a1], by rw [ho]; trivial, ?_⟩
  unfold execOp
  simp only [ho, a2, pk_bind, pk_pure] at hr ⊢
  have mono : ∀ {α : Type} (s : Sem α) (K K' : α → Prop), (∀ v, K v → K' v) → pk P s K → pk P s K' := fun s K K' hk => by
    intro hp
    induction s with
    | pure a => exact hk a hp
    | program k ih => exact ih P hp
    | mark m k ih => exact ih hp
    | _ => exact hp.elim
  exact mono _ _ _ (fun nx e => by subst e; exact ⟨x, hv, k⟩) hr
theorem f_not {T : TypeId} {X : Operand} {b : Bool} (ho : o.op = .unOp .not T X) (hx : evO t X = some (Bo b)) (k : K (Bo !b) none) : opF P t h n o K := f_un ho hx rfl rfl k
theorem f_neg {T : TypeId} {X : Operand} {a : Int} (ho : o.op = .unOp .neg T X) (hx : evO t X = some (I a)) (h1 : -9223372036854775808 ≤ -a) (h2 : -a ≤ 9223372036854775807) (k : K (I (-a)) none) : opF P t h n o K := f_un (r := .int .i64 (-a)) ho hx (by show Value.int _ (IntKind.i64.wrap (0 - a)) = _; rw [Int.zero_sub, AM.wrap64 h1 h2]) rfl k

theorem f_add {T ty : TypeId} {X Y : Operand} {a b : Int} (ho : o.op = .binOp .add T X Y ty) (hx : evO t X = some (I a)) (hy : evO t Y = some (I b)) (h1 : -9223372036854775808 ≤ a + b) (h2 : a + b ≤ 9223372036854775807) (k : K (I (a + b)) none) : opF P t h n o K := f_bin (r := .int .i64 ((a + b))) ho hx hy (by show Value.int _ (IntKind.i64.wrap (a + b)) = _; rw [AM.wrap64 h1 h2]) rfl k
theorem f_sub {T ty : TypeId} {X Y : Operand} {a b : Int} (ho : o.op = .binOp .sub T X Y ty) (hx : evO t X = some (I a)) (hy : evO t Y = some (I b)) (h1 : -9223372036854775808 ≤ a - b) (h2 : a - b ≤ 9223372036854775807) (k : K (I (a - b)) none) : opF P t h n o K := f_bin (r := .int .i64 ((a - b))) ho hx hy (by show Value.int _ (IntKind.i64.wrap (a - b)) = _; rw [AM.wrap64 h1 h2]) rfl k
theorem f_mul {T ty : TypeId} {X Y : Operand} {a b : Int} (ho : o.op = .binOp .mul T X Y ty) (hx : evO t X = some (I a)) (hy : evO t Y = some (I b)) (h1 : -9223372036854775808 ≤ a * b) (h2 : a * b ≤ 9223372036854775807) (k : K (I (a * b)) none) : opF P t h n o K := f_bin (r := .int .i64 ((a * b))) ho hx hy (by show Value.int _ (IntKind.i64.wrap (a * b)) = _; rw [AM.wrap64 h1 h2]) rfl k
theorem f_eql {T ty : TypeId} {X Y : Operand} {a b : Int} (ho : o.op = .binOp .eql T X Y ty) (hx : evO t X = some (I a)) (hy : evO t Y = some (I b)) (k : K (Bo (a == b)) none) : opF P t h n o K := f_bin (r := .bool ((a == b))) ho hx hy (rfl) rfl k
theorem f_neq {T ty : TypeId} {X Y : Operand} {a b : Int} (ho : o.op = .binOp .neq T X Y ty) (hx : evO t X = some (I a)) (hy : evO t Y = some (I b)) (k : K (Bo (a != b)) none) : opF P t h n o K := f_bin (r := .bool ((a != b))) ho hx hy (rfl) rfl k
theorem f_lss {T ty : TypeId} {X Y : Operand} {a b : Int} (ho : o.op = .binOp .lss T X Y ty) (hx : evO t X = some (I a)) (hy : evO t Y = some (I b)) (k : K (Bo (decide (a < b))) none) : opF P t h n o K := f_bin (r := .bool ((decide (a < b)))) ho hx hy (rfl) rfl k
theorem f_leq {T ty : TypeId} {X Y : Operand} {a b : Int} (ho : o.op = .binOp .leq T X Y ty) (hx : evO t X = some (I a)) (hy : evO t Y = some (I b)) (k : K (Bo (decide (a ≤ b))) none) : opF P t h n o K := f_bin (r := .bool ((decide (a ≤ b)))) ho hx hy (rfl) rfl k
theorem f_gtr {T ty : TypeId} {X Y : Operand} {a b : Int} (ho : o.op = .binOp .gtr T X Y ty) (hx : evO t X = some (I a)) (hy : evO t Y = some (I b)) (k : K (Bo (decide (b < a))) none) : opF P t h n o K := f_bin (r := .bool ((decide (b < a)))) ho hx hy (rfl) rfl k
theorem f_geq {T ty : TypeId} {X Y : Operand} {a b : Int} (ho : o.op = .binOp .geq T X Y ty) (hx : evO t X = some (I a)) (hy : evO t Y = some (I b)) (k : K (Bo (decide (b ≤ a))) none) : opF P t h n o K := f_bin (r := .bool ((decide (b ≤ a)))) ho hx hy (rfl) rfl k
theorem f_and {T ty : TypeId} {X Y : Operand} {a b : Int} (ho : o.op = .binOp .and T X Y ty) (hx : evO t X = some (I a)) (hy : evO t Y = some (I b)) (k : K (I (bits .and .i64 a b)) none) : opF P t h n o K := f_bin (r := .int .i64 ((bits .and .i64 a b))) ho hx hy (rfl) rfl k
theorem f_or {T ty : TypeId} {X Y : Operand} {a b : Int} (ho : o.op = .binOp .or T X Y ty) (hx : evO t X = some (I a)) (hy : evO t Y = some (I b)) (k : K (I (bits .or .i64 a b)) none) : opF P t h n o K := f_bin (r := .int .i64 ((bits .or .i64 a b))) ho hx hy (rfl) rfl k
theorem f_xor {T ty : TypeId} {X Y : Operand} {a b : Int} (ho : o.op = .binOp .xor T X Y ty) (hx : evO t X = some (I a)) (hy : evO t Y = some (I b)) (k : K (I (bits .xor .i64 a b)) none) : opF P t h n o K := f_bin (r := .int .i64 ((bits .xor .i64 a b))) ho hx hy (rfl) rfl k
theorem f_quo {T ty : TypeId} {X Y : Operand} {a b : Int} (ho : o.op = .binOp .quo T X Y ty) (hx : evO t X = some (I a)) (hy : evO t Y = some (I b)) (h0 : 0 ≤ a) (hb : 0 < b) (h2 : a ≤ 9223372036854775807) (k : K (I (a / b)) none) : opF P t h n o K := f_bin (r := .int .i64 ((a / b))) ho hx hy (by
  show pk P (Op.intDiv .quo .i64 a b) _
  rw [pk_quo]
  refine ⟨by omega, ?_⟩
  rw [tdiv_pos h0, AM.wrap64]
  · have := Int.ediv_nonneg h0 (Int.le_of_lt hb); omega
  · exact Int.le_trans (Int.ediv_le_self b h0) h2) rfl k
theorem f_rem {T ty : TypeId} {X Y : Operand} {a b : Int} (ho : o.op = .binOp .rem T X Y ty) (hx : evO t X = some (I a)) (hy : evO t Y = some (I b)) (h0 : 0 ≤ a) (hb : 0 < b) (k : K (I (a % b)) none) : opF P t h n o K := f_bin (r := .int .i64 ((a % b))) ho hx hy (by
  show pk P (Op.intDiv .rem .i64 a b) _
  rw [pk_rem]
  exact ⟨by omega, by rw [tmod_pos h0]⟩) rfl k
theorem f_shl {T ty : TypeId} {X Y : Operand} {a s q : Int} {yk : IntKind} (ho : o.op = .binOp .shl T X Y ty) (hx : evO t X = some (I a)) (hy : evO t Y = some (V (.int yk s))) (h0 : 0 ≤ s) (hs : s ≤ 64) (hq : a * 2 ^ s.toNat = q) (h1 : -9223372036854775808 ≤ q) (h2 : q ≤ 9223372036854775807) (k : K (I q) none) : opF P t h n o K := f_bin (r := .int .i64 q) ho hx hy (by
  show pk P (Op.shift .shl .i64 a yk s) _
  rw [pk_shl]
  refine ⟨h0, ?_⟩
  rw [show min s.toNat IntKind.i64.bits = s.toNat from Nat.min_eq_left (by show s.toNat ≤ 64; omega), hq, AM.wrap64 h1 h2]) rfl k
theorem f_shr {T ty : TypeId} {X Y : Operand} {a s q : Int} {yk : IntKind} (ho : o.op = .binOp .shr T X Y ty) (hx : evO t X = some (I a)) (hy : evO t Y = some (V (.int yk s))) (h0 : 0 ≤ s) (hs : s ≤ 64) (hq : a / 2 ^ s.toNat = q) (k : K (I q) none) : opF P t h n o K := f_bin (r := .int .i64 q) ho hx hy (by
  show pk P (Op.shift .shr .i64 a yk s) _
  rw [pk_shr]
  refine ⟨h0, ?_⟩
  rw [show min s.toNat IntKind.i64.bits = s.toNat from Nat.min_eq_left (by show s.toNat ≤ 64; omega), Int.fdiv_eq_ediv_of_nonneg _ (Int.le_of_lt (Int.pow_pos (by decide))), hq]) rfl k
theorem bytes_eq (a b : ByteArray) : (a.toList == b.toList) = decide (a = b) := by
  by_cases h : a = b
  · subst h; simp
  · rw [decide_eq_false h]
    exact str_ne h
theorem f_cat {T ty : TypeId} {X Y : Operand} {a b : ByteArray} (ho : o.op = .binOp .add T X Y ty) (hx : evO t X = some (Sg a)) (hy : evO t Y = some (Sg b)) (h1 : a.size + b.size ≤ 9223372036854775807) (k : K (Sg (a ++ b)) none) : opF P t h n o K := f_bin (r := .string (a ++ b)) ho hx hy (by
  show pk P (Op.stringOp .add a b) _
  rw [pk_string]
  exact ⟨by omega, rfl⟩) rfl k
theorem f_seq {T ty : TypeId} {X Y : Operand} {a b : ByteArray} (ho : o.op = .binOp .eql T X Y ty) (hx : evO t X = some (Sg a)) (hy : evO t Y = some (Sg b)) (k : K (Bo (decide (a = b))) none) : opF P t h n o K := f_bin (r := .bool (decide (a = b))) ho hx hy (by show Value.bool (a.toList == b.toList) = _; rw [bytes_eq]) rfl k
theorem f_sneq {T ty : TypeId} {X Y : Operand} {a b : ByteArray} (ho : o.op = .binOp .neq T X Y ty) (hx : evO t X = some (Sg a)) (hy : evO t Y = some (Sg b)) (k : K (Bo (!decide (a = b))) none) : opF P t h n o K := f_bin (r := .bool (!decide (a = b))) ho hx hy (by show Value.bool (!(a.toList == b.toList)) = _; rw [bytes_eq]) rfl k
theorem f_beq {T ty : TypeId} {X Y : Operand} {a b : Bool} (ho : o.op = .binOp .eql T X Y ty) (hT : P.underlying T = some .bool) (hx : evO t X = some (Bo a)) (hy : evO t Y = some (Bo b)) (k : K (Bo (a == b)) none) : opF P t h n o K := f_bin (r := .bool (a == b)) ho hx hy (by
  show pk P (Op.equal T (.bool a) (.bool b) >>= fun r => (pure (Value.bool r) : Sem Value)) _
  rw [pk_bind, pk_eqb, hT, ow_some]; exact ⟨rfl, rfl⟩) rfl k
theorem f_bneq {T ty : TypeId} {X Y : Operand} {a b : Bool} (ho : o.op = .binOp .neq T X Y ty) (hT : P.underlying T = some .bool) (hx : evO t X = some (Bo a)) (hy : evO t Y = some (Bo b)) (k : K (Bo (!(a == b))) none) : opF P t h n o K := f_bin (r := .bool (!(a == b))) ho hx hy (by
  show pk P (Op.equal T (.bool a) (.bool b) >>= fun r => (pure (Value.bool !r) : Sem Value)) _
  rw [pk_bind, pk_eqb, hT, ow_some]; exact ⟨rfl, rfl⟩) rfl k
theorem f_sem {op : BinOp} {T ty : TypeId} {X Y : Operand} {a b : List CV} {r : Bool} (ho : o.op = .binOp op T X Y ty) (hx : evO t X = some (.a (.agg a))) (hy : evO t Y = some (.a (.agg b))) (ha : (litL a).isSome = true) (hb : (litL b).isSome = true) (hr : SemIs P t o r) (k : K (Bo r) none) : opF P t h n o K := by
  unfold opF; rw [ho]
  refine ⟨_, hx, ?_⟩
  show semF P t o K
  refine ⟨?_, by rw [ho]; trivial, r, hr, k⟩
  rw [ho]
  simp [Op.operands, hasLit, hx, hy, litA, ha, hb]
/-- Conversions between kinds of integers. -/
theorem f_conv {S D : TypeId} {X : Operand} {a q : Int} {kd ks : IntKind} (ho : o.op = .convert S D X) (hS : ∃ d, P.underlying S = some d) (hD : P.underlying D = some (.int kd)) (hx : evO t X = some (V (.int ks a))) (hq : kd.wrap a = q) (k : K (V (.int kd q)) none) : opF P t h n o K := by
  unfold opF; rw [ho]
  refine ⟨_, hx, ?_⟩
  simp only [isStr, hD, isSliceD, Bool.not_false, Bool.and_self, if_true]
  obtain ⟨a1, a2⟩ := lit_V hx
  obtain ⟨d, hS⟩ := hS
  refine ⟨by rw [ho]; simp [Op.operands, a1], by rw [ho]; trivial, ?_⟩
  unfold execOp
  simp only [ho, a2]
  show pk P (convert S D (.int ks a) >>= fun v => pure (Next.value v)) _
  rw [pk_bind]
  unfold convert
  rw [pk_bind, pk_underlying, hS, ow_some, pk_bind, pk_underlying, hD, ow_some]
  subst hq
  exact ⟨_, rfl, k⟩
theorem f_slen {T : TypeId} {X : Operand} {s : ByteArray} (ho : o.op = .call { callee := .builtin .len, args := #[X], argTypes := #[T] }) (hT : P.underlying T = some .string) (hx : evO t X = some (Sg s)) (k : K (I s.size) none) : opF P t h n o K := by
  unfold opF; rw [ho]
  refine ⟨_, hx, ?_⟩
  simp only [isStr, if_true]
  obtain ⟨a1, a2⟩ := lit_V hx
  refine ⟨by rw [ho]; simp [Op.operands, Call.operands, a1], by rw [ho]; trivial, ?_⟩
  unfold execOp
  simp only [ho, resolve, List.map_toArray, List.map_cons, List.map_nil, a2, invoke, builtin, Builtin.len_, pk_bind, pk_pure, pk_pure', pk_underlying, hT, ow_some]
  simp [hT, ow_some, pk_bind, pk_underlying, pk_pure, goInt, ofV]
  exact k
theorem f_sidx {T : TypeId} {X Y : Operand} {s : ByteArray} {i : Int} {ki : IntKind} (ho : o.op = .index T X Y) (hT : P.underlying T = some .string) (hx : evO t X = some (Sg s)) (hy : evO t Y = some (V (.int ki i))) (h0 : 0 ≤ i) (h1 : i < s.size) (k : K (V (.int .u8 (byteI s i.toNat))) none) : opF P t h n o K := by
  unfold opF; rw [ho]
  show litF P t o K
  obtain ⟨a1, a2⟩ := lit_V hx
  obtain ⟨b1, b2⟩ := lit_V hy
  refine ⟨by rw [ho]; simp [Op.operands, a1, b1], by rw [ho]; trivial, ?_⟩
  unfold execOp
  simp only [ho, a2, b2, Instr.index, asIntOf, pk_bind, pk_pure, pk_underlying, hT, ow_some]
  have e : (s[i.toNat]? : Option UInt8) = some s[i.toNat] := by simp [show i.toNat < s.size by omega]
  have e2 := byteI_at s i.toNat (by omega)
  simp only [h0, if_true, e, pk_pure]
  rw [e2] at k
  exact ⟨_, rfl, k⟩
theorem f_sslice {T : TypeId} {X : Operand} {lo hi : Option Operand} {s : ByteArray} {l u : Int} (ho : o.op = .slice T X lo hi none) (hT : P.underlying T = some .string) (hx : evO t X = some (Sg s)) (hl : boundO t 0 lo = some l) (hu : boundO t s.size hi = some u) (h0 : 0 ≤ l) (h1 : l ≤ u) (h2 : u ≤ s.size) (k : K (Sg (s.extract l.toNat u.toNat)) none) : opF P t h n o K := by
  unfold opF; rw [ho]
  refine ⟨_, hx, ?_⟩
  simp only [isStr, if_true]
  obtain ⟨a1, a2⟩ := lit_V hx
  have hbo : ∀ (d l : Int) (lo : Option Operand), boundO t d lo = some l → (lo = none ∧ l = d) ∨ ∃ y ki, lo = some y ∧ hasLit t y = true ∧ litO t y = .int ki l := fun d l lo hb => by
    cases lo with
    | none => exact .inl ⟨rfl, (Option.some.inj hb).symm⟩
    | some y =>
      simp only [boundO, Option.map_eq_some_iff] at hb
      obtain ⟨⟨ki, i⟩, hy, rfl⟩ := hb
      have hy' : evO t y = some (V (.int ki i)) := by
        unfold evI at hy
        split at hy
        · rename_i e; cases hy; exact e
        · cases hy
      obtain ⟨b1, b2⟩ := lit_V hy'
      exact .inr ⟨y, ki, rfl, b1, b2⟩
  have hlu := hbo _ _ _ hl
  have huu := hbo _ _ _ hu
  refine ⟨?_, by rw [ho]; trivial, ?_⟩
  · rw [ho]
    rcases hlu with ⟨rfl, _⟩ | ⟨y, ki, rfl, b1, _⟩ <;> rcases huu with ⟨rfl, _⟩ | ⟨y2, ki2, rfl, c1, _⟩ <;> simp [Op.operands, a1, *]
  · unfold execOp
    simp only [ho, a2, Instr.sliceAt, Instr.slice, pk_bind, pk_pure, pk_underlying, hT, ow_some, Option.map_none]
    have hb : ∀ (K : Nat × Nat × Nat → Prop), K (l.toNat, u.toNat, s.size) → pk P (Instr.sliceBounds false s.size s.size (lo.map (litO t)) (hi.map (litO t)) none) K := fun K hK => by
      have h00 : 0 ≤ u := by omega
      have hut : ((u.toNat : Nat) : Int) = u := by omega
      unfold Instr.sliceBounds
      rcases hlu with ⟨rfl, rfl⟩ | ⟨y, ki, rfl, b1, b2⟩ <;> rcases huu with ⟨rfl, rfl⟩ | ⟨y2, ki2, rfl, c1, c2⟩
      · simpa [pk_pure, pk_bind] using hK
      · simpa [pk_pure, pk_bind, c2, Instr.sliceBound, asIntOf, h00, h2] using hK
      · have : l ≤ (s.size : Int) := h1
        simpa [pk_pure, pk_bind, b2, Instr.sliceBound, asIntOf, h0, this] using hK
      · simpa [pk_pure, pk_bind, b2, c2, Instr.sliceBound, asIntOf, h0, h00, h1, h2, hut] using hK
    simp only [Option.isSome_none, Bool.false_eq_true, if_false, pk_bind]
    refine hb _ ?_
    exact ⟨_, rfl, k⟩
theorem f_min {T1 T2 : TypeId} {X Y : Operand} {a b : Int} (ho : o.op = .call { callee := .builtin .min, args := #[X, Y], argTypes := #[T1, T2] }) (hx : evO t X = some (I a)) (hy : evO t Y = some (I b)) (k : K (I (if b < a then b else a)) none) : opF P t h n o K := by
  unfold opF; rw [ho]
  show litF P t o K
  obtain ⟨a1, a2⟩ := lit_V hx
  obtain ⟨b1, b2⟩ := lit_V hy
  refine ⟨by rw [ho]; simp [Op.operands, Call.operands, a1, b1], by rw [ho]; trivial, ?_⟩
  unfold execOp
  simp only [ho, resolve, List.map_toArray, List.map_cons, List.map_nil, a2, b2, invoke, builtin, Builtin.min_, pk_bind, pk_pure, pk_pure', List.foldlM_cons, List.foldlM_nil, Builtin.min2]
  exact ⟨_, rfl, k⟩
theorem f_max {T1 T2 : TypeId} {X Y : Operand} {a b : Int} (ho : o.op = .call { callee := .builtin .max, args := #[X, Y], argTypes := #[T1, T2] }) (hx : evO t X = some (I a)) (hy : evO t Y = some (I b)) (k : K (I (if b > a then b else a)) none) : opF P t h n o K := by
  unfold opF; rw [ho]
  show litF P t o K
  obtain ⟨a1, a2⟩ := lit_V hx
  obtain ⟨b1, b2⟩ := lit_V hy
  refine ⟨by rw [ho]; simp [Op.operands, Call.operands, a1, b1], by rw [ho]; trivial, ?_⟩
  unfold execOp
  simp only [ho, resolve, List.map_toArray, List.map_cons, List.map_nil, a2, b2, invoke, builtin, Builtin.max_, pk_bind, pk_pure, pk_pure', List.foldlM_cons, List.foldlM_nil, Builtin.max2]
  exact ⟨_, rfl, k⟩
end
end AM
end Go.Proofs.Ytfbnjemmmgobkaa

namespace Go.Proofs.Ytfbnjemmmgobkaa
open Go.RowKit
set_option linter.unusedVariables false
set_option linter.unusedSimpArgs false
namespace AM
section
variable {P : Program} {N : Nat} {t t1 : Slots} {h : Heap} {o : Oper} {n : Nat}
inductive PartsE (t : Slots) : List (Nat × Operand) → List (Nat × List CV) → Prop
  | nil : PartsE t [] []
  | cons {i : Nat} {X : Operand} {v : AV} {cs : List CV} {r : List (Nat × Operand)} {q : List (Nat × List CV)} (hx : evO t X = some v) (hc : cellsA v = some cs) (hr : PartsE t r q) : PartsE t ((i, X) :: r) ((i, cs) :: q)
theorem PartsE.at {l : List (Nat × Operand)} {q : List (Nat × List CV)} (hp : PartsE t l q) : omap (fun p => ((evO t p.2).bind cellsA).map fun cs => (p.1, cs)) l = some q := by
  induction hp with
  | nil => rfl
  | cons hx hc hr ih => simp only [omap, hx, hc, ih, Option.bind_some, Option.map_some]
theorem f_build' {K : AV → Option Blk → Prop} {T : TypeId} {l0 : List (Nat × Operand)} {l : List (Nat × Nat × Bool)} {z : List Value} {ps : List (Nat × List CV)} {out : List CV} (ho : o.op = .build T ⟨l0⟩) (hl : fieldsL P T = some l) (hz : zeroL P T = some z) (hp : PartsE t l0 ps) (hf : fillA (fun i => (l[i]?).map fun s => (s.1, s.2.1)) (z.map fun v => .p (.val v)) ps = some out) (k : K (.a (.agg out)) none) : opF P t h n o K :=
  f_build (parts := ⟨l0⟩) ho hl hz hp.at hf k
theorem f_alloc' {K : AV → Option Blk → Prop} {T : TypeId} {z : List Value} {sz : Nat} {cs : List CV} (ho : o.op = .alloc T) (hz : zeroL P T = some z) (hn : z.length = sz) (hc : z.map (fun v => CV.p (.val v)) = cs) (k : K (one (.ptr sz n 0 0)) (some ⟨T, sz, [cs]⟩)) : opF P t h n o K := by subst hn; subst hc; exact f_alloc ho hz k
theorem f_box' {K : AV → Option Blk → Prop} {T : TypeId} {X : Operand} {v : AV} {cs : List CV} {sz : Nat} (ho : o.op = .box T X) (hx : evO t X = some v) (hc : cellsA v = some cs) (hn : cs.length = sz) (k : K (one (.ptr sz n 0 0)) (some ⟨T, sz, [cs]⟩)) : opF P t h n o K := by subst hn; exact f_box ho hx hc k
theorem bound_at {d l : Int} {X : Operand} {ki : IntKind} (hx : evO t X = some (V (.int ki l))) : boundO t d (some X) = some l := by
  simp only [boundO, evI, hx, Option.map_some]
section
variable {K : AV → Option Blk → Prop} {T : TypeId} {X Y Z : Operand} {s : ByteArray} {l u : Int} {ki kj : IntKind}
theorem f_sslice_lo (ho : o.op = .slice T X (some Y) none none) (hT : P.underlying T = some .string) (hx : evO t X = some (Sg s)) (hl : evO t Y = some (V (.int ki l))) (h0 : 0 ≤ l) (h1 : l ≤ s.size) (k : K (Sg (s.extract l.toNat s.size)) none) : opF P t h n o K :=
  f_sslice (u := (s.size : Int)) ho hT hx (bound_at hl) rfl h0 h1 (Int.le_refl _) k
theorem f_sslice_hi (ho : o.op = .slice T X none (some Z) none) (hT : P.underlying T = some .string) (hx : evO t X = some (Sg s)) (hu : evO t Z = some (V (.int kj u))) (h0 : 0 ≤ u) (h1 : u ≤ s.size) (k : K (Sg (s.extract 0 u.toNat)) none) : opF P t h n o K :=
  f_sslice (l := 0) ho hT hx rfl (bound_at hu) (Int.le_refl _) h0 h1 k
theorem f_sslice_both (ho : o.op = .slice T X (some Y) (some Z) none) (hT : P.underlying T = some .string) (hx : evO t X = some (Sg s)) (hl : evO t Y = some (V (.int ki l))) (hu : evO t Z = some (V (.int kj u))) (h0 : 0 ≤ l) (h1 : l ≤ u) (h2 : u ≤ s.size) (k : K (Sg (s.extract l.toNat u.toNat)) none) : opF P t h n o K :=
  f_sslice ho hT hx (bound_at hl) (bound_at hu) h0 h1 h2 k
end
section
variable {ops : Array Oper} {r : List Oper} {K : Slots → Heap → Prop} {d : Nat} {x : AV} {b : Blk}
theorem st_call' {f : FuncId} {args : List Operand} {Ts : Array TypeId} {xs : List AV} {y : AV} (hg : gyes ops t o = some t1) (hd : o.dst = some d) (hN : decide (d < N) = true) (ho : o.op = .call { callee := .value (.func f), args := ⟨args⟩, argTypes := Ts }) (hc : PureC P h f xs y) (ha : omap (evO t1) args = some xs) (k : opsE P ops N r ((d, y) :: t1) h K) : opsE P ops N (o :: r) t h K := st_call (args := ⟨args⟩) hg hd hN ho ha hc k
theorem sc_call' {f : FuncId} {args : List Operand} {Ts : Array TypeId} {xs : List AV} {y : AV} (hg : gyes ops t o = some t1) (hd : o.dst = some d) (hN : decide (d < N) = true) (ho : o.op = .call { callee := .value (.func f), args := ⟨args⟩, argTypes := Ts }) (hc : PureC P h f xs y) (ha : omap (evO t1) args = some xs) (k : chainE P ops N r ((d, y) :: t1) (h ++ [none]) K) : chainE P ops N (o :: r) t h K := sc_call (args := ⟨args⟩) hg hd hN ho ha hc k
end
end
end AM
end Go.Proofs.Ytfbnjemmmgobkaa

namespace Go.Proofs.Ytfbnjemmmgobkaa
open Go.RowKit
set_option linter.unusedVariables false
namespace AM
section
variable {P : Program} {N : Nat} {t t1 : Slots} {h : Heap} {o : Oper} {n : Nat} {K : AV → Option Blk → Prop} {T : TypeId} {l : List (Nat × Nat × Bool)} {z : List Value} {out : List CV}
theorem f_build_0 (ho : o.op = .build T #[]) (hl : fieldsL P T = some l) (hz : zeroL P T = some z) (hf : fillA (fun i => (l[i]?).map fun s => (s.1, s.2.1)) (z.map fun v => .p (.val v)) [] = some out) (k : K (.a (.agg out)) none) : opF P t h n o K := f_build' ho hl hz (.nil) hf k
theorem f_build_1 {X0 : Operand} {v0 : AV} {c0 : List CV} {i0 : Nat} (ho : o.op = .build T #[(i0, X0)]) (hx0 : evO t X0 = some v0) (hc0 : cellsA v0 = some c0) (hl : fieldsL P T = some l) (hz : zeroL P T = some z) (hf : fillA (fun i => (l[i]?).map fun s => (s.1, s.2.1)) (z.map fun v => .p (.val v)) [(i0, c0)] = some out) (k : K (.a (.agg out)) none) : opF P t h n o K := f_build' ho hl hz (.cons hx0 hc0 (.nil)) hf k
theorem f_build_2 {X0 X1 : Operand} {v0 v1 : AV} {c0 c1 : List CV} {i0 i1 : Nat} (ho : o.op = .build T #[(i0, X0), (i1, X1)]) (hx0 : evO t X0 = some v0) (hc0 : cellsA v0 = some c0) (hx1 : evO t X1 = some v1) (hc1 : cellsA v1 = some c1) (hl : fieldsL P T = some l) (hz : zeroL P T = some z) (hf : fillA (fun i => (l[i]?).map fun s => (s.1, s.2.1)) (z.map fun v => .p (.val v)) [(i0, c0), (i1, c1)] = some out) (k : K (.a (.agg out)) none) : opF P t h n o K := f_build' ho hl hz (.cons hx0 hc0 (.cons hx1 hc1 (.nil))) hf k
theorem f_build_3 {X0 X1 X2 : Operand} {v0 v1 v2 : AV} {c0 c1 c2 : List CV} {i0 i1 i2 : Nat} (ho : o.op = .build T #[(i0, X0), (i1, X1), (i2, X2)]) (hx0 : evO t X0 = some v0) (hc0 : cellsA v0 = some c0) (hx1 : evO t X1 = some v1) (hc1 : cellsA v1 = some c1) (hx2 : evO t X2 = some v2) (hc2 : cellsA v2 = some c2) (hl : fieldsL P T = some l) (hz : zeroL P T = some z) (hf : fillA (fun i => (l[i]?).map fun s => (s.1, s.2.1)) (z.map fun v => .p (.val v)) [(i0, c0), (i1, c1), (i2, c2)] = some out) (k : K (.a (.agg out)) none) : opF P t h n o K := f_build' ho hl hz (.cons hx0 hc0 (.cons hx1 hc1 (.cons hx2 hc2 (.nil)))) hf k
theorem f_build_4 {X0 X1 X2 X3 : Operand} {v0 v1 v2 v3 : AV} {c0 c1 c2 c3 : List CV} {i0 i1 i2 i3 : Nat} (ho : o.op = .build T #[(i0, X0), (i1, X1), (i2, X2), (i3, X3)]) (hx0 : evO t X0 = some v0) (hc0 : cellsA v0 = some c0) (hx1 : evO t X1 = some v1) (hc1 : cellsA v1 = some c1) (hx2 : evO t X2 = some v2) (hc2 : cellsA v2 = some c2) (hx3 : evO t X3 = some v3) (hc3 : cellsA v3 = some c3) (hl : fieldsL P T = some l) (hz : zeroL P T = some z) (hf : fillA (fun i => (l[i]?).map fun s => (s.1, s.2.1)) (z.map fun v => .p (.val v)) [(i0, c0), (i1, c1), (i2, c2), (i3, c3)] = some out) (k : K (.a (.agg out)) none) : opF P t h n o K := f_build' ho hl hz (.cons hx0 hc0 (.cons hx1 hc1 (.cons hx2 hc2 (.cons hx3 hc3 (.nil))))) hf k
theorem f_build_5 {X0 X1 X2 X3 X4 : Operand} {v0 v1 v2 v3 v4 : AV} {c0 c1 c2 c3 c4 : List CV} {i0 i1 i2 i3 i4 : Nat} (ho : o.op = .build T #[(i0, X0), (i1, X1), (i2, X2), (i3, X3), (i4, X4)]) (hx0 : evO t X0 = some v0) (hc0 : cellsA v0 = some c0) (hx1 : evO t X1 = some v1) (hc1 : cellsA v1 = some c1) (hx2 : evO t X2 = some v2) (hc2 : cellsA v2 = some c2) (hx3 : evO t X3 = some v3) (hc3 : cellsA v3 = some c3) (hx4 : evO t X4 = some v4) (hc4 : cellsA v4 = some c4) (hl : fieldsL P T = some l) (hz : zeroL P T = some z) (hf : fillA (fun i => (l[i]?).map fun s => (s.1, s.2.1)) (z.map fun v => .p (.val v)) [(i0, c0), (i1, c1), (i2, c2), (i3, c3), (i4, c4)] = some out) (k : K (.a (.agg out)) none) : opF P t h n o K := f_build' ho hl hz (.cons hx0 hc0 (.cons hx1 hc1 (.cons hx2 hc2 (.cons hx3 hc3 (.cons hx4 hc4 (.nil)))))) hf k
theorem f_build_6 {X0 X1 X2 X3 X4 X5 : Operand} {v0 v1 v2 v3 v4 v5 : AV} {c0 c1 c2 c3 c4 c5 : List CV} {i0 i1 i2 i3 i4 i5 : Nat} (ho : o.op = .build T #[(i0, X0), (i1, X1), (i2, X2), (i3, X3), (i4, X4), (i5, X5)]) (hx0 : evO t X0 = some v0) (hc0 : cellsA v0 = some c0) (hx1 : evO t X1 = some v1) (hc1 : cellsA v1 = some c1) (hx2 : evO t X2 = some v2) (hc2 : cellsA v2 = some c2) (hx3 : evO t X3 = some v3) (hc3 : cellsA v3 = some c3) (hx4 : evO t X4 = some v4) (hc4 : cellsA v4 = some c4) (hx5 : evO t X5 = some v5) (hc5 : cellsA v5 = some c5) (hl : fieldsL P T = some l) (hz : zeroL P T = some z) (hf : fillA (fun i => (l[i]?).map fun s => (s.1, s.2.1)) (z.map fun v => .p (.val v)) [(i0, c0), (i1, c1), (i2, c2), (i3, c3), (i4, c4), (i5, c5)] = some out) (k : K (.a (.agg out)) none) : opF P t h n o K := f_build' ho hl hz (.cons hx0 hc0 (.cons hx1 hc1 (.cons hx2 hc2 (.cons hx3 hc3 (.cons hx4 hc4 (.cons hx5 hc5 (.nil))))))) hf k
theorem f_build_7 {X0 X1 X2 X3 X4 X5 X6 : Operand} {v0 v1 v2 v3 v4 v5 v6 : AV} {c0 c1 c2 c3 c4 c5 c6 : List CV} {i0 i1 i2 i3 i4 i5 i6 : Nat} (ho : o.op = .build T #[(i0, X0), (i1, X1), (i2, X2), (i3, X3), (i4, X4), (i5, X5), (i6, X6)]) (hx0 : evO t X0 = some v0) (hc0 : cellsA v0 = some c0) (hx1 : evO t X1 = some v1) (hc1 : cellsA v1 = some c1) (hx2 : evO t X2 = some v2) (hc2 : cellsA v2 = some c2) (hx3 : evO t X3 = some v3) (hc3 : cellsA v3 = some c3) (hx4 : evO t X4 = some v4) (hc4 : cellsA v4 = some c4) (hx5 : evO t X5 = some v5) (hc5 : cellsA v5 = some c5) (hx6 : evO t X6 = some v6) (hc6 : cellsA v6 = some c6) (hl : fieldsL P T = some l) (hz : zeroL P T = some z) (hf : fillA (fun i => (l[i]?).map fun s => (s.1, s.2.1)) (z.map fun v => .p (.val v)) [(i0, c0), (i1, c1), (i2, c2), (i3, c3), (i4, c4), (i5, c5), (i6, c6)] = some out) (k : K (.a (.agg out)) none) : opF P t h n o K := f_build' ho hl hz (.cons hx0 hc0 (.cons hx1 hc1 (.cons hx2 hc2 (.cons hx3 hc3 (.cons hx4 hc4 (.cons hx5 hc5 (.cons hx6 hc6 (.nil)))))))) hf k
theorem f_build_8 {X0 X1 X2 X3 X4 X5 X6 X7 : Operand} {v0 v1 v2 v3 v4 v5 v6 v7 : AV} {c0 c1 c2 c3 c4 c5 c6 c7 : List CV} {i0 i1 i2 i3 i4 i5 i6 i7 : Nat} (ho : o.op = .build T #[(i0, X0), (i1, X1), (i2, X2), (i3, X3), (i4, X4), (i5, X5), (i6, X6), (i7, X7)]) (hx0 : evO t X0 = some v0) (hc0 : cellsA v0 = some c0) (hx1 : evO t X1 = some v1) (hc1 : cellsA v1 = some c1) (hx2 : evO t X2 = some v2) (hc2 : cellsA v2 = some c2) (hx3 : evO t X3 = some v3) (hc3 : cellsA v3 = some c3) (hx4 : evO t X4 = some v4) (hc4 : cellsA v4 = some c4) (hx5 : evO t X5 = some v5) (hc5 : cellsA v5 = some c5) (hx6 : evO t X6 = some v6) (hc6 : cellsA v6 = some c6) (hx7 : evO t X7 = some v7) (hc7 : cellsA v7 = some c7) (hl : fieldsL P T = some l) (hz : zeroL P T = some z) (hf : fillA (fun i => (l[i]?).map fun s => (s.1, s.2.1)) (z.map fun v => .p (.val v)) [(i0, c0), (i1, c1), (i2, c2), (i3, c3), (i4, c4), (i5, c5), (i6, c6), (i7, c7)] = some out) (k : K (.a (.agg out)) none) : opF P t h n o K := f_build' ho hl hz (.cons hx0 hc0 (.cons hx1 hc1 (.cons hx2 hc2 (.cons hx3 hc3 (.cons hx4 hc4 (.cons hx5 hc5 (.cons hx6 hc6 (.cons hx7 hc7 (.nil))))))))) hf k
theorem f_build_9 {X0 X1 X2 X3 X4 X5 X6 X7 X8 : Operand} {v0 v1 v2 v3 v4 v5 v6 v7 v8 : AV} {c0 c1 c2 c3 c4 c5 c6 c7 c8 : List CV} {i0 i1 i2 i3 i4 i5 i6 i7 i8 : Nat} (ho : o.op = .build T #[(i0, X0), (i1, X1), (i2, X2), (i3, X3), (i4, X4), (i5, X5), (i6, X6), (i7, X7), (i8, X8)]) (hx0 : evO t X0 = some v0) (hc0 : cellsA v0 = some c0) (hx1 : evO t X1 = some v1) (hc1 : cellsA v1 = some c1) (hx2 : evO t X2 = some v2) (hc2 : cellsA v2 = some c2) (hx3 : evO t X3 = some v3) (hc3 : cellsA v3 = some c3) (hx4 : evO t X4 = some v4) (hc4 : cellsA v4 = some c4) (hx5 : evO t X5 = some v5) (hc5 : cellsA v5 = some c5) (hx6 : evO t X6 = some v6) (hc6 : cellsA v6 = some c6) (hx7 : evO t X7 = some v7) (hc7 : cellsA v7 = some c7) (hx8 : evO t X8 = some v8) (hc8 : cellsA v8 = some c8) (hl : fieldsL P T = some l) (hz : zeroL P T = some z) (hf : fillA (fun i => (l[i]?).map fun s => (s.1, s.2.1)) (z.map fun v => .p (.val v)) [(i0, c0), (i1, c1), (i2, c2), (i3, c3), (i4, c4), (i5, c5), (i6, c6), (i7, c7), (i8, c8)] = some out) (k : K (.a (.agg out)) none) : opF P t h n o K := f_build' ho hl hz (.cons hx0 hc0 (.cons hx1 hc1 (.cons hx2 hc2 (.cons hx3 hc3 (.cons hx4 hc4 (.cons hx5 hc5 (.cons hx6 hc6 (.cons hx7 hc7 (.cons hx8 hc8 (.nil)))))))))) hf k
theorem f_build_10 {X0 X1 X2 X3 X4 X5 X6 X7 X8 X9 : Operand} {v0 v1 v2 v3 v4 v5 v6 v7 v8 v9 : AV} {c0 c1 c2 c3 c4 c5 c6 c7 c8 c9 : List CV} {i0 i1 i2 i3 i4 i5 i6 i7 i8 i9 : Nat} (ho : o.op = .build T #[(i0, X0), (i1, X1), (i2, X2), (i3, X3), (i4, X4), (i5, X5), (i6, X6), (i7, X7), (i8, X8), (i9, X9)]) (hx0 : evO t X0 = some v0) (hc0 : cellsA v0 = some c0) (hx1 : evO t X1 = some v1) (hc1 : cellsA v1 = some c1) (hx2 : evO t X2 = some v2) (hc2 : cellsA v2 = some c2) (hx3 : evO t X3 = some v3) (hc3 : cellsA v3 = some c3) (hx4 : evO t X4 = some v4) (hc4 : cellsA v4 = some c4) (hx5 : evO t X5 = some v5) (hc5 : cellsA v5 = some c5) (hx6 : evO t X6 = some v6) (hc6 : cellsA v6 = some c6) (hx7 : evO t X7 = some v7) (hc7 : cellsA v7 = some c7) (hx8 : evO t X8 = some v8) (hc8 : cellsA v8 = some c8) (hx9 : evO t X9 = some v9) (hc9 : cellsA v9 = some c9) (hl : fieldsL P T = some l) (hz : zeroL P T = some z) (hf : fillA (fun i => (l[i]?).map fun s => (s.1, s.2.1)) (z.map fun v => .p (.val v)) [(i0, c0), (i1, c1), (i2, c2), (i3, c3), (i4, c4), (i5, c5), (i6, c6), (i7, c7), (i8, c8), (i9, c9)] = some out) (k : K (.a (.agg out)) none) : opF P t h n o K := f_build' ho hl hz (.cons hx0 hc0 (.cons hx1 hc1 (.cons hx2 hc2 (.cons hx3 hc3 (.cons hx4 hc4 (.cons hx5 hc5 (.cons hx6 hc6 (.cons hx7 hc7 (.cons hx8 hc8 (.cons hx9 hc9 (.nil))))))))))) hf k
theorem f_build_11 {X0 X1 X2 X3 X4 X5 X6 X7 X8 X9 X10 : Operand} {v0 v1 v2 v3 v4 v5 v6 v7 v8 v9 v10 : AV} {c0 c1 c2 c3 c4 c5 c6 c7 c8 c9 c10 : List CV} {i0 i1 i2 i3 i4 i5 i6 i7 i8 i9 i10 : Nat} (ho : o.op = .build T #[(i0, X0), (i1, X1), (i2, X2), (i3, X3), (i4, X4), (i5, X5), (i6, X6), (i7, X7), (i8, X8), (i9, X9), (i10, X10)]) (hx0 : evO t X0 = some v0) (hc0 : cellsA v0 = some c0) (hx1 : evO t X1 = some v1) (hc1 : cellsA v1 = some c1) (hx2 : evO t X2 = some v2) (hc2 : cellsA v2 = some c2) (hx3 : evO t X3 = some v3) (hc3 : cellsA v3 = some c3) (hx4 : evO t X4 = some v4) (hc4 : cellsA v4 = some c4) (hx5 : evO t X5 = some v5) (hc5 : cellsA v5 = some c5) (hx6 : evO t X6 = some v6) (hc6 : cellsA v6 = some c6) (hx7 : evO t X7 = some v7) (hc7 : cellsA v7 = some c7) (hx8 : evO t X8 = some v8) (hc8 : cellsA v8 = some c8) (hx9 : evO t X9 = some v9) (hc9 : cellsA v9 = some c9) (hx10 : evO t X10 = some v10) (hc10 : cellsA v10 = some c10) (hl : fieldsL P T = some l) (hz : zeroL P T = some z) (hf : fillA (fun i => (l[i]?).map fun s => (s.1, s.2.1)) (z.map fun v => .p (.val v)) [(i0, c0), (i1, c1), (i2, c2), (i3, c3), (i4, c4), (i5, c5), (i6, c6), (i7, c7), (i8, c8), (i9, c9), (i10, c10)] = some out) (k : K (.a (.agg out)) none) : opF P t h n o K := f_build' ho hl hz (.cons hx0 hc0 (.cons hx1 hc1 (.cons hx2 hc2 (.cons hx3 hc3 (.cons hx4 hc4 (.cons hx5 hc5 (.cons hx6 hc6 (.cons hx7 hc7 (.cons hx8 hc8 (.cons hx9 hc9 (.cons hx10 hc10 (.nil)))))))))))) hf k
theorem f_build_12 {X0 X1 X2 X3 X4 X5 X6 X7 X8 X9 X10 X11 : Operand} {v0 v1 v2 v3 v4 v5 v6 v7 v8 v9 v10 v11 : AV} {c0 c1 c2 c3 c4 c5 c6 c7 c8 c9 c10 c11 : List CV} {i0 i1 i2 i3 i4 i5 i6 i7 i8 i9 i10 i11 : Nat} (ho : o.op = .build T #[(i0, X0), (i1, X1), (i2, X2), (i3, X3), (i4, X4), (i5, X5), (i6, X6), (i7, X7), (i8, X8), (i9, X9), (i10, X10), (i11, X11)]) (hx0 : evO t X0 = some v0) (hc0 : cellsA v0 = some c0) (hx1 : evO t X1 = some v1) (hc1 : cellsA v1 = some c1) (hx2 : evO t X2 = some v2) (hc2 : cellsA v2 = some c2) (hx3 : evO t X3 = some v3) (hc3 : cellsA v3 = some c3) (hx4 : evO t X4 = some v4) (hc4 : cellsA v4 = some c4) (hx5 : evO t X5 = some v5) (hc5 : cellsA v5 = some c5) (hx6 : evO t X6 = some v6) (hc6 : cellsA v6 = some c6) (hx7 : evO t X7 = some v7) (hc7 : cellsA v7 = some c7) (hx8 : evO t X8 = some v8) (hc8 : cellsA v8 = some c8) (hx9 : evO t X9 = some v9) (hc9 : cellsA v9 = some c9) (hx10 : evO t X10 = some v10) (hc10 : cellsA v10 = some c10) (hx11 : evO t X11 = some v11) (hc11 : cellsA v11 = some c11) (hl : fieldsL P T = some l) (hz : zeroL P T = some z) (hf : fillA (fun i => (l[i]?).map fun s => (s.1, s.2.1)) (z.map fun v => .p (.val v)) [(i0, c0), (i1, c1), (i2, c2), (i3, c3), (i4, c4), (i5, c5), (i6, c6), (i7, c7), (i8, c8), (i9, c9), (i10, c10), (i11, c11)] = some out) (k : K (.a (.agg out)) none) : opF P t h n o K := f_build' ho hl hz (.cons hx0 hc0 (.cons hx1 hc1 (.cons hx2 hc2 (.cons hx3 hc3 (.cons hx4 hc4 (.cons hx5 hc5 (.cons hx6 hc6 (.cons hx7 hc7 (.cons hx8 hc8 (.cons hx9 hc9 (.cons hx10 hc10 (.cons hx11 hc11 (.nil))))))))))))) hf k
theorem f_build_13 {X0 X1 X2 X3 X4 X5 X6 X7 X8 X9 X10 X11 X12 : Operand} {v0 v1 v2 v3 v4 v5 v6 v7 v8 v9 v10 v11 v12 : AV} {c0 c1 c2 c3 c4 c5 c6 c7 c8 c9 c10 c11 c12 : List CV} {i0 i1 i2 i3 i4 i5 i6 i7 i8 i9 i10 i11 i12 : Nat} (ho : o.op = .build T #[(i0, X0), (i1, X1), (i2, X2), (i3, X3), (i4, X4), (i5, X5), (i6, X6), (i7, X7), (i8, X8), (i9, X9), (i10, X10), (i11, X11), (i12, X12)]) (hx0 : evO t X0 = some v0) (hc0 : cellsA v0 = some c0) (hx1 : evO t X1 = some v1) (hc1 : cellsA v1 = some c1) (hx2 : evO t X2 = some v2) (hc2 : cellsA v2 = some c2) (hx3 : evO t X3 = some v3) (hc3 : cellsA v3 = some c3) (hx4 : evO t X4 = some v4) (hc4 : cellsA v4 = some c4) (hx5 : evO t X5 = some v5) (hc5 : cellsA v5 = some c5) (hx6 : evO t X6 = some v6) (hc6 : cellsA v6 = some c6) (hx7 : evO t X7 = some v7) (hc7 : cellsA v7 = some c7) (hx8 : evO t X8 = some v8) (hc8 : cellsA v8 = some c8) (hx9 : evO t X9 = some v9) (hc9 : cellsA v9 = some c9) (hx10 : evO t X10 = some v10) (hc10 : cellsA v10 = some c10) (hx11 : evO t X11 = some v11) (hc11 : cellsA v11 = some c11) (hx12 : evO t X12 = some v12) (hc12 : cellsA v12 = some c12) (hl : fieldsL P T = some l) (hz : zeroL P T = some z) (hf : fillA (fun i => (l[i]?).map fun s => (s.1, s.2.1)) (z.map fun v => .p (.val v)) [(i0, c0), (i1, c1), (i2, c2), (i3, c3), (i4, c4), (i5, c5), (i6, c6), (i7, c7), (i8, c8), (i9, c9), (i10, c10), (i11, c11), (i12, c12)] = some out) (k : K (.a (.agg out)) none) : opF P t h n o K := f_build' ho hl hz (.cons hx0 hc0 (.cons hx1 hc1 (.cons hx2 hc2 (.cons hx3 hc3 (.cons hx4 hc4 (.cons hx5 hc5 (.cons hx6 hc6 (.cons hx7 hc7 (.cons hx8 hc8 (.cons hx9 hc9 (.cons hx10 hc10 (.cons hx11 hc11 (.cons hx12 hc12 (.nil)))))))))))))) hf k
theorem f_build_14 {X0 X1 X2 X3 X4 X5 X6 X7 X8 X9 X10 X11 X12 X13 : Operand} {v0 v1 v2 v3 v4 v5 v6 v7 v8 v9 v10 v11 v12 v13 : AV} {c0 c1 c2 c3 c4 c5 c6 c7 c8 c9 c10 c11 c12 c13 : List CV} {i0 i1 i2 i3 i4 i5 i6 i7 i8 i9 i10 i11 i12 i13 : Nat} (ho : o.op = .build T #[(i0, X0), (i1, X1), (i2, X2), (i3, X3), (i4, X4), (i5, X5), (i6, X6), (i7, X7), (i8, X8), (i9, X9), (i10, X10), (i11, X11), (i12, X12), (i13, X13)]) (hx0 : evO t X0 = some v0) (hc0 : cellsA v0 = some c0) (hx1 : evO t X1 = some v1) (hc1 : cellsA v1 = some c1) (hx2 : evO t X2 = some v2) (hc2 : cellsA v2 = some c2) (hx3 : evO t X3 = some v3) (hc3 : cellsA v3 = some c3) (hx4 : evO t X4 = some v4) (hc4 : cellsA v4 = some c4) (hx5 : evO t X5 = some v5) (hc5 : cellsA v5 = some c5) (hx6 : evO t X6 = some v6) (hc6 : cellsA v6 = some c6) (hx7 : evO t X7 = some v7) (hc7 : cellsA v7 = some c7) (hx8 : evO t X8 = some v8) (hc8 : cellsA v8 = some c8) (hx9 : evO t X9 = some v9) (hc9 : cellsA v9 = some c9) (hx10 : evO t X10 = some v10) (hc10 : cellsA v10 = some c10) (hx11 : evO t X11 = some v11) (hc11 : cellsA v11 = some c11) (hx12 : evO t X12 = some v12) (hc12 : cellsA v12 = some c12) (hx13 : evO t X13 = some v13) (hc13 : cellsA v13 = some c13) (hl : fieldsL P T = some l) (hz : zeroL P T = some z) (hf : fillA (fun i => (l[i]?).map fun s => (s.1, s.2.1)) (z.map fun v => .p (.val v)) [(i0, c0), (i1, c1), (i2, c2), (i3, c3), (i4, c4), (i5, c5), (i6, c6), (i7, c7), (i8, c8), (i9, c9), (i10, c10), (i11, c11), (i12, c12), (i13, c13)] = some out) (k : K (.a (.agg out)) none) : opF P t h n o K := f_build' ho hl hz (.cons hx0 hc0 (.cons hx1 hc1 (.cons hx2 hc2 (.cons hx3 hc3 (.cons hx4 hc4 (.cons hx5 hc5 (.cons hx6 hc6 (.cons hx7 hc7 (.cons hx8 hc8 (.cons hx9 hc9 (.cons hx10 hc10 (.cons hx11 hc11 (.cons hx12 hc12 (.cons hx13 hc13 (.nil))))))))))))))) hf k
theorem f_build_15 {X0 X1 X2 X3 X4 X5 X6 X7 X8 X9 X10 X11 X12 X13 X14 : Operand} {v0 v1 v2 v3 v4 v5 v6 v7 v8 v9 v10 v11 v12 v13 v14 : AV} {c0 c1 c2 c3 c4 c5 c6 c7 c8 c9 c10 c11 c12 c13 c14 : List CV} {i0 i1 i2 i3 i4 i5 i6 i7 i8 i9 i10 i11 i12 i13 i14 : Nat} (ho : o.op = .build T #[(i0, X0), (i1, X1), (i2, X2), (i3, X3), (i4, X4), (i5, X5), (i6, X6), (i7, X7), (i8, X8), (i9, X9), (i10, X10), (i11, X11), (i12, X12), (i13, X13), (i14, X14)]) (hx0 : evO t X0 = some v0) (hc0 : cellsA v0 = some c0) (hx1 : evO t X1 = some v1) (hc1 : cellsA v1 = some c1) (hx2 : evO t X2 = some v2) (hc2 : cellsA v2 = some c2) (hx3 : evO t X3 = some v3) (hc3 : cellsA v3 = some c3) (hx4 : evO t X4 = some v4) (hc4 : cellsA v4 = some c4) (hx5 : evO t X5 = some v5) (hc5 : cellsA v5 = some c5) (hx6 : evO t X6 = some v6) (hc6 : cellsA v6 = some c6) (hx7 : evO t X7 = some v7) (hc7 : cellsA v7 = some c7) (hx8 : evO t X8 = some v8) (hc8 : cellsA v8 = some c8) (hx9 : evO t X9 = some v9) (hc9 : cellsA v9 = some c9) (hx10 : evO t X10 = some v10) (hc10 : cellsA v10 = some c10) (hx11 : evO t X11 = some v11) (hc11 : cellsA v11 = some c11) (hx12 : evO t X12 = some v12) (hc12 : cellsA v12 = some c12) (hx13 : evO t X13 = some v13) (hc13 : cellsA v13 = some c13) (hx14 : evO t X14 = some v14) (hc14 : cellsA v14 = some c14) (hl : fieldsL P T = some l) (hz : zeroL P T = some z) (hf : fillA (fun i => (l[i]?).map fun s => (s.1, s.2.1)) (z.map fun v => .p (.val v)) [(i0, c0), (i1, c1), (i2, c2), (i3, c3), (i4, c4), (i5, c5), (i6, c6), (i7, c7), (i8, c8), (i9, c9), (i10, c10), (i11, c11), (i12, c12), (i13, c13), (i14, c14)] = some out) (k : K (.a (.agg out)) none) : opF P t h n o K := f_build' ho hl hz (.cons hx0 hc0 (.cons hx1 hc1 (.cons hx2 hc2 (.cons hx3 hc3 (.cons hx4 hc4 (.cons hx5 hc5 (.cons hx6 hc6 (.cons hx7 hc7 (.cons hx8 hc8 (.cons hx9 hc9 (.cons hx10 hc10 (.cons hx11 hc11 (.cons hx12 hc12 (.cons hx13 hc13 (.cons hx14 hc14 (.nil)))))))))))))))) hf k
theorem f_build_16 {X0 X1 X2 X3 X4 X5 X6 X7 X8 X9 X10 X11 X12 X13 X14 X15 : Operand} {v0 v1 v2 v3 v4 v5 v6 v7 v8 v9 v10 v11 v12 v13 v14 v15 : AV} {c0 c1 c2 c3 c4 c5 c6 c7 c8 c9 c10 c11 c12 c13 c14 c15 : List CV} {i0 i1 i2 i3 i4 i5 i6 i7 i8 i9 i10 i11 i12 i13 i14 i15 : Nat} (ho : o.op = .build T #[(i0, X0), (i1, X1), (i2, X2), (i3, X3), (i4, X4), (i5, X5), (i6, X6), (i7, X7), (i8, X8), (i9, X9), (i10, X10), (i11, X11), (i12, X12), (i13, X13), (i14, X14), (i15, X15)]) (hx0 : evO t X0 = some v0) (hc0 : cellsA v0 = some c0) (hx1 : evO t X1 = some v1) (hc1 : cellsA v1 = some c1) (hx2 : evO t X2 = some v2) (hc2 : cellsA v2 = some c2) (hx3 : evO t X3 = some v3) (hc3 : cellsA v3 = some c3) (hx4 : evO t X4 = some v4) (hc4 : cellsA v4 = some c4) (hx5 : evO t X5 = some v5) (hc5 : cellsA v5 = some c5) (hx6 : evO t X6 = some v6) (hc6 : cellsA v6 = some c6) (hx7 : evO t X7 = some v7) (hc7 : cellsA v7 = some c7) (hx8 : evO t X8 = some v8) (hc8 : cellsA v8 = some c8) (hx9 : evO t X9 = some v9) (hc9 : cellsA v9 = some c9) (hx10 : evO t X10 = some v10) (hc10 : cellsA v10 = some c10) (hx11 : evO t X11 = some v11) (hc11 : cellsA v11 = some c11) (hx12 : evO t X12 = some v12) (hc12 : cellsA v12 = some c12) (hx13 : evO t X13 = some v13) (hc13 : cellsA v13 = some c13) (hx14 : evO t X14 = some v14) (hc14 : cellsA v14 = some c14) (hx15 : evO t X15 = some v15) (hc15 : cellsA v15 = some c15) (hl : fieldsL P T = some l) (hz : zeroL P T = some z) (hf : fillA (fun i => (l[i]?).map fun s => (s.1, s.2.1)) (z.map fun v => .p (.val v)) [(i0, c0), (i1, c1), (i2, c2), (i3, c3), (i4, c4), (i5, c5), (i6, c6), (i7, c7), (i8, c8), (i9, c9), (i10, c10), (i11, c11), (i12, c12), (i13, c13), (i14, c14), (i15, c15)] = some out) (k : K (.a (.agg out)) none) : opF P t h n o K := f_build' ho hl hz (.cons hx0 hc0 (.cons hx1 hc1 (.cons hx2 hc2 (.cons hx3 hc3 (.cons hx4 hc4 (.cons hx5 hc5 (.cons hx6 hc6 (.cons hx7 hc7 (.cons hx8 hc8 (.cons hx9 hc9 (.cons hx10 hc10 (.cons hx11 hc11 (.cons hx12 hc12 (.cons hx13 hc13 (.cons hx14 hc14 (.cons hx15 hc15 (.nil))))))))))))))))) hf k
/-- What a load reads, its type's size known. -/
def loadB (h : Heap) (s : Nat × Bool) (x : AV) : Option A1 := match x with
  | .a (.one (.vp cells)) => if s.2 then (if s.1 ≤ cells.length then some (.agg ((cells.take s.1).map .p)) else none) else (cells[0]?).map fun c => .one (.p c)
  | .a (.one (.ptr m b i j)) => match h[b]? with
    | some (some blk) => if blk.m = m then (blk.rows[i]?).bind fun row => if s.2 then (if j + s.1 ≤ row.length then some (.agg ((row.drop j).take s.1)) else none) else (row[j]?).map .one else none
    | _ => none
  | _ => none
theorem loadA_B {T : TypeId} {s : Nat × Bool} {x : AV} (hs : sizeL P T = some s) : loadA P h T x = loadB h s x := by
  unfold loadA loadB
  rw [hs]
  rfl
theorem f_load' {X : Operand} {v : AV} {y : A1} {s : Nat × Bool} (ho : o.op = .load T X) (hx : evO t X = some v) (hs : sizeL P T = some s) (hl : loadB h s v = some y) (k : K (.a y) none) : opF P t h n o K := f_load ho hx ((loadA_B hs).trans hl) k
theorem f_andNot {T ty : TypeId} {X Y : Operand} {a b : Int} (ho : o.op = .binOp .andNot T X Y ty) (hx : evO t X = some (I a)) (hy : evO t Y = some (I b)) (k : K (I (bits .andNot .i64 a b)) none) : opF P t h n o K := f_bin (r := .int .i64 (bits .andNot .i64 a b)) ho hx hy rfl rfl k
theorem mul_bd {a b : Int} (ha : 0 ≤ a ∧ a ≤ 1048576) (hb : 0 ≤ b ∧ b ≤ 1048576) : -9223372036854775808 ≤ a * b ∧ a * b ≤ 9223372036854775807 := by
  have h1 := Int.mul_nonneg ha.1 hb.1
  have h2 : a * b ≤ 1048576 * 1048576 := Int.mul_le_mul ha.2 hb.2 hb.1 (by decide)
  omega
end
end AM
end Go.Proofs.Ytfbnjemmmgobkaa
