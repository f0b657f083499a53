/- The abstract machine, 20: parts, calls by a contract's own arguments. -/
import Derived.Test.YtioejbgdhmiiiaaAM19
namespace Go.Proofs.Ytioejbgdhmiiiaa
open Go.RowKit
set_option linter.unusedVariables false
set_option linter.unusedSimpArgs false
namespace AM
section
variable {P : Program} {N : Nat} {t t1 : Slots} {h : Heap} {o : Oper} {n : Nat}
inductive PartsE (t : Slots) : List (Nat × Operand) → List (Nat × List CV) → Prop
  | nil : PartsE t [] []
  | cons {i : Nat} {X : Operand} {v : AV} {cs : List CV} {r : List (Nat × Operand)} {q : List (Nat × List CV)} (hx : evO t X = some v) (hc : cellsA v = some cs) (hr : PartsE t r q) : PartsE t ((i, X) :: r) ((i, cs) :: q)
theorem PartsE.at {l : List (Nat × Operand)} {q : List (Nat × List CV)} (hp : PartsE t l q) : omap (fun p => ((evO t p.2).bind cellsA).map fun cs => (p.1, cs)) l = some q := by
  induction hp with
  | nil => rfl
  | cons hx hc hr ih => simp only [omap, hx, hc, ih, Option.bind_some, Option.map_some]
theorem f_build' {K : AV → Option Blk → Prop} {T : TypeId} {l0 : List (Nat × Operand)} {l : List (Nat × Nat × Bool)} {z : List Value} {ps : List (Nat × List CV)} {out : List CV} (ho : o.op = .build T ⟨l0⟩) (hl : fieldsL P T = some l) (hz : zeroL P T = some z) (hp : PartsE t l0 ps) (hf : fillA (fun i => (l[i]?).map fun s => (s.1, s.2.1)) (z.map fun v => .p (.val v)) ps = some out) (k : K (.a (.agg out)) none) : opF P t h n o K :=
  f_build (parts := ⟨l0⟩) ho hl hz hp.at hf k
theorem f_alloc' {K : AV → Option Blk → Prop} {T : TypeId} {z : List Value} {sz : Nat} {cs : List CV} (ho : o.op = .alloc T) (hz : zeroL P T = some z) (hn : z.length = sz) (hc : z.map (fun v => CV.p (.val v)) = cs) (k : K (one (.ptr sz n 0 0)) (some ⟨T, sz, [cs]⟩)) : opF P t h n o K := by subst hn; subst hc; exact f_alloc ho hz k
theorem f_box' {K : AV → Option Blk → Prop} {T : TypeId} {X : Operand} {v : AV} {cs : List CV} {sz : Nat} (ho : o.op = .box T X) (hx : evO t X = some v) (hc : cellsA v = some cs) (hn : cs.length = sz) (k : K (one (.ptr sz n 0 0)) (some ⟨T, sz, [cs]⟩)) : opF P t h n o K := by subst hn; exact f_box ho hx hc k
theorem bound_at {d l : Int} {X : Operand} {ki : IntKind} (hx : evO t X = some (V (.int ki l))) : boundO t d (some X) = some l := by
  simp only [boundO, evI, hx, Option.map_some]
section
variable {K : AV → Option Blk → Prop} {T : TypeId} {X Y Z : Operand} {s : ByteArray} {l u : Int} {ki kj : IntKind}
theorem f_sslice_lo (ho : o.op = .slice T X (some Y) none none) (hT : P.underlying T = some .string) (hx : evO t X = some (Sg s)) (hl : evO t Y = some (V (.int ki l))) (h0 : 0 ≤ l) (h1 : l ≤ s.size) (k : K (Sg (s.extract l.toNat s.size)) none) : opF P t h n o K :=
  f_sslice (u := (s.size : Int)) ho hT hx (bound_at hl) rfl h0 h1 (Int.le_refl _) k
theorem f_sslice_hi (ho : o.op = .slice T X none (some Z) none) (hT : P.underlying T = some .string) (hx : evO t X = some (Sg s)) (hu : evO t Z = some (V (.int kj u))) (h0 : 0 ≤ u) (h1 : u ≤ s.size) (k : K (Sg (s.extract 0 u.toNat)) none) : opF P t h n o K :=
  f_sslice (l := 0) ho hT hx rfl (bound_at hu) (Int.le_refl _) h0 h1 k
theorem f_sslice_both (ho : o.op = .slice T X (some Y) (some Z) none) (hT : P.underlying T = some .string) (hx : evO t X = some (Sg s)) (hl : evO t Y = some (V (.int ki l))) (hu : evO t Z = some (V (.int kj u))) (h0 : 0 ≤ l) (h1 : l ≤ u) (h2 : u ≤ s.size) (k : K (Sg (s.extract l.toNat u.toNat)) none) : opF P t h n o K :=
  f_sslice ho hT hx (bound_at hl) (bound_at hu) h0 h1 h2 k
end
section
variable {ops : Array Oper} {r : List Oper} {K : Slots → Heap → Prop} {d : Nat} {x : AV} {b : Blk}
theorem st_call' {f : FuncId} {args : List Operand} {Ts : Array TypeId} {xs : List AV} {y : AV} (hg : gyes ops t o = some t1) (hd : o.dst = some d) (hN : decide (d < N) = true) (ho : o.op = .call { callee := .value (.func f), args := ⟨args⟩, argTypes := Ts }) (hc : PureC P h f xs y) (ha : omap (evO t1) args = some xs) (k : opsE P ops N r ((d, y) :: t1) h K) : opsE P ops N (o :: r) t h K := st_call (args := ⟨args⟩) hg hd hN ho ha hc k
theorem sc_call' {f : FuncId} {args : List Operand} {Ts : Array TypeId} {xs : List AV} {y : AV} (hg : gyes ops t o = some t1) (hd : o.dst = some d) (hN : decide (d < N) = true) (ho : o.op = .call { callee := .value (.func f), args := ⟨args⟩, argTypes := Ts }) (hc : PureC P h f xs y) (ha : omap (evO t1) args = some xs) (k : chainE P ops N r ((d, y) :: t1) (h ++ [none]) K) : chainE P ops N (o :: r) t h K := sc_call (args := ⟨args⟩) hg hd hN ho ha hc k
end
end
end AM
end Go.Proofs.Ytioejbgdhmiiiaa
