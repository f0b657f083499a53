/- The abstract machine, 25: more operations. -/
import Derived.Test.YtfbnjemmmgobkaaAM24
namespace Go.Proofs.Ytfbnjemmmgobkaa
open Go.RowKit
set_option linter.unusedVariables false
namespace AM
theorem iotb {H k b : Nat} {l : List Nat} (h : l[k]? = some b) : iot H l k = b := by unfold iot; rw [h]
section
variable {P : Program} {t : Slots} {h : Heap} {n : Nat} {o : Oper} {K : AV → Option Blk → Prop}
theorem f_min_r {T1 T2 : TypeId} {X Y : Operand} {a b : Int} (ho : o.op = .call { callee := .builtin .min, args := #[X, Y], argTypes := #[T1, T2] }) (hx : evO t X = some (I a)) (hy : evO t Y = some (I b)) (hc : b < a) (k : K (I b) none) : opF P t h n o K := f_min ho hx hy (by rw [if_pos hc]; exact k)
theorem f_min_l {T1 T2 : TypeId} {X Y : Operand} {a b : Int} (ho : o.op = .call { callee := .builtin .min, args := #[X, Y], argTypes := #[T1, T2] }) (hx : evO t X = some (I a)) (hy : evO t Y = some (I b)) (hc : ¬ b < a) (k : K (I a) none) : opF P t h n o K := f_min ho hx hy (by rw [if_neg hc]; exact k)
theorem f_minN {T1 T2 : TypeId} {X Y : Operand} {a b : Nat} (ho : o.op = .call { callee := .builtin .min, args := #[X, Y], argTypes := #[T1, T2] }) (hx : evO t X = some (I a)) (hy : evO t Y = some (I b)) (k : K (I ((min a b : Nat) : Int)) none) : opF P t h n o K := f_min ho hx hy (by rw [show (if (b : Int) < (a : Int) then (b : Int) else (a : Int)) = ((min a b : Nat) : Int) by split <;> omega]; exact k)
theorem f_addw {T ty : TypeId} {X Y : Operand} {a b : Int} (ho : o.op = .binOp .add T X Y ty) (hx : evO t X = some (I a)) (hy : evO t Y = some (I b)) (k : K (I (IntKind.i64.wrap (a + b))) none) : opF P t h n o K := f_bin (r := .int .i64 (IntKind.i64.wrap (a + b))) ho hx hy rfl rfl k
theorem f_subw {T ty : TypeId} {X Y : Operand} {a b : Int} (ho : o.op = .binOp .sub T X Y ty) (hx : evO t X = some (I a)) (hy : evO t Y = some (I b)) (k : K (I (IntKind.i64.wrap (a - b))) none) : opF P t h n o K := f_bin (r := .int .i64 (IntKind.i64.wrap (a - b))) ho hx hy rfl rfl k
theorem f_nilchk {X : Operand} {v : AV} (ho : o.op = .nilCheck X) (hx : evO t X = some v) (hp : isPtrA v = true) (k : K v none) : opF P t h n o K := by
  unfold opF; rw [ho]
  exact ⟨v, hx, by dsimp only; rw [if_pos hp]; exact k⟩
theorem f_nileq {T ty : TypeId} {X : Operand} {m l c : Nat} {row : List PV} {rows : List (List PV)} {em : TypeId × Nat} (ho : o.op = .binOp .eql T X (.const (.slice none l c)) ty) (hx : evO t X = some (one (.p (.view m (row :: rows))))) (hT : elemL P T = some em) (k : K (Bo false) none) : opF P t h n o K := by
  unfold opF; rw [ho]
  refine ⟨_, hx, ?_⟩
  show isSliceD (P.underlying T) = true ∧ K (Bo false) none
  refine ⟨?_, k⟩
  obtain ⟨i, h1, _⟩ := elemL_parts (e := em.1) (k := em.2) hT
  rw [h1]; rfl
theorem f_nillit {T ty : TypeId} {X : Operand} {a : Option Addr} {n0 c0 l c : Nat} {em : TypeId × Nat} (ho : o.op = .binOp .eql T X (.const (.slice none l c)) ty) (hx : evO t X = some (V (.slice a n0 c0))) (hT : elemL P T = some em) (k : K (Bo a.isNone) none) : opF P t h n o K := by
  obtain ⟨i, h1, _⟩ := elemL_parts (e := em.1) (k := em.2) hT
  refine f_bin (r := .bool a.isNone) (v := .slice none l c) ho hx rfl ?_ rfl k
  have hq : pk P (Op.equal T (.slice a n0 c0) (.slice none l c)) (· = a.isNone) := by
    unfold Op.equal Op.maxDepth
    rw [show (10000 : Nat) = 9999 + 1 from rfl]
    unfold Op.equalIn
    rw [pk_bind, pk_under h1]
    cases a <;> rfl
  have mono : ∀ {α : Type} (s : Sem α) (K K' : α → Prop), (∀ v, K v → K' v) → pk P s K → pk P s K' := fun s K K' hk => by
    intro hp
    induction s with
    | pure a => exact hk a hp
    | program k ih => exact ih P hp
    | mark m k ih => exact ih hp
    | _ => exact hp.elim
  rw [pk_bind]
  show pk P (do pure (.bool (← Op.equal T (.slice a n0 c0) (.slice none l c))) : Sem Value) _
  rw [pk_bind]
  exact mono _ _ _ (fun v hv => by subst hv; rfl) hq
end
/-- An empty slice that came in is a value. -/
theorem eff_nilview {P : Program} {h : Heap} {f : FuncId} {m : Nat} {xs : List AV} {K : AV → Heap → Prop} (he : ∀ a c, Eff P h f (V (.slice a 0 c) :: xs) K) : Eff P h f (one (.p (.view m [])) :: xs) K := by
  refine ⟨(he none 0).1, fun w0 w ρ vs hG hs hR => ?_⟩
  obtain ⟨u, h1, h2⟩ := hR 0 _ rfl
  have hu : ∃ a c, u = .slice a 0 c := by
    have h3 := h2.1
    generalize u = v at h3
    cases h3 with
    | nil m a c => exact ⟨a, c, rfl⟩
    | view m rows g o c f hne _ _ _ _ _ _ => exact absurd rfl hne
  obtain ⟨a, c, rfl⟩ := hu
  refine (he a c).2 w0 w ρ vs hG (by simpa using hs) (fun j x hj => ?_)
  cases j with
  | zero => cases hj; exact ⟨_, h1, .val _, rfl⟩
  | succ j => exact hR (j + 1) x (by simpa using hj)
end AM
end Go.Proofs.Ytfbnjemmmgobkaa
