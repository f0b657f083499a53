/- The abstract machine, 2: operations that touch no own block: what they yield. -/
import Derived.Test.YtioejbgdhmiiiaaAM1
import Derived.Great.BuildSlice
import Derived.Deep.MidRow
import Derived.Laws.MakeOwn
import Derived.Laws.IdiomStrings
import Derived.Laws.Build
namespace Go.Proofs.Ytioejbgdhmiiiaa
open Go.RowKit
set_option linter.unusedVariables false
set_option linter.unusedSimpArgs false
namespace AM
def ow {α : Type} (o : Option α) (k : α → Prop) : Prop := ∃ x, o = some x ∧ k x
theorem ow_some {α : Type} (x : α) (k : α → Prop) : ow (some x) k = k x := by simp [ow]
theorem ow_none {α : Type} (k : α → Prop) : ow none k = False := by simp [ow]
/-- What a meaning says that asks nothing of the world. -/
def pk {α : Type} (P : Program) : Sem α → (α → Prop) → Prop
  | .pure a, K => K a
  | .program k, K => pk P (k P) K
  | .mark _ k, K => pk P k K
  | _, _ => False
theorem pk_sound {α : Type} {P : Program} : ∀ (s : Sem α) (K : α → Prop), pk P s K → ∃ v, K v ∧ ∀ w, s.run P w = .ok v w
  | .pure a, K, h => ⟨a, h, fun _ => rfl⟩
  | .program k, K, h => by
    obtain ⟨v, h1, h2⟩ := pk_sound (k P) K h
    exact ⟨v, h1, fun w => h2 w⟩
  | .mark _ k, K, h => by
    obtain ⟨v, h1, h2⟩ := pk_sound k K h
    exact ⟨v, h1, fun w => h2 w⟩
theorem pk_bind' {α β : Type} {P : Program} : ∀ (s : Sem α) (f : α → Sem β) (K : β → Prop), pk P (Sem.bind s f) K = pk P s (fun a => pk P (f a) K)
  | .pure a, f, K => rfl
  | .program k, f, K => pk_bind' (k P) f K
  | .mark _ k, f, K => pk_bind' k f K
  | .load .., _, _ | .store .., _, _ | .new .., _, _ | .shape .., _, _ | .freeze .., _, _ | .frozen .., _, _ | .getObj .., _, _ | .setObj .., _, _ | .choose .., _, _ | .sys .., _, _ | .halt .., _, _ => rfl
theorem pk_bind {α β : Type} {P : Program} (s : Sem α) (f : α → Sem β) (K : β → Prop) : pk P (s >>= f) K = pk P s (fun a => pk P (f a) K) := pk_bind' s f K
theorem pk_pure {α : Type} {P : Program} (a : α) (K : α → Prop) : pk P (pure a) K = K a := rfl
theorem pk_pure' {α : Type} {P : Program} (a : α) (K : α → Prop) : pk P (Sem.pure a) K = K a := rfl
theorem pk_program {P : Program} (K : Program → Prop) : pk P program K = K P := rfl
theorem pk_ite {α : Type} {P : Program} (c : Prop) [Decidable c] (s1 s2 : Sem α) (K : α → Prop) : pk P (if c then s1 else s2) K = if c then pk P s1 K else pk P s2 K := by split <;> rfl
theorem pk_under {P : Program} {T : TypeId} {d : TypeDesc} (h : P.underlying T = some d) (K : TypeDesc → Prop) : pk P (underlying T) K = K d := by
  unfold underlying; rw [pk_bind, pk_program, h]; rfl
theorem pk_info {P : Program} {T : TypeId} {i : TypeInfo} (h : P.info? T = some i) (K : TypeInfo → Prop) : pk P (typeInfo T) K = K i := by
  unfold typeInfo; rw [pk_bind, pk_program, h]; rfl
/-- Slots, newest first. -/
def get : List (Nat × AV) → Nat → Option AV
  | [], _ => none
  | (j, x) :: r, i => if i = j then some x else get r i
/-- A value as an abstract one. -/
def ofV : Value → Option AV
  | .agg cs => if cs.all (·.oneCell') then some (.a (.agg (cs.toList.map fun v => .p (.val v)))) else none
  | .tuple _ => none
  | v => some (.a (.one (.p (.val v))))
def evO (t : List (Nat × AV)) : Operand → Option AV
  | .tmp i => get t i
  | .const v => ofV v
  | .global g => some (.a (.one (.p (.val (.pointer (some ⟨g, 0, none⟩))))))
  | .func f => some (.a (.one (.p (.val (.func (.func f) #[] #[])))))
def lit1 : CV → Option Value
  | .p (.val x) => some x
  | _ => none
def litL : List CV → Option (List Value)
  | [] => some []
  | c :: r => match lit1 c, litL r with
    | some v, some l => some (v :: l)
    | _, _ => none
def litA : AV → Option Value
  | .a (.one c) => lit1 c
  | .a (.agg cs) => (litL cs).map fun l => .agg l.toArray
  | .tup _ | .und => none
def litO (t : List (Nat × AV)) (x : Operand) : Value := match evO t x with
  | some v => (litA v).getD undef
  | none => undef
def hasLit (t : List (Nat × AV)) (x : Operand) : Bool := match evO t x with
  | some v => (litA v).isSome
  | none => false
theorem ofV_R {ρ : Own} {w : World} {v : Value} {x : AV} (h : ofV v = some x) : AR ρ w x v := by
  cases v <;> simp only [ofV] at h <;> first
    | (cases h; exact ⟨.val _, rfl⟩)
    | (split at h
       · rename_i cs hc
         cases h
         refine ⟨cs, rfl, by simp, fun j c hj => ?_⟩
         rw [List.getElem?_map] at hj
         cases hv : cs.toList[j]? with
         | none => rw [hv] at hj; cases hj
         | some u =>
           rw [hv] at hj
           cases hj
           have hm : u ∈ cs := by simpa using List.mem_of_getElem? hv
           exact ⟨u, by simpa using hv, .val _, by simpa using Array.all_eq_true_iff_forall_mem.1 hc u hm⟩
       · cases h)
    | cases h
theorem lit1_eq {ρ : Own} {w : World} {c : CV} {u v : Value} (h : CR ρ w c v) (hl : lit1 c = some u) : v = u := by
  cases c with
  | p x =>
    cases x with
    | val y => cases hl; cases h; rfl
    | view m rows => cases hl
  | _ => cases hl
theorem litL_at : ∀ (cs : List CV) (l : List Value), litL cs = some l → l.length = cs.length ∧ ∀ (j : Nat) (c : CV), cs[j]? = some c → ∃ u, lit1 c = some u ∧ l[j]? = some u
  | [], l, h => by cases h; exact ⟨rfl, fun j c hj => by simp at hj⟩
  | c :: r, l, h => by
    simp only [litL] at h
    split at h
    · rename_i v l' h1 h2
      cases h
      obtain ⟨e, f⟩ := litL_at r l' h2
      refine ⟨by simp [e], fun j c' hj => ?_⟩
      cases j with
      | zero => cases hj; exact ⟨v, h1, rfl⟩
      | succ j => exact f j c' hj
    · cases h
theorem litA_eq {ρ : Own} {w : World} {x : AV} {u v : Value} (h : AR ρ w x v) (hl : litA x = some u) : v = u := by
  cases x with
  | a y =>
    cases y with
    | one c => exact lit1_eq h.1 hl
    | agg cs =>
      simp only [litA, Option.map_eq_some_iff] at hl
      obtain ⟨l, h1, rfl⟩ := hl
      obtain ⟨vs, rfl, h3, h4⟩ := h
      obtain ⟨h5, h6⟩ := litL_at cs l h1
      congr 1
      refine Array.ext (by simp; omega) fun j hj hj' => ?_
      have hjc : j < cs.length := by omega
      obtain ⟨u, h7, h8⟩ := h6 j cs[j] (by simp [hjc])
      obtain ⟨z, h9, h10, _⟩ := h4 j cs[j] (by simp [hjc])
      have e := lit1_eq h10 h7
      have e1 : vs[j] = z := by rw [Array.getElem?_eq_getElem hj] at h9; exact Option.some.inj h9
      have e2 : l[j]? = some l[j] := by simp [h5, hjc]
      rw [e2] at h8
      simp only [List.getElem_toArray]
      rw [e1, e, Option.some.inj h8]
  | tup xs => cases hl
  | und => cases hl
/-- What an operation that touches no own block leaves. -/
def Post (ρ : Own) (w : World) (n : Nat) (K : AV → Option Blk → Prop) (v : Value) (w' : World) : Prop :=
  ∃ x bs ρ', K x bs ∧ Below w.heap.size w w' ∧ AR ρ' w' x v ∧ match bs with
    | none => ρ' = ρ
    | some blk => ∃ g, ρ' = ρ.with n g 0 ∧ w.heap.size ≤ g ∧ g < w'.heap.size ∧ BlkR ρ' w' g 0 blk
theorem Post.val {ρ : Own} {w : World} {n : Nat} {K : AV → Option Blk → Prop} {v : Value} {x : AV} (h : K x none) (hR : AR ρ w x v) : Post ρ w n K v w := ⟨x, none, ρ, h, Below.refl _ _, hR, rfl⟩
/-- Cells that lie in one new block. -/
theorem Post.block {ρ : Own} {w : World} {n : Nat} {K : AV → Option Blk → Prop} {v : Value} {x : AV} {T : TypeId} {m : Nat} {rows : List (List CV)} (cs : Array Value)
    (hn : ρ n = none) (h : K x (some ⟨T, m, rows⟩)) (hs : rows.length * m ≤ cs.size) (hm : ∀ (i : Nat) (row : List CV), rows[i]? = some row → row.length = m)
    (hc : ∀ (i j : Nat) (row : List CV) (c : CV), rows[i]? = some row → row[j]? = some c → ∃ u, cs[i * m + j]? = some u ∧ CR ρ w c u ∧ u.oneCell' = true)
    (hx : ∀ ρ' w', ρ' n = some (w.heap.size, 0) → w' = w.alloc (.cells cs T) → AR ρ' w' x v) : Post ρ w n K v (w.alloc (.cells cs T)) := by
  have hb : Below w.heap.size w (w.alloc (.cells cs T)) := below_new _
  have ha : Adv ρ w (ρ.with n w.heap.size 0) (w.alloc (.cells cs T)) := adv_new hb hn (Nat.le_refl _)
  refine ⟨x, some ⟨T, m, rows⟩, ρ.with n w.heap.size 0, h, hb, hx _ _ (by simp [Own.with]) rfl, w.heap.size, rfl, Nat.le_refl _, by simp, ?_⟩
  refine ⟨cs, (0, 0), heap_alloc_new w _, fun j _ hj => by omega, by simpa using hs, hm, fun i j row c h1 h2 => ?_⟩
  obtain ⟨u, h3, h4, h5⟩ := hc i j row c h1 h2
  exact ⟨u, by simpa using h3, h4.adv ha, h5⟩
theorem wp_of_run {P : Program} {o : Oper} {a : Act} {w w' : World} {v : Value} {K : Act → World → Prop} {Q : Exit → Act → World → Prop} (h : (execOp a.eval o).run P w = .ok (.value v) w') (k : K (a.put o.dst v) w') : o.wp P a w K Q := by
  unfold Oper.wp; rw [h]; exact k
theorem run_v {P : Program} {s : Sem Value} {w w' : World} {v : Value} (h : s.run P w = .ok v w') : (do pure (.value (← s)) : Sem Next).run P w = .ok (.value v) w' := by
  rw [Sem.run_bind, h]; rfl
end AM
end Go.Proofs.Ytioejbgdhmiiiaa
