/- The abstract machine: a scope with one label. -/
import Derived.Test.YtkmebahjnnnckaaAM25
import Derived.ScopeJumps
namespace Go.Proofs.Ytkmebahjnnnckaa
open Go.RowKit
set_option linter.unusedVariables false
set_option linter.unusedSimpArgs false
namespace AM
/-- A scope in which the run jumps back to one label: a, then the label, then r. -/
theorem wp_scope_at {P : Program} {Q : Exit → Act → World → Prop} {x r : Code} {l : Nat} {a : Act} {w : World} (I : Nat → Act → World → Prop) (hf : findLabel x l = none)
    (first : x.wp P (fun e a w => match e with | .normal => ∃ n, I n a w | .goto _ => False | e => Q e a w) a w)
    (pass : ∀ n a w, I n a w → r.wp P (fun e a' w' => match e with | .goto l' => l' = l ∧ ∃ m, m < n ∧ I m a' w' | e => Q e a' w') a w) : (Code.scope (.seq x (.seq (.label l) r))).wp P Q a w := by
  have hr : ∀ n a w, I n a w → r.wp P (Exit.jump l (fun a' w' => ∃ m, m < n ∧ I m a' w') Q) a w := fun n a w hI b k cs => by
    obtain ⟨e, a₁, w₁, hq, harr⟩ := pass n a w hI b k cs
    exact ⟨e, a₁, w₁, by cases e <;> exact hq, harr⟩
  have hr' : ∀ n a w, I n a w → (Code.seq .skip r).wp P (Exit.jump l (fun a' w' => ∃ m, m < n ∧ I m a' w') Q) a w := fun n a w hI => wp_seq (wp_skip (hr n a w hI))
  have hseq : (Code.seq x (.seq (.label l) r)).wp P (Exit.jump l (fun a' w' => ∃ m, I m a' w') Q) a w := by
    refine wp_seq (fun b k cs => ?_)
    obtain ⟨e, a₁, w₁, hq, harr⟩ := first b k cs
    refine ⟨e, a₁, w₁, ?_, harr⟩
    cases e with
    | normal =>
      obtain ⟨n, hI⟩ := hq
      refine wp_seq (wp_label fun b k cs => ?_)
      obtain ⟨e, a₁, w₁, hq, harr⟩ := hr n _ _ hI b k cs
      refine ⟨e, a₁, w₁, ?_, harr⟩
      cases e with
      | goto l' => exact ⟨hq.1, hq.2.elim fun m hm => ⟨m, hm.2⟩⟩
      | _ => exact hq
    | goto l' => exact hq.elim
    | _ => exact hq
  intro b k cs
  have hg : gotoIn l (.inScope (.seq x (.seq (.label l) r)) :: k) = some (.code (.seq .skip r) :: .inScope (.seq x (.seq (.label l) r)) :: k) := by simp [gotoIn, findLabel, hf]
  have key : ∀ n a w, I n a w → ∃ e a' w', Q e a' w' ∧ Arrives P (lone (b.at a (.code (.seq .skip r) :: .inScope (.seq x (.seq (.label l) r)) :: k)) cs w) b k cs e a' w' := by
    intro n
    induction n using Nat.strongRecOn with
    | _ n ih =>
      intro a w hJ
      obtain ⟨e, a₁, w₁, hq, harr⟩ := hr' n a w hJ b (.inScope (.seq x (.seq (.label l) r)) :: k) cs
      cases e with
      | normal => exact ⟨.normal, a₁, w₁, hq, Steps.trans harr (.one step_inScope)⟩
      | exit id => exact ⟨.exit id, a₁, w₁, hq, fun k' hk => harr k' (by simp [exitTo, hk])⟩
      | goto l' =>
        obtain ⟨rfl, m, hlt, hJ'⟩ := hq
        obtain ⟨e₂, a₂, w₂, hq₂, harr₂⟩ := ih m hlt a₁ w₁ hJ'
        exact ⟨e₂, a₂, w₂, hq₂, .of_steps (harr _ hg) harr₂⟩
      | ret => exact ⟨_, a₁, w₁, hq, harr⟩
      | panic ch => exact ⟨_, a₁, w₁, hq, harr⟩
      | outgrown => exact ⟨_, a₁, w₁, hq, harr⟩
  obtain ⟨e, a₁, w₁, hq, harr⟩ := hseq b (.inScope (.seq x (.seq (.label l) r)) :: k) cs
  cases e with
  | normal => exact ⟨.normal, a₁, w₁, hq, .head step_scope (Steps.trans harr (.one step_inScope))⟩
  | exit id => exact ⟨.exit id, a₁, w₁, hq, fun k' hk => .head step_scope (harr k' (by simp [exitTo, hk]))⟩
  | goto l' =>
    obtain ⟨rfl, m, hJ'⟩ := hq
    obtain ⟨e₂, a₂, w₂, hq₂, harr₂⟩ := key _ a₁ w₁ hJ'
    exact ⟨e₂, a₂, w₂, hq₂, .of_steps (.head step_scope (harr _ hg)) harr₂⟩
  | ret => exact ⟨_, a₁, w₁, hq, .of_steps (.one step_scope) harr⟩
  | panic ch => exact ⟨_, a₁, w₁, hq, .of_steps (.one step_scope) harr⟩
  | outgrown => exact ⟨_, a₁, w₁, hq, .of_steps (.one step_scope) harr⟩
section
variable {P : Program} {N n0 : Nat}
theorem codeE_scope_at {x r : Code} {l : Nat} {t : Slots} {h : Heap} {K : Exit → Slots → Heap → Prop} (I : Nat → Slots → Heap → Prop) (n : Nat) (hf : findLabel x l = none)
    (h1 : codeE P N n0 x t h (firstK n0 I n K)) (h2 : ∀ n t h, I n t h → codeE P N n0 r t h (passK n0 l I n K)) : codeE P N n0 (.scope (.seq x (.seq (.label l) r))) t h K := by
  intro w0 ρe we Q ρ a w hR hA hQ
  refine wp_scope_at (fun n a w => ∃ t h ρ, I n t h ∧ Rel t h N w0 ρ a w ∧ AdvN n0 ρe we ρ w) hf ?_ ?_
  · refine codeE_sound x t h _ _ ρ a w h1 hR hA fun e t' h' ρ' a' w' hK hR' hA' => ?_
    cases e with
    | normal =>
      obtain ⟨t2, h2, ⟨ι, hW⟩, hI'⟩ := hK
      obtain ⟨hR2, hA2⟩ := hR'.weak hW
      exact ⟨n, t2, h2, _, hI', hR2, hA'.trans hA2⟩
    | goto l' => exact hK.elim
    | _ => exact hQ _ _ _ _ _ _ hK hR' hA'
  · rintro n a w ⟨t, h, ρ, hI, hR, hA⟩
    refine codeE_sound r t h _ _ ρ a w (h2 n t h hI) hR hA fun e t' h' ρ' a' w' hK hR' hA' => ?_
    cases e with
    | goto l' =>
      obtain ⟨rfl, m, hm, t2, h2, ⟨ι, hW⟩, hI'⟩ := hK
      obtain ⟨hR2, hA2⟩ := hR'.weak hW
      exact ⟨rfl, m, hm, t2, h2, _, hI', hR2, hA'.trans hA2⟩
    | _ => exact hQ _ _ _ _ _ _ hK hR' hA'
end
end AM
end Go.Proofs.Ytkmebahjnnnckaa
