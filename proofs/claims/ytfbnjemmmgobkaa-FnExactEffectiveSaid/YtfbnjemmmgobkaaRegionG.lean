/- A region that draws its order and holds guarded operations, by what each of its operations yields: an operation whose guard says no is passed over. -/
import Derived.Test.YtfbnjemmmgobkaaRegion
namespace Go.Proofs.Ytfbnjemmmgobkaa
open Go.RowKit

section
variable {P : Program}
/-- Every number waits for smaller ones alone. -/
def inOrderG (ops : Array Oper) : Bool := (List.range ops.size).all fun i => match ops[i]? with | some o => o.after.toList.all fun e => decide (e.on < i) | none => true
theorem wpAny_valuesG {ops : Array Oper} {Q : Exit → Act → World → Prop} {a0 : Act} {S : World → Prop} {V : Nat → Value → World → Prop}
    (hord : inOrderG ops = true) (honce : onceOnly ops a0.tmps.size = true)
    (hop : ∀ i o, ops[i]? = some o → ∀ a w, a.defers = a0.defers → S w →
      (∀ j d, waitsFor ops i j = true → dstOf ops j = some d → V j (a.tmps.getD d undef) w) →
      (∀ k, freeFor ops i k = true → a.tmps.getD k undef = a0.tmps.getD k undef) →
      (Region.wanted o (yielded ops a.tmps) = true ∧ o.wp P a w (Nxt o i V S a w) Q) ∨ (Region.wanted o (yielded ops a.tmps) = false ∧ ∀ d, o.dst = some d → V i undef w))
    (hend : ∀ a w, a.tmps.size = a0.tmps.size → a.defers = a0.defers → S w → (∀ j d, dstOf ops j = some d → V j (a.tmps.getD d undef) w) →
      (∀ k, (∀ j, dstOf ops j ≠ some k) → a.tmps.getD k undef = a0.tmps.getD k undef) → Q .normal a w) :
    ∀ (fuel : Nat) (listed : Array Bool) (a : Act) (w : World), listed.toList.count false ≤ fuel → Stands ops a0 S V listed a w → wpAny P .any ops Q fuel listed a w := by
  have hall : ∀ listed : Array Bool, listed.size = ops.size → Region.ready .any ops listed = [] → ∀ j, j < ops.size → listed.getD j false = true := by
    intro listed hl hr j
    induction j using Nat.strongRecOn with
    | _ j ih =>
      intro hj
      rcases hb : listed.getD j false with _ | _
      · exfalso
        have ho : ops[j]? = some ops[j] := Array.getElem?_eq_getElem hj
        have hm : j ∈ Region.ready .any ops listed := by
          refine mem_ready.2 ⟨?_, ops[j], ho, fun e he hbd => ?_⟩
          · have : j < listed.size := by omega
            simpa [Array.getD, this] using hb
          · have h1 := List.all_eq_true.1 hord j (List.mem_range.2 hj)
            simp only [ho] at h1
            have h2 := List.all_eq_true.1 h1 e (by simpa using he)
            exact ih e.on (by simpa using h2) (by have : e.on < j := by simpa using h2
                                                  omega)
        rw [hr] at hm
        cases hm
      · rfl
  have hQ : ∀ listed a w, Stands ops a0 S V listed a w → Region.ready .any ops listed = [] → Q .normal a w := by
    intro listed a w h hr
    have hl := hall listed h.lsize hr
    exact hend a w h.size h.defers h.holds (fun j d hd => h.done j d (hl j (dstOf_lt hd)) hd) (fun k hk => h.rest k fun j _ => hk j)
  intro fuel
  induction fuel with
  | zero =>
    intro listed a w hc h
    have hr : Region.ready .any ops listed = [] := by
      refine List.eq_nil_iff_forall_not_mem.2 fun j hj => ?_
      obtain ⟨h1, oj, hoj, _⟩ := mem_ready.1 hj
      have hjl : j < listed.size := by
        rw [h.lsize]
        exact (Array.getElem?_eq_some_iff.1 hoj).1
      have h2 : listed[j] = false := by simpa [Array.getD, hjl] using h1
      have h3 : false ∈ listed.toList := by rw [← h2]; simp
      have := List.count_pos_iff.2 h3
      omega
    exact ⟨hr, hQ listed a w h hr⟩
  | succ fuel ih =>
    intro listed a w hc h
    refine ⟨hQ listed a w h, fun i hi => ?_⟩
    obtain ⟨h1, o, ho, hdep⟩ := mem_ready.1 hi
    have hil : i < ops.size := (Array.getElem?_eq_some_iff.1 ho).1
    have hil' : i < listed.size := by rw [h.lsize]; exact hil
    have h1' : listed.getD i false = false := by simpa [Array.getD, hil'] using h1
    unfold wpOp
    simp only [ho]
    have hon := List.all_eq_true.1 honce i (List.mem_range.2 hil)
    simp only [Bool.and_eq_true] at hon
    have hdi : dstOf ops i = o.dst := by unfold dstOf; rw [ho]; rfl
    have hnext : ∀ a' w', Nxt o i V S a w a' w' → wpAny P .any ops Q fuel (listed.setIfInBounds i true) a' w' := by
      rintro a' w' ⟨v, rfl, hv, hS, hmono⟩
      refine ih _ _ _ ?_ ⟨by simpa using h.lsize, by rw [size_put]; exact h.size, by rw [defers_put]; exact h.defers, hS, ?_, ?_, ?_⟩
      · have h2 : listed[i] = false := by simpa [Array.getD, hil'] using h1
        have h3 : false ∈ listed.toList := by rw [← h2]; simp
        have h4 := List.count_pos_iff.2 h3
        have h5 : (listed.setIfInBounds i true).toList.count false = listed.toList.count false - 1 := by
          rw [Array.toList_setIfInBounds, List.count_set (by simpa using hil')]
          simp only [Array.getElem_toList, h2]
          rfl
        omega
      · intro j m hj hwt
        rw [getD_set _ _ _ hil'] at hj ⊢
        by_cases e : j = i
        · subst e
          simp only [waitsFor, ho, List.any_eq_true] at hwt
          obtain ⟨e, he, hbe⟩ := hwt
          simp only [Bool.and_eq_true, beq_iff_eq] at hbe
          rw [← hbe.2, hdep e (by simpa using he) hbe.1, Bool.or_true]
        · have : listed.getD j false = true := by simpa [e] using hj
          rw [h.closed j m this hwt, Bool.or_true]
      · intro j d hj hd
        rw [getD_set _ _ _ hil'] at hj
        by_cases e : j = i
        · subst e
          rw [hdi] at hd
          rw [hd] at hv ⊢
          have hsz : d < a0.tmps.size := by
            have := hon.1
            rw [hdi, hd] at this
            simpa using this
          rw [getD_put_same a d v (by rw [h.size]; exact hsz)]
          exact hv d rfl
        · have hlj : listed.getD j false = true := by simpa [e] using hj
          have hne : o.dst ≠ some d := by
            intro he
            have := List.all_eq_true.1 hon.2 j (List.mem_range.2 (dstOf_lt hd))
            rw [hdi, he] at this
            simp [hd] at this
            exact e this.symm
          rw [getD_put_ne a o.dst d v hne]
          exact hmono _ _ (h.done j d hlj hd)
      · intro k hk
        have hne : o.dst ≠ some k := by
          have := hk i (by rw [getD_set _ _ _ hil']; simp)
          rwa [hdi] at this
        rw [getD_put_ne a o.dst k v hne]
        exact h.rest k fun j hj => hk j (by rw [getD_set _ _ _ hil', hj, Bool.or_true])
    have hA : ∀ j d, waitsFor ops i j = true → dstOf ops j = some d → V j (a.tmps.getD d undef) w := by
      intro j d hj hd
      simp only [waitsFor, ho, List.any_eq_true] at hj
      obtain ⟨e, he, hbe⟩ := hj
      simp only [Bool.and_eq_true, beq_iff_eq] at hbe
      exact h.done j d (by rw [← hbe.2]; exact hdep e (by simpa using he) hbe.1) hd
    have hB : ∀ k, freeFor ops i k = true → a.tmps.getD k undef = a0.tmps.getD k undef := by
      intro k hk
      refine h.rest k fun j hj hd => ?_
      have := List.all_eq_true.1 hk j (List.mem_range.2 (dstOf_lt hd))
      rw [hd] at this
      have hwt : waitsFor ops j i = true := by simpa using this
      rw [h.closed j i hj hwt] at h1'
      cases h1'
    rcases hop i o ho a w h.defers h.holds hA hB with ⟨hw, hp⟩ | ⟨hw, hv⟩
    · rw [if_pos hw]
      exact .inl (Oper.wp_mono (fun a' w' => hnext a' w') hp)
    · rw [if_neg (by rw [hw]; exact Bool.false_ne_true)]
      exact hnext _ _ ⟨undef, rfl, hv, h.holds, fun _ _ h => h⟩

/-- THE RULE. -/
theorem wp_region_valuesG {id : Nat} {ops : Array Oper} {Q : Exit → Act → World → Prop} {a0 : Act} {w0 : World} (hm : P.follows .mixedOrders = true) (S : World → Prop) (V : Nat → Value → World → Prop) (n : Nat) (hn : a0.tmps.size = n)
    (hord : inOrderG ops = true) (honce : onceOnly ops n = true) (hS : S w0.drew)
    (hop : ∀ i o, ops[i]? = some o → ∀ a w, a.defers = a0.defers → S w →
      (∀ j d, waitsFor ops i j = true → dstOf ops j = some d → V j (a.tmps.getD d undef) w) →
      (∀ k, freeFor ops i k = true → a.tmps.getD k undef = a0.tmps.getD k undef) →
      (Region.wanted o (yielded ops a.tmps) = true ∧ o.wp P a w (Nxt o i V S a w) Q) ∨ (Region.wanted o (yielded ops a.tmps) = false ∧ ∀ d, o.dst = some d → V i undef w))
    (hend : ∀ a w, a.tmps.size = a0.tmps.size → a.defers = a0.defers → S w → (∀ j d, dstOf ops j = some d → V j (a.tmps.getD d undef) w) →
      (∀ k, (∀ j, dstOf ops j ≠ some k) → a.tmps.getD k undef = a0.tmps.getD k undef) → Q .normal a w) :
    (Code.region id ops true).wp P Q a0 w0 := by
  refine wp_region_any hm (wpAny_valuesG (S := S) (V := V) hord (by rw [hn]; exact honce) hop hend _ _ _ _ ?_ ⟨by simp, rfl, rfl, hS, ?_, ?_, ?_⟩)
  · simp
  · intro j i hj
    rw [none_listed] at hj
    cases hj
  · intro j d hj
    rw [none_listed] at hj
    cases hj
  · intro k _
    rfl


theorem yielded_bool {ops : Array Oper} {a : Act} {j d : Nat} {b : Bool} (h : dstOf ops j = some d) (x : a.tmps.getD d undef = .bool b) : yielded ops a.tmps j = some b := by
  unfold yielded
  rw [show (ops[j]?).bind (·.dst) = some d from h]
  have e : a.tmps[d]? = some (.bool b) := by
    rw [Array.getD_eq_getD_getElem?] at x
    cases hc : a.tmps[d]? with
    | none => rw [hc] at x; cases x
    | some y => rw [hc] at x; exact congrArg some x
  show (match a.tmps[d]? with | some (.bool b) => some b | _ => none) = some b
  rw [e]
theorem yielded_undef {ops : Array Oper} {a : Act} {j d : Nat} (h : dstOf ops j = some d) (x : a.tmps.getD d undef = undef) : yielded ops a.tmps j = none := by
  unfold yielded
  rw [show (ops[j]?).bind (·.dst) = some d from h]
  show (match a.tmps[d]? with | some (.bool b) => some b | _ => none) = none
  rw [Array.getD_eq_getD_getElem?] at x
  cases hc : a.tmps[d]? with
  | none => rfl
  | some y => rw [hc] at x; obtain rfl : y = undef := x; rfl
/-- The guard says yes; it says no; it was passed over itself. -/
theorem wanted_yes {ops : Array Oper} {o : Oper} {a : Act} {j d : Nat} {b : Bool} (hg : o.guard = some (j, b)) (h : dstOf ops j = some d) (x : a.tmps.getD d undef = .bool b) : Region.wanted o (yielded ops a.tmps) = true := by
  unfold Region.wanted; rw [hg]; show (yielded ops a.tmps j == some b) = true; rw [yielded_bool h x]; simp
theorem wanted_no {ops : Array Oper} {o : Oper} {a : Act} {j d : Nat} {b c : Bool} (hg : o.guard = some (j, b)) (h : dstOf ops j = some d) (x : a.tmps.getD d undef = .bool c) (hn : (c == b) = false) : Region.wanted o (yielded ops a.tmps) = false := by
  unfold Region.wanted; rw [hg]; show (yielded ops a.tmps j == some b) = false; rw [yielded_bool h x]; cases b <;> cases c <;> first | rfl | cases hn
theorem wanted_undef {ops : Array Oper} {o : Oper} {a : Act} {j d : Nat} {b : Bool} (hg : o.guard = some (j, b)) (h : dstOf ops j = some d) (x : a.tmps.getD d undef = undef) : Region.wanted o (yielded ops a.tmps) = false := by
  unfold Region.wanted; rw [hg]; show (yielded ops a.tmps j == some b) = false; rw [yielded_undef h x]; rfl
theorem wanted_free {o : Oper} {y : Nat → Option Bool} (hg : o.guard = none) : Region.wanted o y = true := by
  unfold Region.wanted; rw [hg]
end

end Go.Proofs.Ytfbnjemmmgobkaa
