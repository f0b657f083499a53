/- A drawn region that makes a struct of its own and fills it at the end: the rule of XRegion, where a store speaks of the slot that leads to what it fills. -/
import Derived.Test.YtogiocinhjbdkaaRegion
namespace Go.Proofs.Ytogiocinhjbdkaa
open Go.RowKit

section
variable {P : Program}
/-- The slot of which number j speaks: the one that it writes, or, for a store, the one that leads to what it fills. -/
def slotOf (ops : Array Oper) (st : List (Nat × Nat)) (j : Nat) : Option Nat := match st.lookup j with | some d => some d | none => dstOf ops j
/-- Whoever speaks of a slot has waited for who writes it; stores write none. -/
def steady (ops : Array Oper) (st : List (Nat × Nat)) : Bool := (List.range ops.size).all fun j =>
  (match st.lookup j with | some _ => (dstOf ops j).isNone | none => true) &&
  (match slotOf ops st j with
   | some d => (List.range ops.size).all fun i => i == j || dstOf ops i != some d || waitsFor ops j i
   | none => true)
def Nxt2 (ops : Array Oper) (st : List (Nat × Nat)) (o : Oper) (i : Nat) (V : Nat → Value → World → Prop) (S : World → Prop) (a : Act) (w : World) (a' : Act) (w' : World) : Prop :=
  ∃ v, a' = a.put o.dst v ∧ (∀ d, slotOf ops st i = some d → V i (a'.tmps.getD d undef) w') ∧ S w' ∧ ∀ j u, V j u w → V j u w'
/-- A number that writes a slot. -/
theorem Nxt2.mk {ops : Array Oper} {st : List (Nat × Nat)} {o : Oper} {i d0 : Nat} {V : Nat → Value → World → Prop} {S : World → Prop} {a a' : Act} {w w' : World} (v : Value) (h : a' = a.put o.dst v)
    (hd : o.dst = some d0) (hs : slotOf ops st i = some d0) (hl : d0 < a.tmps.size) (hv : V i v w') (hS : S w') (hm : ∀ j u, V j u w → V j u w') : Nxt2 ops st o i V S a w a' w' :=
  ⟨v, h, fun d he => by
    rw [hs] at he
    obtain rfl : d0 = d := Option.some.inj he
    rw [h, hd, getD_put_same a d0 v hl]
    exact hv, hS, hm⟩
/-- A store. -/
theorem Nxt2.store {ops : Array Oper} {st : List (Nat × Nat)} {o : Oper} {i d0 : Nat} {V : Nat → Value → World → Prop} {S : World → Prop} {a a' : Act} {w w' : World} (v : Value) (h : a' = a.put o.dst v)
    (hd : o.dst = none) (hs : slotOf ops st i = some d0) (hv : V i (a.tmps.getD d0 undef) w') (hS : S w') (hm : ∀ j u, V j u w → V j u w') : Nxt2 ops st o i V S a w a' w' :=
  ⟨v, h, fun d he => by
    rw [hs] at he
    obtain rfl : d0 = d := Option.some.inj he
    rw [h, hd]
    exact hv, hS, hm⟩

structure Stands2 (ops : Array Oper) (st : List (Nat × Nat)) (a0 : Act) (S : World → Prop) (V : Nat → Value → World → Prop) (listed : Array Bool) (a : Act) (w : World) : Prop where
  lsize : listed.size = ops.size
  size : a.tmps.size = a0.tmps.size
  defers : a.defers = a0.defers
  holds : S w
  closed : ∀ j i, listed.getD j false = true → waitsFor ops j i = true → listed.getD i false = true
  done : ∀ j d, listed.getD j false = true → slotOf ops st j = some d → V j (a.tmps.getD d undef) w
  rest : ∀ k, (∀ j, listed.getD j false = true → dstOf ops j ≠ some k) → a.tmps.getD k undef = a0.tmps.getD k undef

theorem all_listed {ops : Array Oper} (hord : inOrder ops = true) (listed : Array Bool) (hl : listed.size = ops.size) (hr : Region.ready .any ops listed = []) : ∀ j, j < ops.size → listed.getD j false = true := by
  intro j
  induction j using Nat.strongRecOn with
  | _ j ih =>
    intro hj
    rcases hb : listed.getD j false with _ | _
    · exfalso
      have ho : ops[j]? = some ops[j] := Array.getElem?_eq_getElem hj
      have hm : j ∈ Region.ready .any ops listed := by
        refine mem_ready.2 ⟨?_, ops[j], ho, fun e he hbd => ?_⟩
        · have : j < listed.size := by omega
          simpa [Array.getD, this] using hb
        · have h1 := List.all_eq_true.1 hord j (List.mem_range.2 hj)
          simp only [ho, Bool.and_eq_true] at h1
          have h2 := List.all_eq_true.1 h1.2 e (by simpa using he)
          have h3 : e.on < j := by simpa using h2
          exact ih e.on h3 (by omega)
      rw [hr] at hm
      cases hm
    · rfl

theorem wpAny_values2 {ops : Array Oper} {st : List (Nat × Nat)} {Q : Exit → Act → World → Prop} {a0 : Act} {S : World → Prop} {V : Nat → Value → World → Prop}
    (hord : inOrder ops = true) (hst : steady ops st = true) (hin : ∀ j d, slotOf ops st j = some d → j < ops.size)
    (hop : ∀ i o, ops[i]? = some o → ∀ a w, a.tmps.size = a0.tmps.size → a.defers = a0.defers → S w →
      (∀ j d, waitsFor ops i j = true → slotOf ops st j = some d → V j (a.tmps.getD d undef) w) →
      (∀ k, freeFor ops i k = true → a.tmps.getD k undef = a0.tmps.getD k undef) →
      o.wp P a w (Nxt2 ops st o i V S a w) Q)
    (hend : ∀ a w, a.tmps.size = a0.tmps.size → a.defers = a0.defers → S w → (∀ j d, slotOf ops st j = some d → V j (a.tmps.getD d undef) w) →
      (∀ k, (∀ j, dstOf ops j ≠ some k) → a.tmps.getD k undef = a0.tmps.getD k undef) → Q .normal a w) :
    ∀ (fuel : Nat) (listed : Array Bool) (a : Act) (w : World), listed.toList.count false ≤ fuel → Stands2 ops st a0 S V listed a w → wpAny P .any ops Q fuel listed a w := by
  have hQ : ∀ listed a w, Stands2 ops st a0 S V listed a w → Region.ready .any ops listed = [] → Q .normal a w := by
    intro listed a w h hr
    have hl := all_listed hord listed h.lsize hr
    exact hend a w h.size h.defers h.holds (fun j d hd => h.done j d (hl j (hin j d hd)) hd) (fun k hk => h.rest k fun j _ => hk j)
  intro fuel
  induction fuel with
  | zero =>
    intro listed a w hc h
    have hr : Region.ready .any ops listed = [] := by
      refine List.eq_nil_iff_forall_not_mem.2 fun j hj => ?_
      obtain ⟨h1, oj, hoj, _⟩ := mem_ready.1 hj
      have hjl : j < listed.size := by
        rw [h.lsize]
        exact (Array.getElem?_eq_some_iff.1 hoj).1
      have h2 : listed[j] = false := by simpa [Array.getD, hjl] using h1
      have h3 : false ∈ listed.toList := by rw [← h2]; simp
      have := List.count_pos_iff.2 h3
      omega
    exact ⟨hr, hQ listed a w h hr⟩
  | succ fuel ih =>
    intro listed a w hc h
    refine ⟨hQ listed a w h, fun i hi => ?_⟩
    obtain ⟨h1, o, ho, hdep⟩ := mem_ready.1 hi
    have hil : i < ops.size := (Array.getElem?_eq_some_iff.1 ho).1
    have hil' : i < listed.size := by rw [h.lsize]; exact hil
    have h1' : listed.getD i false = false := by simpa [Array.getD, hil'] using h1
    have hg := List.all_eq_true.1 hord i (List.mem_range.2 hil)
    simp only [ho, Bool.and_eq_true] at hg
    have hgn : o.guard = none := by simpa using hg.1
    unfold wpOp
    simp only [ho]
    have hw : Region.wanted o (yielded ops a.tmps) = true := by unfold Region.wanted; rw [hgn]
    rw [if_pos hw]
    refine .inl ?_
    have hdi : dstOf ops i = o.dst := by unfold dstOf; rw [ho]; rfl
    refine Oper.wp_mono ?_ (hop i o ho a w h.size h.defers h.holds ?_ ?_)
    · rintro a' w' ⟨v, rfl, hv, hS, hmono⟩
      refine ih _ _ _ ?_ ⟨by simpa using h.lsize, by rw [size_put]; exact h.size, by rw [defers_put]; exact h.defers, hS, ?_, ?_, ?_⟩
      · have h2 : listed[i] = false := by simpa [Array.getD, hil'] using h1
        have h3 : false ∈ listed.toList := by rw [← h2]; simp
        have h4 := List.count_pos_iff.2 h3
        have h5 : (listed.setIfInBounds i true).toList.count false = listed.toList.count false - 1 := by
          rw [Array.toList_setIfInBounds, List.count_set (by simpa using hil')]
          simp only [Array.getElem_toList, h2]
          rfl
        omega
      · intro j m hj hwt
        rw [getD_set _ _ _ hil'] at hj ⊢
        by_cases e : j = i
        · subst e
          simp only [waitsFor, ho, List.any_eq_true] at hwt
          obtain ⟨e, he, hbe⟩ := hwt
          simp only [Bool.and_eq_true, beq_iff_eq] at hbe
          rw [← hbe.2, hdep e (by simpa using he) hbe.1, Bool.or_true]
        · have : listed.getD j false = true := by simpa [e] using hj
          rw [h.closed j m this hwt, Bool.or_true]
      · intro j d hj hd
        rw [getD_set _ _ _ hil'] at hj
        by_cases e : j = i
        · subst e
          exact hv d hd
        · have hlj : listed.getD j false = true := by simpa [e] using hj
          have hne : o.dst ≠ some d := by
            intro he
            have h6 := List.all_eq_true.1 hst j (List.mem_range.2 (hin j d hd))
            simp only [Bool.and_eq_true, hd] at h6
            have h7 := List.all_eq_true.1 h6.2 i (List.mem_range.2 hil)
            rw [hdi, he] at h7
            have h8 : waitsFor ops j i = true := by
              have : ¬ i = j := fun e' => e e'.symm
              simpa [this] using h7
            rw [h.closed j i hlj h8] at h1'
            cases h1'
          rw [getD_put_ne a o.dst d v hne]
          exact hmono _ _ (h.done j d hlj hd)
      · intro k hk
        have hne : o.dst ≠ some k := by
          have := hk i (by rw [getD_set _ _ _ hil']; simp)
          rwa [hdi] at this
        rw [getD_put_ne a o.dst k v hne]
        exact h.rest k fun j hj => hk j (by rw [getD_set _ _ _ hil', hj, Bool.or_true])
    · intro j d hj hd
      simp only [waitsFor, ho, List.any_eq_true] at hj
      obtain ⟨e, he, hbe⟩ := hj
      simp only [Bool.and_eq_true, beq_iff_eq] at hbe
      exact h.done j d (by rw [← hbe.2]; exact hdep e (by simpa using he) hbe.1) hd
    · intro k hk
      refine h.rest k fun j hj hd => ?_
      have := List.all_eq_true.1 hk j (List.mem_range.2 (dstOf_lt hd))
      rw [hd] at this
      have hwt : waitsFor ops j i = true := by simpa using this
      rw [h.closed j i hj hwt] at h1'
      cases h1'

/-- Every number of which a slot is known is one of the region's. -/
def stIn (ops : Array Oper) (st : List (Nat × Nat)) : Bool := st.all fun p => decide (p.1 < ops.size)
theorem slotOf_lt {ops : Array Oper} {st : List (Nat × Nat)} (h : stIn ops st = true) (j d : Nat) (hj : slotOf ops st j = some d) : j < ops.size := by
  unfold slotOf at hj
  cases hl : st.lookup j with
  | none => rw [hl] at hj; exact dstOf_lt hj
  | some e =>
    obtain ⟨l1, l2, hs, _⟩ := List.lookup_eq_some_iff.1 hl
    have hm : (j, e) ∈ st := by rw [hs]; simp
    have := List.all_eq_true.1 h _ hm
    simpa using this

/-- THE RULE. -/
theorem wp_region_values2 {id : Nat} {ops : Array Oper} {Q : Exit → Act → World → Prop} {a0 : Act} {w0 : World} (hm : P.follows .mixedOrders = true) (st : List (Nat × Nat)) (S : World → Prop) (V : Nat → Value → World → Prop)
    (hord : inOrder ops = true) (hst : steady ops st = true) (hin : stIn ops st = true) (hS : S w0.drew)
    (hop : ∀ i o, ops[i]? = some o → ∀ a w, a.tmps.size = a0.tmps.size → a.defers = a0.defers → S w →
      (∀ j d, waitsFor ops i j = true → slotOf ops st j = some d → V j (a.tmps.getD d undef) w) →
      (∀ k, freeFor ops i k = true → a.tmps.getD k undef = a0.tmps.getD k undef) →
      o.wp P a w (Nxt2 ops st o i V S a w) Q)
    (hend : ∀ a w, a.tmps.size = a0.tmps.size → a.defers = a0.defers → S w → (∀ j d, slotOf ops st j = some d → V j (a.tmps.getD d undef) w) →
      (∀ k, (∀ j, dstOf ops j ≠ some k) → a.tmps.getD k undef = a0.tmps.getD k undef) → Q .normal a w) :
    (Code.region id ops true).wp P Q a0 w0 := by
  refine wp_region_any hm (wpAny_values2 (S := S) (V := V) hord hst (slotOf_lt hin) hop hend _ _ _ _ ?_ ⟨by simp, rfl, rfl, hS, ?_, ?_, ?_⟩)
  · simp
  · intro j i hj
    rw [none_listed] at hj
    cases hj
  · intro j d hj
    rw [none_listed] at hj
    cases hj
  · intro k _
    rfl
end

end Go.Proofs.Ytogiocinhjbdkaa
