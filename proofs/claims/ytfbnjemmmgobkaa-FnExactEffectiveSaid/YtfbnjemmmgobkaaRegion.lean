/- A region that draws its order, by what each of its operations yields: whatever order is drawn, an operation finds what it waits for, and the slots that nobody has written. -/
import Derived.Orders
import Derived.WalkKit
import Derived.Test.YtfbnjemmmgobkaaKit
namespace Go.Proofs.Ytfbnjemmmgobkaa
open Go.RowKit

section
variable {P : Program}
/-- The slot that number i writes. -/
def dstOf (ops : Array Oper) (i : Nat) : Option Nat := (ops[i]?).bind (·.dst)
/-- Does number j wait for number i? -/
def waitsFor (ops : Array Oper) (j i : Nat) : Bool := match ops[j]? with | some o => o.after.toList.any fun e => Region.binds .any e && e.on == i | none => false
/-- Nothing is guarded, and every number waits for smaller ones alone. -/
def inOrder (ops : Array Oper) : Bool := (List.range ops.size).all fun i => match ops[i]? with | some o => o.guard.isNone && o.after.toList.all fun e => decide (e.on < i) | none => true
/-- No slot is written twice, and all of them are there. -/
def onceOnly (ops : Array Oper) (n : Nat) : Bool := (List.range ops.size).all fun i => (match dstOf ops i with | some d => decide (d < n) | none => true) &&
  (List.range ops.size).all fun j => i == j || (match dstOf ops i with | some d => dstOf ops j != some d | none => true)
/-- Whoever writes slot k waits for number i. -/
def freeFor (ops : Array Oper) (i k : Nat) : Bool := (List.range ops.size).all fun j => dstOf ops j != some k || waitsFor ops j i

theorem dstOf_lt {ops : Array Oper} {i d : Nat} (h : dstOf ops i = some d) : i < ops.size := by
  unfold dstOf at h
  rcases Nat.lt_or_ge i ops.size with h' | h'
  · exact h'
  · rw [Array.getElem?_eq_none h'] at h; cases h

theorem getD_put_same (a : Act) (d : Nat) (v : Value) (h : d < a.tmps.size) : (a.put (some d) v).tmps.getD d undef = v := by
  simp [Act.put, Array.getD, h]
theorem getD_put_ne (a : Act) (x : Option Tmp) (k : Nat) (v : Value) (h : x ≠ some k) : (a.put x v).tmps.getD k undef = a.tmps.getD k undef := by
  cases x with
  | none => rfl
  | some d =>
    have hne : d ≠ k := fun e => h (by rw [e])
    simp only [Act.put, Array.getD_eq_getD_getElem?, Array.getElem?_setIfInBounds_ne hne]
theorem size_put (a : Act) (x : Option Tmp) (v : Value) : (a.put x v).tmps.size = a.tmps.size := by
  cases x <;> simp [Act.put]
theorem defers_put (a : Act) (x : Option Tmp) (v : Value) : (a.put x v).defers = a.defers := by
  cases x <;> rfl

/-- What stands behind one operation. -/
def Nxt (o : Oper) (i : Nat) (V : Nat → Value → World → Prop) (S : World → Prop) (a : Act) (w : World) (a' : Act) (w' : World) : Prop :=
  ∃ v, a' = a.put o.dst v ∧ (∀ d, o.dst = some d → V i v w') ∧ S w' ∧ ∀ j u, V j u w → V j u w'
theorem Nxt.mk {o : Oper} {i : Nat} {V : Nat → Value → World → Prop} {S : World → Prop} {a a' : Act} {w w' : World} (v : Value) (h : a' = a.put o.dst v) (hv : ∀ d, o.dst = some d → V i v w') (hS : S w') (hm : ∀ j u, V j u w → V j u w') : Nxt o i V S a w a' w' :=
  ⟨v, h, hv, hS, hm⟩
/-- What stands when the numbers of 'listed' have come up. -/
structure Stands (ops : Array Oper) (a0 : Act) (S : World → Prop) (V : Nat → Value → World → Prop) (listed : Array Bool) (a : Act) (w : World) : Prop where
  lsize : listed.size = ops.size
  size : a.tmps.size = a0.tmps.size
  defers : a.defers = a0.defers
  holds : S w
  closed : ∀ j i, listed.getD j false = true → waitsFor ops j i = true → listed.getD i false = true
  done : ∀ j d, listed.getD j false = true → dstOf ops j = some d → V j (a.tmps.getD d undef) w
  rest : ∀ k, (∀ j, listed.getD j false = true → dstOf ops j ≠ some k) → a.tmps.getD k undef = a0.tmps.getD k undef

theorem getD_false_lt {l : Array Bool} {j : Nat} (h : l.getD j false = true) : j < l.size := by
  rcases Nat.lt_or_ge j l.size with h' | h'
  · exact h'
  · simp [Array.getD, Nat.not_lt.2 h'] at h
theorem getD_set (l : Array Bool) (i j : Nat) (h : i < l.size) : (l.setIfInBounds i true).getD j false = (j == i || l.getD j false) := by
  by_cases e : j = i
  · subst e; simp [Array.getD, h]
  · simp only [Array.getD_eq_getD_getElem?, Array.getElem?_setIfInBounds_ne (Ne.symm e)]
    simp [e]

theorem wpAny_values {ops : Array Oper} {Q : Exit → Act → World → Prop} {a0 : Act} {S : World → Prop} {V : Nat → Value → World → Prop}
    (hord : inOrder ops = true) (honce : onceOnly ops a0.tmps.size = true)
    (hop : ∀ i o, ops[i]? = some o → ∀ a w, a.defers = a0.defers → S w →
      (∀ j d, waitsFor ops i j = true → dstOf ops j = some d → V j (a.tmps.getD d undef) w) →
      (∀ k, freeFor ops i k = true → a.tmps.getD k undef = a0.tmps.getD k undef) →
      o.wp P a w (Nxt o i V S a w) Q)
    (hend : ∀ a w, a.tmps.size = a0.tmps.size → a.defers = a0.defers → S w → (∀ j d, dstOf ops j = some d → V j (a.tmps.getD d undef) w) →
      (∀ k, (∀ j, dstOf ops j ≠ some k) → a.tmps.getD k undef = a0.tmps.getD k undef) → Q .normal a w) :
    ∀ (fuel : Nat) (listed : Array Bool) (a : Act) (w : World), listed.toList.count false ≤ fuel → Stands ops a0 S V listed a w → wpAny P .any ops Q fuel listed a w := by
  have hall : ∀ listed : Array Bool, listed.size = ops.size → Region.ready .any ops listed = [] → ∀ j, j < ops.size → listed.getD j false = true := by
    intro listed hl hr j
    induction j using Nat.strongRecOn with
    | _ j ih =>
      intro hj
      rcases hb : listed.getD j false with _ | _
      · exfalso
        have ho : ops[j]? = some ops[j] := Array.getElem?_eq_getElem hj
        have hm : j ∈ Region.ready .any ops listed := by
          refine mem_ready.2 ⟨?_, ops[j], ho, fun e he hbd => ?_⟩
          · have : j < listed.size := by omega
            simpa [Array.getD, this] using hb
          · have h1 := List.all_eq_true.1 hord j (List.mem_range.2 hj)
            simp only [ho, Bool.and_eq_true] at h1
            have h2 := List.all_eq_true.1 h1.2 e (by simpa using he)
            exact ih e.on (by simpa using h2) (by have : e.on < j := by simpa using h2
                                                  omega)
        rw [hr] at hm
        cases hm
      · rfl
  have hQ : ∀ listed a w, Stands ops a0 S V listed a w → Region.ready .any ops listed = [] → Q .normal a w := by
    intro listed a w h hr
    have hl := hall listed h.lsize hr
    exact hend a w h.size h.defers h.holds (fun j d hd => h.done j d (hl j (dstOf_lt hd)) hd) (fun k hk => h.rest k fun j _ => hk j)
  intro fuel
  induction fuel with
  | zero =>
    intro listed a w hc h
    have hr : Region.ready .any ops listed = [] := by
      refine List.eq_nil_iff_forall_not_mem.2 fun j hj => ?_
      obtain ⟨h1, oj, hoj, _⟩ := mem_ready.1 hj
      have hjl : j < listed.size := by
        rw [h.lsize]
        exact (Array.getElem?_eq_some_iff.1 hoj).1
      have h2 : listed[j] = false := by simpa [Array.getD, hjl] using h1
      have h3 : false ∈ listed.toList := by rw [← h2]; simp
      have := List.count_pos_iff.2 h3
      omega
    exact ⟨hr, hQ listed a w h hr⟩
  | succ fuel ih =>
    intro listed a w hc h
    refine ⟨hQ listed a w h, fun i hi => ?_⟩
    obtain ⟨h1, o, ho, hdep⟩ := mem_ready.1 hi
    have hil : i < ops.size := (Array.getElem?_eq_some_iff.1 ho).1
    have hil' : i < listed.size := by rw [h.lsize]; exact hil
    have h1' : listed.getD i false = false := by simpa [Array.getD, hil'] using h1
    have hg := List.all_eq_true.1 hord i (List.mem_range.2 hil)
    simp only [ho, Bool.and_eq_true] at hg
    have hgn : o.guard = none := by simpa using hg.1
    unfold wpOp
    simp only [ho]
    have hw : Region.wanted o (yielded ops a.tmps) = true := by unfold Region.wanted; rw [hgn]
    rw [if_pos hw]
    refine .inl ?_
    have hon := List.all_eq_true.1 honce i (List.mem_range.2 hil)
    simp only [Bool.and_eq_true] at hon
    have hdi : dstOf ops i = o.dst := by unfold dstOf; rw [ho]; rfl
    refine Oper.wp_mono ?_ (hop i o ho a w h.defers h.holds ?_ ?_)
    · rintro a' w' ⟨v, rfl, hv, hS, hmono⟩
      refine ih _ _ _ ?_ ⟨by simpa using h.lsize, by rw [size_put]; exact h.size, by rw [defers_put]; exact h.defers, hS, ?_, ?_, ?_⟩
      · have h2 : listed[i] = false := by simpa [Array.getD, hil'] using h1
        have h3 : false ∈ listed.toList := by rw [← h2]; simp
        have h4 := List.count_pos_iff.2 h3
        have h5 : (listed.setIfInBounds i true).toList.count false = listed.toList.count false - 1 := by
          rw [Array.toList_setIfInBounds, List.count_set (by simpa using hil')]
          simp only [Array.getElem_toList, h2]
          rfl
        omega
      · intro j m hj hwt
        rw [getD_set _ _ _ hil'] at hj ⊢
        by_cases e : j = i
        · subst e
          simp only [waitsFor, ho, List.any_eq_true] at hwt
          obtain ⟨e, he, hbe⟩ := hwt
          simp only [Bool.and_eq_true, beq_iff_eq] at hbe
          rw [← hbe.2, hdep e (by simpa using he) hbe.1, Bool.or_true]
        · have : listed.getD j false = true := by simpa [e] using hj
          rw [h.closed j m this hwt, Bool.or_true]
      · intro j d hj hd
        rw [getD_set _ _ _ hil'] at hj
        by_cases e : j = i
        · subst e
          rw [hdi] at hd
          rw [hd] at hv ⊢
          have hsz : d < a0.tmps.size := by
            have := hon.1
            rw [hdi, hd] at this
            simpa using this
          rw [getD_put_same a d v (by rw [h.size]; exact hsz)]
          exact hv d rfl
        · have hlj : listed.getD j false = true := by simpa [e] using hj
          have hne : o.dst ≠ some d := by
            intro he
            have := List.all_eq_true.1 hon.2 j (List.mem_range.2 (dstOf_lt hd))
            rw [hdi, he] at this
            simp [hd] at this
            exact e this.symm
          rw [getD_put_ne a o.dst d v hne]
          exact hmono _ _ (h.done j d hlj hd)
      · intro k hk
        have hne : o.dst ≠ some k := by
          have := hk i (by rw [getD_set _ _ _ hil']; simp)
          rwa [hdi] at this
        rw [getD_put_ne a o.dst k v hne]
        exact h.rest k fun j hj => hk j (by rw [getD_set _ _ _ hil', hj, Bool.or_true])
    · intro j d hj hd
      simp only [waitsFor, ho, List.any_eq_true] at hj
      obtain ⟨e, he, hbe⟩ := hj
      simp only [Bool.and_eq_true, beq_iff_eq] at hbe
      exact h.done j d (by rw [← hbe.2]; exact hdep e (by simpa using he) hbe.1) hd
    · intro k hk
      refine h.rest k fun j hj hd => ?_
      have := List.all_eq_true.1 hk j (List.mem_range.2 (dstOf_lt hd))
      rw [hd] at this
      have hwt : waitsFor ops j i = true := by simpa using this
      rw [h.closed j i hj hwt] at h1'
      cases h1'

theorem none_listed (n j : Nat) : (Array.replicate n false).getD j false = false := by
  rw [Array.getD_eq_getD_getElem?, Array.getElem?_replicate]
  split <;> rfl
/-- THE RULE. -/
theorem wp_region_values {id : Nat} {ops : Array Oper} {Q : Exit → Act → World → Prop} {a0 : Act} {w0 : World} (hm : P.follows .mixedOrders = true) (S : World → Prop) (V : Nat → Value → World → Prop) (n : Nat) (hn : a0.tmps.size = n)
    (hord : inOrder ops = true) (honce : onceOnly ops n = true) (hS : S w0.drew)
    (hop : ∀ i o, ops[i]? = some o → ∀ a w, a.defers = a0.defers → S w →
      (∀ j d, waitsFor ops i j = true → dstOf ops j = some d → V j (a.tmps.getD d undef) w) →
      (∀ k, freeFor ops i k = true → a.tmps.getD k undef = a0.tmps.getD k undef) →
      o.wp P a w (Nxt o i V S a w) Q)
    (hend : ∀ a w, a.tmps.size = a0.tmps.size → a.defers = a0.defers → S w → (∀ j d, dstOf ops j = some d → V j (a.tmps.getD d undef) w) →
      (∀ k, (∀ j, dstOf ops j ≠ some k) → a.tmps.getD k undef = a0.tmps.getD k undef) → Q .normal a w) :
    (Code.region id ops true).wp P Q a0 w0 := by
  refine wp_region_any hm (wpAny_values (S := S) (V := V) hord (by rw [hn]; exact honce) hop hend _ _ _ _ ?_ ⟨by simp, rfl, rfl, hS, ?_, ?_, ?_⟩)
  · simp
  · intro j i hj
    rw [none_listed] at hj
    cases hj
  · intro j d hj
    rw [none_listed] at hj
    cases hj
  · intro k _
    rfl

/-- The same said of each operation in its turn. -/
def eachOp (p : Nat → Oper → Prop) : Nat → List Oper → Prop
  | _, [] => True
  | n, o :: r => p n o ∧ eachOp p (n + 1) r
theorem eachOp_at {p : Nat → Oper → Prop} : ∀ (l : List Oper) (n : Nat), eachOp p n l → ∀ i o, l[i]? = some o → p (n + i) o
  | [], _, _, i, o, h => by simp at h
  | x :: l, n, h, 0, o, hi => by
    obtain rfl : x = o := by simpa using hi
    exact h.1
  | x :: l, n, h, i + 1, o, hi => by
    have := eachOp_at l (n + 1) h.2 i o (by simpa using hi)
    rwa [show n + 1 + i = n + (i + 1) from by omega] at this
theorem eachOp_all {p : Nat → Oper → Prop} {ops : Array Oper} (h : eachOp p 0 ops.toList) (i : Nat) (o : Oper) (hi : ops[i]? = some o) : p i o := by
  have := eachOp_at ops.toList 0 h i o (by simpa using hi)
  rwa [Nat.zero_add] at this
/-- Slots written one after the other. -/
def putAll (b : Act) : List (Option Tmp × Value) → Act
  | [] => b
  | p :: l => putAll (b.put p.1 p.2) l
theorem putAll_eq (a : Act) : ∀ (l : List (Option Tmp × Value)) (b : Act), a.tmps.size = b.tmps.size → a.defers = b.defers →
    (∀ k, (∀ p ∈ l, p.1 ≠ some k) → a.tmps.getD k undef = b.tmps.getD k undef) → (∀ p ∈ l, ∀ d, p.1 = some d → a.tmps.getD d undef = p.2) → a = putAll b l
  | [], b, h1, h2, h3, _ => by
    obtain ⟨t, d⟩ := a
    obtain ⟨t', d'⟩ := b
    simp only [putAll]
    dsimp only at h1 h2 h3
    subst h2
    congr 1
    refine Array.ext h1 fun i hi hi' => ?_
    have := h3 i (by simp)
    simpa [Array.getD, hi, hi'] using this
  | p :: l, b, h1, h2, h3, h4 => by
    refine putAll_eq a l (b.put p.1 p.2) (by rw [size_put]; exact h1) (by rw [defers_put]; exact h2) (fun k hk => ?_) (fun q hq => h4 q (by simp [hq]))
    by_cases e : p.1 = some k
    · have h5 := h4 p (by simp) k e
      rw [h5, e]
      rcases Nat.lt_or_ge k b.tmps.size with hl | hl
      · rw [getD_put_same b k p.2 hl]
      · rw [← h5]
        have e1 : a.tmps.getD k undef = undef := by simp [Array.getD, Nat.not_lt.2 (h1 ▸ hl)]
        rw [e1]
        simp [Act.put, Array.getD, Nat.not_lt.2 hl]
    · rw [getD_put_ne b p.1 k p.2 e]
      refine h3 k fun q hq => ?_
      rcases List.mem_cons.1 hq with rfl | hq
      · exact e
      · exact hk q hq
/-- The slots that a region has written, by its operations and what they yielded. -/
def written (ops : Array Oper) (vals : List Value) : List (Option Tmp × Value) := (ops.toList.map (·.dst)).zip vals
theorem written_all {ops : Array Oper} {a a0 : Act} (vals : List Value) (hl : vals.length = ops.size) (h1 : a.tmps.size = a0.tmps.size) (h2 : a.defers = a0.defers)
    (h3 : ∀ k, (∀ j, dstOf ops j ≠ some k) → a.tmps.getD k undef = a0.tmps.getD k undef) (h4 : ∀ j d, dstOf ops j = some d → a.tmps.getD d undef = vals.getD j undef) : a = putAll a0 (written ops vals) := by
  refine putAll_eq a _ a0 h1 h2 (fun k hk => h3 k fun j hj => ?_) fun p hp d hd => ?_
  · have hjl := dstOf_lt hj
    have hm : (some k, vals.getD j undef) ∈ written ops vals := by
      unfold written
      refine List.mem_iff_getElem?.2 ⟨j, ?_⟩
      unfold dstOf at hj
      rw [Array.getElem?_eq_getElem hjl] at hj
      rw [List.getElem?_zip_eq_some]
      refine ⟨?_, ?_⟩
      · rw [List.getElem?_map, Array.getElem?_toList, Array.getElem?_eq_getElem hjl]
        simpa using hj
      · rw [List.getD_eq_getElem?_getD, List.getElem?_eq_getElem (by omega)]
        rfl
    exact hk _ hm rfl
  · unfold written at hp
    obtain ⟨j, hj⟩ := List.mem_iff_getElem?.1 hp
    obtain ⟨x, y⟩ := p
    rw [List.getElem?_zip_eq_some] at hj
    obtain ⟨hj1, hj2⟩ := hj
    dsimp only at hd ⊢
    subst hd
    have hjd : dstOf ops j = some d := by
      rw [List.getElem?_map, Array.getElem?_toList] at hj1
      unfold dstOf
      cases ho : ops[j]? with
      | none => rw [ho] at hj1; cases hj1
      | some o => rw [ho] at hj1; simpa using hj1
    rw [h4 j d hjd, List.getD_eq_getElem?_getD, hj2]
    rfl

/-- A slice over a block of its own, which holds these cells. -/
def SliceAt (W : World) (v : Value) (cells : Array Value) (t : TypeId) (n : Nat) : Prop := ∃ g, v = .slice (some ⟨g, 0, none⟩) n n ∧ W.heap[g]? = some (.cells cells t (0, 0)) ∧ g < W.heap.size
/-- What the numbers yield: a value, or a slice over a block that one of them has made. -/
def Vals (vals : List Value) (sl : List (Nat × Array Value × TypeId × Nat)) (i : Nat) (v : Value) (W : World) : Prop :=
  match sl.lookup i with
  | some (cells, t, n) => SliceAt W v cells t n
  | none => v = vals.getD i undef
theorem Vals.below {vals : List Value} {sl : List (Nat × Array Value × TypeId × Nat)} {W W' : World} (hb : Below W.heap.size W W') (i : Nat) (v : Value) (h : Vals vals sl i v W) : Vals vals sl i v W' := by
  unfold Vals at h ⊢
  split
  · rename_i cells t n e
    rw [e] at h
    obtain ⟨g, h1, h2, h3⟩ := h
    exact ⟨g, h1, (hb.block g h3).trans h2, Nat.lt_of_lt_of_le h3 hb.size⟩
  · rename_i e
    rw [e] at h
    exact h
end

end Go.Proofs.Ytfbnjemmmgobkaa
