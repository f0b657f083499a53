/- The abstract machine, 13: regions that draw their order. -/
import Derived.Test.YtioejbgdhmiiiaaAM12
namespace Go.Proofs.Ytioejbgdhmiiiaa
open Go.RowKit
set_option linter.unusedVariables false
set_option linter.unusedSimpArgs false
namespace AM
section
variable {P : Program}
/-- Every number waits for smaller ones alone, as far as the drawn order heeds it. -/
def inOrderA (ops : Array Oper) : Bool := (List.range ops.size).all fun i => match ops[i]? with | some o => o.after.toList.all fun e => !Region.binds .any e || decide (e.on < i) | none => true
/-- A region whose order is drawn, by one statement of what stands when the numbers of 'listed' have come up. -/
theorem wpAny_joint {ops : Array Oper} {Q : Exit → Act → World → Prop} {J : Array Bool → Act → World → Prop} (hord : inOrderA ops = true)
    (hop : ∀ (listed : Array Bool) (i : Nat) (o : Oper) (a : Act) (w : World), listed.size = ops.size → (∀ j i, listed.getD j false = true → waitsFor ops j i = true → listed.getD i false = true) → J listed a w → ops[i]? = some o → listed.getD i false = false →
      (∀ j, waitsFor ops i j = true → listed.getD j false = true) → wpOp P ops Q i (J (listed.setIfInBounds i true)) a w)
    (hend : ∀ (listed : Array Bool) (a : Act) (w : World), listed.size = ops.size → (∀ j, j < ops.size → listed.getD j false = true) → J listed a w → Q .normal a w) :
    ∀ (fuel : Nat) (listed : Array Bool) (a : Act) (w : World), listed.toList.count false ≤ fuel → listed.size = ops.size → (∀ j i, listed.getD j false = true → waitsFor ops j i = true → listed.getD i false = true) → J listed a w → wpAny P .any ops Q fuel listed a w := by
  have hall : ∀ listed : Array Bool, listed.size = ops.size → Region.ready .any ops listed = [] → ∀ j, j < ops.size → listed.getD j false = true := by
    intro listed hl hr j
    induction j using Nat.strongRecOn with
    | _ j ih =>
      intro hj
      rcases hb : listed.getD j false with _ | _
      · exfalso
        have ho : ops[j]? = some ops[j] := Array.getElem?_eq_getElem hj
        have hm : j ∈ Region.ready .any ops listed := by
          refine mem_ready.2 ⟨?_, ops[j], ho, fun e he hbd => ?_⟩
          · have : j < listed.size := by omega
            simpa [Array.getD, this] using hb
          · have h1 := List.all_eq_true.1 hord j (List.mem_range.2 hj)
            simp only [ho] at h1
            have h2 := List.all_eq_true.1 h1 e (by simpa using he)
            have h3 : e.on < j := by rw [hbd] at h2; simpa using h2
            exact ih e.on h3 (by omega)
        rw [hr] at hm
        cases hm
      · rfl
  intro fuel
  induction fuel with
  | zero =>
    intro listed a w hc hs hcl hJ
    have hr : Region.ready .any ops listed = [] := by
      refine List.eq_nil_iff_forall_not_mem.2 fun j hj => ?_
      obtain ⟨h1, oj, hoj, _⟩ := mem_ready.1 hj
      have hjl : j < listed.size := by
        rw [hs]
        exact (Array.getElem?_eq_some_iff.1 hoj).1
      have h2 : listed[j] = false := by simpa [Array.getD, hjl] using h1
      have h3 : false ∈ listed.toList := by rw [← h2]; simp
      have := List.count_pos_iff.2 h3
      omega
    exact ⟨hr, hend listed a w hs (hall listed hs hr) hJ⟩
  | succ fuel ih =>
    intro listed a w hc hs hcl hJ
    refine ⟨fun hr => hend listed a w hs (hall listed hs hr) hJ, fun i hi => ?_⟩
    obtain ⟨h1, o, ho, hdep⟩ := mem_ready.1 hi
    have hil : i < ops.size := (Array.getElem?_eq_some_iff.1 ho).1
    have hil' : i < listed.size := by rw [hs]; exact hil
    have h1' : listed.getD i false = false := by simpa [Array.getD, hil'] using h1
    have hdeps : ∀ j, waitsFor ops i j = true → listed.getD j false = true := fun j hj => by
      simp only [waitsFor, ho, List.any_eq_true] at hj
      obtain ⟨e, he, hbe⟩ := hj
      simp only [Bool.and_eq_true, beq_iff_eq] at hbe
      rw [← hbe.2]; exact hdep e (by simpa using he) hbe.1
    refine wpOp_mono (fun a' w' hJ' => ih _ a' w' ?_ (by simpa using hs) (fun j m hj hwt => ?_) hJ') (hop listed i o a w hs hcl hJ ho h1' hdeps)
    · have h2 : listed[i] = false := by simpa [Array.getD, hil'] using h1
      have h3 : false ∈ listed.toList := by rw [← h2]; simp
      have h4 := List.count_pos_iff.2 h3
      have h5 : (listed.setIfInBounds i true).toList.count false = listed.toList.count false - 1 := by
        rw [Array.toList_setIfInBounds, List.count_set (by simpa using hil')]
        simp only [Array.getElem_toList, h2]
        rfl
      omega
    · rw [getD_set _ _ _ hil'] at hj ⊢
      by_cases e : j = i
      · subst e
        rw [hdeps m hwt, Bool.or_true]
      · have : listed.getD j false = true := by simpa [e] using hj
        rw [hcl j m this hwt, Bool.or_true]
/-! ### What an operation yields is one -/
theorem pk_choice {α : Type} : ∀ (s : Sem α) (K : α → Prop), pk P s K → ∃ v, K v ∧ pk P s (· = v)
  | .pure a, K, h => ⟨a, h, rfl⟩
  | .program k, K, h => pk_choice (k P) K h
  | .mark _ k, K, h => pk_choice k K h
abbrev Is (x : AV) (bs : Option Blk) (y : AV) (c : Option Blk) : Prop := y = x ∧ c = bs
theorem litF_choice {t : Slots} {o : Oper} {K : AV → Option Blk → Prop} (h : litF P t o K) : ∃ x bs, K x bs ∧ litF P t o (Is x bs) := by
  obtain ⟨h1, h2, h3⟩ := h
  obtain ⟨nx, h4, h5⟩ := pk_choice _ _ h3
  cases nx with
  | value v =>
    obtain ⟨x, h6, h7⟩ := h4
    refine ⟨x, none, h7, h1, h2, ?_⟩
    have mono : ∀ {α : Type} (s : Sem α) (K K' : α → Prop), (∀ v, K v → K' v) → pk P s K → pk P s K' := fun s K K' hk => by
      intro hp
      induction s with
      | pure a => exact hk a hp
      | program k ih => exact ih P hp
      | mark m k ih => exact ih hp
      | _ => exact hp.elim
    exact mono _ _ _ (fun nx e => by subst e; exact ⟨x, h6, rfl, rfl⟩) h5
  | _ => exact h4.elim
theorem opF_choice {t : Slots} {h : Heap} {n : Nat} {o : Oper} {K : AV → Option Blk → Prop} (hF : opF P t h n o K) : ∃ x bs, K x bs ∧ opF P t h n o (Is x bs) := by
  unfold opF at hF
  split at hF
  · rename_i x ho
    obtain ⟨v, h1, h2⟩ := hF
    exact ⟨_, _, h2, by unfold opF; rw [ho]; exact ⟨v, h1, rfl, rfl⟩⟩
  · rename_i x ho
    obtain ⟨v, h1, h2⟩ := hF
    exact ⟨_, _, h2, by unfold opF; rw [ho]; exact ⟨v, h1, rfl, rfl⟩⟩
  · rename_i c x y ho
    obtain ⟨b, h1, u, h2, v, h3, h4⟩ := hF
    exact ⟨_, _, h4, by unfold opF; rw [ho]; exact ⟨b, h1, u, h2, v, h3, rfl, rfl⟩⟩
  · rename_i T ho
    obtain ⟨z, h1, h2⟩ := hF
    exact ⟨_, _, h2, by unfold opF; rw [ho]; exact ⟨z, h1, rfl, rfl⟩⟩
  · rename_i T x ho
    obtain ⟨v, h1, cs, h2, h3⟩ := hF
    exact ⟨_, _, h3, by unfold opF; rw [ho]; exact ⟨v, h1, cs, h2, rfl, rfl⟩⟩
  · rename_i T parts ho
    obtain ⟨l, h1, z, h2, ps, h3, out, h4, h5⟩ := hF
    exact ⟨_, _, h5, by unfold opF; rw [ho]; exact ⟨l, h1, z, h2, ps, h3, out, h4, rfl, rfl⟩⟩
  · rename_i T len parts ho
    split at hF
    · rename_i hlen
      obtain ⟨h1, em, h2, h3⟩ := hF
      exact ⟨_, _, h3, by unfold opF; rw [ho]; dsimp only; rw [if_pos hlen]; exact ⟨h1, em, h2, rfl, rfl⟩⟩
    · rename_i hlen
      obtain ⟨em, h1, z, h2, h3, h4, h5, ps, h6, out, h7, h8⟩ := hF
      exact ⟨_, _, h8, by unfold opF; rw [ho]; dsimp only; rw [if_neg hlen]; exact ⟨em, h1, z, h2, h3, h4, h5, ps, h6, out, h7, rfl, rfl⟩⟩
  · rename_i T x ho
    obtain ⟨v, h1, y, h2, h3⟩ := hF
    exact ⟨_, _, h3, by unfold opF; rw [ho]; exact ⟨v, h1, y, h2, rfl, rfl⟩⟩
  · rename_i T x f ho
    obtain ⟨v, h1, cs, h2, l, h3, s, h4, y, h5, h6⟩ := hF
    exact ⟨_, _, h6, by unfold opF; rw [ho]; exact ⟨v, h1, cs, h2, l, h3, s, h4, y, h5, rfl, rfl⟩⟩
  · rename_i T x f ho
    obtain ⟨v, h1, l, h2, s, h3, h4, y, h5, h6⟩ := hF
    exact ⟨_, _, h6, by unfold opF; rw [ho]; exact ⟨v, h1, l, h2, s, h3, h4, y, h5, rfl, rfl⟩⟩
  · rename_i x i ho
    obtain ⟨v, h1, xs, h2, y, h3, h4⟩ := hF
    exact ⟨_, _, h4, by unfold opF; rw [ho]; exact ⟨v, h1, xs, h2, y, h3, rfl, rfl⟩⟩
  · rename_i T x ix ho
    obtain ⟨v, h1, i, h2, em, h3, h4⟩ := hF
    have : ∃ x bs, K x bs ∧ idxF v i em (Is x bs) := by
      unfold idxF at h4
      split at h4
      · obtain ⟨h5, h6, row, h7, h8⟩ := h4; exact ⟨_, _, h8, h5, h6, row, h7, rfl, rfl⟩
      · obtain ⟨h5, h6, h7, h8⟩ := h4; exact ⟨_, _, h8, h5, h6, h7, rfl, rfl⟩
      · exact h4.elim
    obtain ⟨x', bs, k, h5⟩ := this
    exact ⟨x', bs, k, by unfold opF; rw [ho]; exact ⟨v, h1, i, h2, em, h3, h5⟩⟩
  · rename_i T x lo hi mx ho
    obtain ⟨v, h1, h2⟩ := hF
    split at h2
    · rename_i hs
      obtain ⟨x', bs, k, h5⟩ := litF_choice h2
      exact ⟨x', bs, k, by unfold opF; rw [ho]; exact ⟨v, h1, by dsimp only; rw [if_pos hs]; exact h5⟩⟩
    · rename_i hs
      obtain ⟨h3, em, h4, h5⟩ := h2
      have : ∃ x bs, K x bs ∧ slcF v t lo hi em (Is x bs) := by
        unfold slcF at h5
        split at h5
        · obtain ⟨h6, l, h7, hh, h8, h9, h10, h11, h12⟩ := h5; exact ⟨_, _, h12, h6, l, h7, hh, h8, h9, h10, h11, rfl, rfl⟩
        · obtain ⟨h6, l, h7, hh, h8, h9, h10, h11, h12⟩ := h5; exact ⟨_, _, h12, h6, l, h7, hh, h8, h9, h10, h11, rfl, rfl⟩
        · exact h5.elim
      obtain ⟨x', bs, k, h6⟩ := this
      exact ⟨x', bs, k, by unfold opF; rw [ho]; exact ⟨v, h1, by dsimp only; rw [if_neg hs]; exact ⟨h3, em, h4, h6⟩⟩⟩
  · rename_i T l c ho
    obtain ⟨l', h1, c', h2, em, h3, z, h4, by_, h5, h6, h7, h8, h9, h10, h11, h12⟩ := hF
    exact ⟨_, _, h12, by unfold opF; rw [ho]; exact ⟨l', h1, c', h2, em, h3, z, h4, by_, h5, h6, h7, h8, h9, h10, h11, rfl, rfl⟩⟩
  · rename_i S D x ho
    obtain ⟨v, h1, h2⟩ := hF
    split at h2
    · rename_i hs
      obtain ⟨x', bs, k, h5⟩ := litF_choice h2
      exact ⟨x', bs, k, by unfold opF; rw [ho]; exact ⟨v, h1, by dsimp only; rw [if_pos hs]; exact h5⟩⟩
    · rename_i hs
      have : ∃ x bs, K x bs ∧ convF P h n S D v (Is x bs) := by
        unfold convF at h2
        split at h2
        · obtain ⟨e, h3, h4, h5, h6, h7⟩ := h2; exact ⟨_, _, h7, e, h3, h4, h5, h6, rfl, rfl⟩
        · obtain ⟨e, l, h3, h4, h5, h6, h7, h8⟩ := h2; exact ⟨_, _, h8, e, l, h3, h4, h5, h6, h7, rfl, rfl⟩
        · obtain ⟨e, l, h3, h4, h5, h6, h7, h8⟩ := h2; exact ⟨_, _, h8, e, l, h3, h4, h5, h6, h7, rfl, rfl⟩
        · exact h2.elim
      obtain ⟨x', bs, k, h6⟩ := this
      exact ⟨x', bs, k, by unfold opF; rw [ho]; exact ⟨v, h1, by dsimp only; rw [if_neg hs]; exact h6⟩⟩
  · rename_i op_ T x y ty_ ho
    obtain ⟨u, h1, h2⟩ := hF
    split at h2
    · rename_i hs
      obtain ⟨h3, h4, r, h5, h6⟩ := h2
      exact ⟨_, _, h6, by unfold opF; rw [ho]; exact ⟨u, h1, by dsimp only; rw [if_pos hs]; exact ⟨h3, h4, r, h5, rfl, rfl⟩⟩⟩
    · rename_i hs
      obtain ⟨x', bs, k, h5⟩ := litF_choice h2
      exact ⟨x', bs, k, by unfold opF; rw [ho]; exact ⟨u, h1, by dsimp only; rw [if_neg hs]; exact h5⟩⟩
  · rename_i b args argTypes ho
    split at hF
    · rename_i x T ha ht
      obtain ⟨v, h1, h2⟩ := hF
      split at h2
      · rename_i hs
        obtain ⟨x', bs, k, h5⟩ := litF_choice h2
        exact ⟨x', bs, k, by unfold opF; rw [ho]; dsimp only; rw [ha, ht]; exact ⟨v, h1, by dsimp only; rw [if_pos hs]; exact h5⟩⟩
      · rename_i hs
        have : ∃ x bs, K x bs ∧ lenF P T v (Is x bs) := by
          unfold lenF at h2
          split at h2
          · obtain ⟨em, h3, h4⟩ := h2; exact ⟨_, _, h4, em, h3, rfl, rfl⟩
          · obtain ⟨em, h3, h4⟩ := h2; exact ⟨_, _, h4, em, h3, rfl, rfl⟩
          · obtain ⟨em, h3, h4⟩ := h2; exact ⟨_, _, h4, em, h3, rfl, rfl⟩
          · exact h2.elim
        obtain ⟨x', bs, k, h6⟩ := this
        exact ⟨x', bs, k, by unfold opF; rw [ho]; dsimp only; rw [ha, ht]; exact ⟨v, h1, by dsimp only; rw [if_neg hs]; exact h6⟩⟩
    · rename_i hne
      obtain ⟨x', bs, k, h5⟩ := litF_choice hF
      refine ⟨x', bs, k, ?_⟩
      unfold opF; rw [ho]; dsimp only
      split
      · rename_i x T ha ht; exact absurd ht (fun e => hne x T rfl ha e)
      · exact h5
  · rename_i f args argTypes ho
    obtain ⟨xs, h1, r, h2, h3⟩ := hF
    exact ⟨_, _, h3, by unfold opF; rw [ho]; exact ⟨xs, h1, r, h2, rfl, rfl⟩⟩
  · obtain ⟨x', bs, k, h5⟩ := litF_choice hF
    refine ⟨x', bs, k, ?_⟩
    unfold opF
    split
    case h_13 hq => exact (‹∀ (T : TypeId) (x : Operand) (lo hi mx : Option Operand), o.op = Op.slice T x lo hi mx → False› _ _ _ _ _ hq).elim
    case h_16 hq => exact (‹∀ (op : BinOp) (xType : TypeId) (x y : Operand) (yType : TypeId), o.op = Op.binOp op xType x y yType → False› _ _ _ _ _ hq).elim
    all_goals first | exact h5 | (exfalso; simp_all; done)
/-! ### The chain of the first k operations -/
/-- What the first operations yield, one after another; each has a number for a block. -/
inductive Chain (P : Program) (ops : Array Oper) (N : Nat) : List Oper → Slots → Heap → List AV → List (Option Blk) → Slots → Heap → Prop
  | nil (t : Slots) (h : Heap) : Chain P ops N [] t h [] [] t h
  | plain (o : Oper) (r : List Oper) (t : Slots) (h : Heap) (x : AV) (bs : Option Blk) (V : List AV) (B : List (Option Blk)) (t' : Slots) (h' : Heap) (hd : ∀ d, o.dst = some d → d < N) (hg : o.guard = none)
      (hF : opF P t h h.length o (Is x bs)) (hr : Chain P ops N r (putS o.dst x t) (h ++ [bs]) V B t' h') : Chain P ops N (o :: r) t h (x :: V) (bs :: B) t' h'
  | yes (o : Oper) (r : List Oper) (t : Slots) (h : Heap) (j : Nat) (b : Bool) (d : Nat) (x : AV) (bs : Option Blk) (V : List AV) (B : List (Option Blk)) (t' : Slots) (h' : Heap) (hd : ∀ d, o.dst = some d → d < N) (hg : o.guard = some (j, b)) (hs : gslot ops j = some d) (hv : get t d = some (AM.V (.bool b)))
      (hF : opF P ((d, AM.V (.bool b)) :: t) h h.length o (Is x bs)) (hr : Chain P ops N r (putS o.dst x ((d, AM.V (.bool b)) :: t)) (h ++ [bs]) V B t' h') : Chain P ops N (o :: r) t h (x :: V) (bs :: B) t' h'
  | no (o : Oper) (r : List Oper) (t : Slots) (h : Heap) (j : Nat) (b : Bool) (d : Nat) (V : List AV) (B : List (Option Blk)) (t' : Slots) (h' : Heap) (hd : ∀ d, o.dst = some d → d < N) (hg : o.guard = some (j, b)) (hs : gslot ops j = some d) (hv : get t d = some (AM.V (.bool !b)))
      (hr : Chain P ops N r (putS o.dst .und ((d, AM.V (.bool !b)) :: t)) (h ++ [none]) V B t' h') : Chain P ops N (o :: r) t h (.und :: V) (none :: B) t' h'
  | skip (o : Oper) (r : List Oper) (t : Slots) (h : Heap) (j : Nat) (b : Bool) (d : Nat) (V : List AV) (B : List (Option Blk)) (t' : Slots) (h' : Heap) (hd : ∀ d, o.dst = some d → d < N) (hg : o.guard = some (j, b)) (hs : gslot ops j = some d) (hv : get t d = some .und)
      (hr : Chain P ops N r (putS o.dst .und t) (h ++ [none]) V B t' h') : Chain P ops N (o :: r) t h (.und :: V) (none :: B) t' h'
/-- The evaluation of the chain. -/
def chainE (P : Program) (ops : Array Oper) (N : Nat) : List Oper → Slots → Heap → (Slots → Heap → Prop) → Prop
  | [], t, h, K => K t h
  | o :: r, t, h, K => (∀ d, o.dst = some d → d < N) ∧ guardE ops t o (fun t' => opF P t' h h.length o fun x bs => chainE P ops N r (putS o.dst x t') (h ++ [bs]) K) (fun t' => chainE P ops N r (putS o.dst .und t') (h ++ [none]) K)
theorem chainE_chain {ops : Array Oper} {N : Nat} {K : Slots → Heap → Prop} : ∀ (l : List Oper) (t : Slots) (h : Heap), chainE P ops N l t h K → ∃ V B t' h', Chain P ops N l t h V B t' h' ∧ K t' h'
  | [], t, h, hE => ⟨[], [], t, h, .nil t h, hE⟩
  | o :: r, t, h, hE => by
    obtain ⟨hd, hE⟩ := hE
    unfold guardE at hE
    split at hE
    · rename_i hg
      obtain ⟨x, bs, h1, h2⟩ := opF_choice hE
      obtain ⟨V, B, t', h', h3, h4⟩ := chainE_chain r _ _ h1
      exact ⟨_, _, t', h', .plain o r t h x bs V B t' h' hd hg h2 h3, h4⟩
    · rename_i j b hg
      obtain ⟨d, hs, v, hv, hE⟩ := hE
      split at hE
      · rename_i c
        by_cases hc : c = b
        · subst hc
          obtain ⟨x, bs, h1, h2⟩ := opF_choice (hE.1 rfl)
          obtain ⟨V, B, t', h', h3, h4⟩ := chainE_chain r _ _ h1
          exact ⟨_, _, t', h', .yes o r t h j c d x bs V B t' h' hd hg hs hv h2 h3, h4⟩
        · have hc' : c = !b := by cases c <;> cases b <;> simp_all
          subst hc'
          obtain ⟨V, B, t', h', h3, h4⟩ := chainE_chain r _ _ (hE.2 rfl)
          exact ⟨_, _, t', h', .no o r t h j b d V B t' h' hd hg hs hv h3, h4⟩
      · obtain ⟨V, B, t', h', h3, h4⟩ := chainE_chain r _ _ hE
        exact ⟨_, _, t', h', .skip o r t h j b d V B t' h' hd hg hs hv h3, h4⟩
      · exact hE.elim
end
end AM
end Go.Proofs.Ytioejbgdhmiiiaa
