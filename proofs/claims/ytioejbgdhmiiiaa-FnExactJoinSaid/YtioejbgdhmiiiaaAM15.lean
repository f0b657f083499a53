/- The abstract machine, 15: the rule for a drawn region. -/
import Derived.Test.YtioejbgdhmiiiaaAM14
namespace Go.Proofs.Ytioejbgdhmiiiaa
open Go.RowKit
set_option linter.unusedVariables false
set_option linter.unusedSimpArgs false
namespace AM
section
variable {P : Program}
/-- What stands while the first k operations come up, in any order. -/
structure Pre (ops : Array Oper) (k N : Nat) (hb : Heap) (V : List AV) (B : List (Option Blk)) (w0 : World) (ρ0 : Own) (a0 : Act) (wd : World) (listed : Array Bool) (a : Act) (w : World) (ρ : Own) : Prop where
  low : ∀ i, k ≤ i → listed.getD i false = false
  g : G (hb ++ B) w0 ρ w
  adv : Adv ρ0 wd ρ w
  size : a.tmps.size = N
  defers : a.defers = []
  done : ∀ j d x, listed.getD j false = true → dstOf ops j = some d → V[j]? = some x → AR ρ w x (a.tmps.getD d undef)
  rest : ∀ d, (∀ j, listed.getD j false = true → dstOf ops j ≠ some d) → a.tmps.getD d undef = a0.tmps.getD d undef
  own : ∀ b, ρ b ≠ none → ρ0 b ≠ none ∨ ∃ j, b = hb.length + j ∧ listed.getD j false = true
theorem Pre.fresh {ops : Array Oper} {k N : Nat} {hb : Heap} {V : List AV} {B : List (Option Blk)} {w0 : World} {ρ0 : Own} {a0 : Act} {wd : World} {listed : Array Bool} {a : Act} {w : World} {ρ : Own} (hP : Pre ops k N hb V B w0 ρ0 a0 wd listed a w ρ) (hG0 : G hb w0 ρ0 wd) {i : Nat} (hi : listed.getD i false = false) : ρ (hb.length + i) = none := by
  cases hc : ρ (hb.length + i) with
  | none => rfl
  | some x =>
    exfalso
    rcases hP.own _ (by rw [hc]; simp) with h1 | ⟨j, h1, h2⟩
    · cases hc0 : ρ0 (hb.length + i) with
      | none => exact h1 hc0
      | some y => have := (hG0.lo _ y.1 y.2 hc0).2.2; omega
    · have : i = j := by omega
      subst this; rw [hi] at h2; cases h2
/-- The rule. -/
theorem draw_sound {id : Nat} {ops : Array Oper} {Q : Exit → Act → World → Prop} {K : Slots → Heap → Prop} {N : Nat} {t : Slots} {h : Heap} {w0 : World} {ρ0 : Own} {a0 : Act} {wd : World} (hm : P.follows .mixedOrders = true) (k : Nat) (hok : drawOk ops k N = true)
    (hR : Rel t h N w0 ρ0 a0 wd) (hE : chainE P ops N (ops.toList.take k) t h fun t' h' => opsE P ops N (ops.toList.drop k) t' h' K)
    (hQ : ∀ t' h' ρ' a' w', K t' h' → Rel t' h' N w0 ρ' a' w' → Adv ρ0 wd ρ' w' → Q .normal a' w') : (Code.region id ops true).wp P Q a0 wd := by
  unfold drawOk at hok
  simp only [Bool.and_eq_true] at hok
  obtain ⟨⟨⟨⟨⟨hord, honce⟩, hsel⟩, hk⟩, hreads⟩, hwait⟩ := hok
  have hk : k ≤ ops.size := by simpa using hk
  obtain ⟨V, B, t', h', hC, hE'⟩ := chainE_chain _ _ _ hE
  obtain ⟨hat, hLend, rfl, hVl, hBl⟩ := chain_at (hb := h) hC [] [] rfl (fun i o hi => by
    have hlt : i < k := by have := (List.getElem?_eq_some_iff.1 hi).1; simp at this; omega
    rw [List.getElem?_take_of_lt hlt] at hi
    simpa using hi) (by simp) (fun d x hx => .inr ⟨fun j hj => by simp at hj, hx⟩)
  simp only [List.nil_append, List.length_nil, Nat.zero_add] at hat hLend hE'
  have hkl : (ops.toList.take k).length = k := by simp; omega
  rw [hkl] at hLend hVl hBl
  have hprefix : ∀ i o, i < k → ops[i]? = some o → (ops.toList.take k)[i]? = some o := fun i o hi ho => by rw [List.getElem?_take_of_lt hi]; simpa using ho
  have hwd : Rel t h N w0 ρ0 a0 wd.drew := ⟨⟨hR.g.below.drew, hR.g.lo, fun b blk g o h1 h2 => (hR.g.held b blk g o h1 h2).adv (Adv.of_below below_drew) rfl, hR.g.inj, hR.g.past⟩, fun i x hx => (hR.slots i x hx).adv (Adv.of_below below_drew), hR.size, hR.defers⟩
  have hadv0 : Adv ρ0 wd ρ0 wd.drew := Adv.of_below below_drew
  -- who reads a slot
  have hread : ∀ i o d j, i < k → ops[i]? = some o → d ∈ o.looksAt ops → dstOf ops j = some d → j ≠ i → (j < i → waitsFor ops i j = true) ∧ (i < j → waitsFor ops j i = true) := fun i o d j hi ho hd hj hne => by
    have h1 := List.all_eq_true.1 hreads i (List.mem_range.2 hi)
    simp only [ho] at h1
    have h2 := List.all_eq_true.1 (List.all_eq_true.1 h1 d hd) j (List.mem_range.2 (dstOf_lt hj))
    simp only [Bool.or_eq_true, beq_iff_eq, hj, bne_iff_ne, ne_eq, not_true_eq_false, or_false] at h2
    rcases h2 with h2 | h2
    · exact absurd h2.symm hne
    · refine ⟨fun hlt => ?_, fun hlt => ?_⟩
      · rw [if_pos hlt] at h2; exact h2
      · rw [if_neg (by omega)] at h2; exact h2
  have honce' : ∀ i j d, dstOf ops i = some d → dstOf ops j = some d → i = j := fun i j d hi hj => by
    have h1 := List.all_eq_true.1 honce i (List.mem_range.2 (dstOf_lt hi))
    simp only [Bool.and_eq_true] at h1
    have h2 := List.all_eq_true.1 h1.2 j (List.mem_range.2 (dstOf_lt hj))
    simp only [hi, hj, Bool.or_eq_true, beq_iff_eq, bne_iff_ne, ne_eq, not_true_eq_false, or_false] at h2
    exact h2
  let Suf : Array Bool → Act → World → Prop := fun listed a w => ∃ i, k < i ∧ i ≤ ops.size ∧ (∀ j, j < ops.size → (listed.getD j false = true ↔ j < i)) ∧ ∃ t h ρ, Rel t h N w0 ρ a w ∧ Adv ρ0 wd.drew ρ w ∧ opsE P ops N (ops.toList.drop i) t h K
  let J : Array Bool → Act → World → Prop := fun listed a w => (∃ ρ, Pre ops k N h V B w0 ρ0 a0 wd.drew listed a w ρ) ∨ Suf listed a w
  -- all that stands behind the first k
  have hmid : ∀ listed a w ρ, Pre ops k N h V B w0 ρ0 a0 wd.drew listed a w ρ → (∀ j, j < k → listed.getD j false = true) → Rel t' (h ++ B) N w0 ρ a w := fun listed a w ρ hP hl => by
    refine ⟨hP.g, fun d x hx => ?_, hP.size, hP.defers⟩
    rcases hLend d x hx with ⟨j, h1, h2, h3⟩ | ⟨h1, h2⟩
    · exact hP.done j d x (hl j h1) h2 h3
    · rw [hP.rest d (fun j hj => by
        by_cases hjk : j < k
        · exact h1 j hjk
        · rw [hP.low j (by omega)] at hj; cases hj)]
      exact (hwd.slots d x h2).adv hP.adv
  -- one operation of the others
  have hsuf : ∀ (listed : Array Bool) (i : Nat) (o : Oper) (a : Act) (w : World) (t : Slots) (h : Heap) (ρ : Own), listed.size = ops.size → ops[i]? = some o → k ≤ i → (∀ j, j < ops.size → (listed.getD j false = true ↔ j < i)) → Rel t h N w0 ρ a w → Adv ρ0 wd.drew ρ w → opsE P ops N (ops.toList.drop i) t h K →
      wpOp P ops Q i (J (listed.setIfInBounds i true)) a w := by
    intro listed i o a w t h ρ hs ho hki hl hR' hadv hE
    have hil : i < ops.size := (Array.getElem?_eq_some_iff.1 ho).1
    have hdrop : ops.toList.drop i = o :: ops.toList.drop (i + 1) := by
      rw [List.drop_eq_getElem_cons (by simpa using hil)]
      congr 1
      have : ops[i]? = some ops[i] := Array.getElem?_eq_getElem hil
      rw [this] at ho; simpa using Option.some.inj ho
    rw [hdrop] at hE
    obtain ⟨hd, hE⟩ := hE
    have hl' : ∀ j, j < ops.size → ((listed.setIfInBounds i true).getD j false = true ↔ j < i + 1) := fun j hj => by
      rw [getD_set _ _ _ (by rw [hs]; exact hil)]
      by_cases e : j = i
      · subst e; simp
      · simp only [beq_eq_false_iff_ne.2 e, Bool.false_or]
        rw [hl j hj]; omega
    unfold wpOp
    simp only [ho]
    rcases guardE_sound hR' hE with ⟨t2, hw, hK, hR2⟩ | ⟨t2, hw, hK, hR2⟩
    · rw [if_pos hw]
      refine .inl (Oper.wp_mono ?_ (opE_sound hR2 hd hK))
      rintro a' w' ⟨t3, h3, ρ3, hK3, hR3, ha3⟩
      exact .inr ⟨i + 1, by omega, by omega, hl', t3, h3, ρ3, hR3, hadv.trans ha3, hK3⟩
    · rw [if_neg (by rw [hw]; simp)]
      exact .inr ⟨i + 1, by omega, by omega, hl', _, h, ρ, hR2.put hd hR2.g (Adv.refl _ _) AR_und, hadv, hK⟩
  refine wp_region_any hm (wpAny_joint (J := J) hord ?_ ?_ ops.size _ a0 _ (by simp) (by simp) (fun j i hj => by rw [none_listed] at hj; cases hj) (.inl ⟨ρ0, fun i _ => none_listed _ _, ?_, Adv.refl _ _, hwd.size, hwd.defers, fun j d x hj => (by rw [none_listed] at hj; cases hj), fun _ _ => rfl, fun b hb => .inl hb⟩))
  · -- one operation
    intro listed i o a w hs hcl hJ ho hni hdep
    have hil : i < ops.size := (Array.getElem?_eq_some_iff.1 ho).1
    have hil' : i < listed.size := by rw [hs]; exact hil
    have hpre : k ≤ i → ∀ j, j < i → listed.getD j false = true := fun hki j hj => by
      have h1 := List.all_eq_true.1 hwait i (List.mem_range.2 hil)
      simp only [Bool.or_eq_true, decide_eq_true_eq] at h1
      have h2 := List.all_eq_true.1 (h1.resolve_left (by omega)) j (List.mem_range.2 hj)
      exact closure_sound (ops := ops) (L := fun j => listed.getD j false = true) (fun i j h1 h2 => hcl i j h1 h2) ops.toList [] (fun i o hi => by simpa using hi) (fun i hi => by simp at hi) i (by simpa using hil) (fun j hj => hdep j hj) j (by simpa using h2)
    rcases hJ with ⟨ρ, hP⟩ | ⟨i', hki', hi's, hl, t2, h2, ρ2, hR2, ha2, hE2⟩
    · by_cases hik : i < k
      · -- one of the first
        obtain ⟨ti, x, bs, hx, hbs, hd, hL, hS⟩ := hat i o (hprefix i o hik ho)
        have hdst : dstOf ops i = o.dst := by unfold dstOf; rw [ho]; rfl
        have hslot : ∀ d y, d ∈ o.looksAt ops → get ti d = some y → AR ρ w y (a.tmps.getD d undef) := fun d y hd hy => by
          rcases hL d y hy with ⟨j, h1, h2, h3⟩ | ⟨h1, h2⟩
          · exact hP.done j d y (hdep j ((hread i o d j hik ho hd h2 (by omega)).1 h1)) h2 h3
          · rw [hP.rest d (fun j hj hjd => by
              by_cases e : j = i
              · subst e; rw [hni] at hj; cases hj
              · by_cases hlt : j < i
                · exact h1 j hlt hjd
                · have := hcl j i hj ((hread i o d j hik ho hd hjd e).2 (by omega))
                  rw [hni] at this; cases this)]
            exact (hwd.slots d y h2).adv hP.adv
        -- what stands behind it
        have hput : ∀ (v : Value) (w' : World) (ρ' : Own), Adv ρ w ρ' w' → G (h ++ B) w0 ρ' w' → AR ρ' w' x v → (∀ b, ρ' b ≠ none → ρ b ≠ none ∨ b = h.length + i) → J (listed.setIfInBounds i true) (a.put o.dst v) w' := fun v w' ρ' ha hG' hxv hown => by
          have hset : ∀ j, (listed.setIfInBounds i true).getD j false = (j == i || listed.getD j false) := fun j => getD_set _ _ _ hil'
          refine .inl ⟨ρ', fun j hj => ?_, hG', hP.adv.trans ha, by rw [size_put]; exact hP.size, by rw [defers_put]; exact hP.defers, fun j d y hj hjd hy => ?_, fun d hd' => ?_, fun b hb => ?_⟩
          · rw [hset, hP.low j hj, Bool.or_false]; simp; omega
          · rw [hset] at hj
            by_cases e : j = i
            · subst e
              rw [hdst] at hjd
              rw [hjd, getD_put_same a d v (by rw [hP.size]; exact hd d hjd)]
              rw [hx] at hy; cases hy; exact hxv
            · have hj' : listed.getD j false = true := by simpa [e] using hj
              rw [getD_put_ne a o.dst d v (fun e2 => e (honce' j i d hjd (hdst.trans e2)))]
              exact (hP.done j d y hj' hjd hy).adv ha
          · have hne : o.dst ≠ some d := by
              have := hd' i (by rw [hset]; simp)
              rwa [hdst] at this
            rw [getD_put_ne a o.dst d v hne]
            exact hP.rest d (fun j hj => hd' j (by rw [hset, hj, Bool.or_true]))
          · rcases hown b hb with h1 | h1
            · rcases hP.own b h1 with h2 | ⟨j, h2, h3⟩
              · exact .inl h2
              · exact .inr ⟨j, h2, by rw [hset, h3, Bool.or_true]⟩
            · exact .inr ⟨i, h1, by rw [hset]; simp⟩
        have hunw : x = .und → J (listed.setIfInBounds i true) (a.put o.dst undef) w := fun e => hput undef w ρ (Adv.refl _ _) hP.g (by rw [e]; exact AR_und) (fun b hb => .inl hb)
        have hrun : ∀ tj, (∀ d y, d ∈ o.looksAt ops → get tj d = some y → AR ρ w y (a.tmps.getD d undef)) → opF P tj (h ++ B.take i) (h ++ B.take i).length o (Is x bs) → o.wp P a w (J (listed.setIfInBounds i true)) Q := fun tj htj hF => by
          have hlen : (h ++ B.take i).length = h.length + i := by rw [List.length_append, List.length_take]; omega
          have hn : ρ (h ++ B.take i).length = none := by rw [hlen]; exact hP.fresh hwd.g hni
          have hH : ∀ (b : Nat) blk, (h ++ B.take i)[b]? = some (some blk) → (h ++ B)[b]? = some (some blk) := fun b blk hb => by
            have hlt := (List.getElem?_eq_some_iff.1 hb).1
            by_cases e : b < h.length
            · rw [List.getElem?_append_left e] at hb ⊢; exact hb
            · rw [List.getElem?_append_right (by omega)] at hb ⊢
              rw [List.getElem?_take_of_lt (by omega)] at hb
              exact hb
          refine Oper.wp_mono ?_ (opF_sound hP.g hH hn (fun y hy v hv => ?_) hF)
          · rintro a' w' ⟨v, rfl, x', bs', ρ', ⟨rfl, rfl⟩, hb', hx', hbs'⟩
            cases bs' with
            | none =>
              dsimp only at hbs'
              subst hbs'
              exact hput v w' ρ' (Adv.of_below hb') (hP.g.pass hb') hx' (fun b hb => .inl hb)
            | some blk =>
              obtain ⟨g, rfl, hg1, hg2, hblk⟩ := hbs'
              have hbi : (h ++ B)[(h ++ B.take i).length]? = some (some blk) := by
                rw [hlen, List.getElem?_append_right (by omega), Nat.add_sub_cancel_left]
                exact hbs
              refine hput v w' _ (adv_new (o := 0) hb' hn hg1) (hP.g.new hb' hn (by rw [hlen, List.length_append]; omega) hg1 hg2 hbi hblk) hx' (fun b hb => ?_)
              by_cases e : b = (h ++ B.take i).length
              · exact .inr (by rw [e, hlen])
              · refine .inl ?_
                unfold Own.with at hb
                dsimp only at hb
                rw [if_neg e] at hb
                exact hb
          · cases y with
            | tmp d => exact htj d v (List.mem_append_left _ (List.mem_filterMap.2 ⟨.tmp d, hy, rfl⟩)) hv
            | const c => exact ofV_R hv
            | global g => cases hv; exact ⟨.val _, rfl⟩
            | func f => cases hv; exact ⟨.val _, rfl⟩
        have hgmem : ∀ j b d, o.guard = some (j, b) → gslot ops j = some d → d ∈ o.looksAt ops := fun j b d hg hs => List.mem_append_right _ (by
          rw [hg]
          unfold gslot at hs
          simp [hs])
        unfold wpOp
        simp only [ho]
        rcases hS with ⟨hg, hF⟩ | ⟨j, b, d, hg, hs', hv, hF⟩ | ⟨j, b, d, hg, hs', hv, hxu, hbu⟩
        · rw [if_pos (by unfold Region.wanted; rw [hg])]
          exact .inl (hrun ti hslot hF)
        · have e := (hslot d _ (hgmem j b d hg hs') hv).1.val_eq
          rw [if_pos (by rw [wanted_sym (a := a) hg hs' e]; simp)]
          exact .inl (hrun ti hslot hF)
        · have hnw : Region.wanted o (yielded ops a.tmps) = false := by
            rcases hv with hv | hv
            · have e := (hslot d _ (hgmem j b d hg hs') hv).1.val_eq
              rw [wanted_sym (a := a) hg hs' e]; cases b <;> rfl
            · exact wanted_undef hg hs' (hslot d _ (hgmem j b d hg hs') hv)
          rw [if_neg (by rw [hnw]; simp)]
          exact hunw hxu
      · -- the first of the others
        have hall := hpre (by omega)
        have hik' : i = k := by
          by_cases e : i = k
          · exact e
          · have := hall k (by omega)
            rw [hP.low k (Nat.le_refl _)] at this; cases this
        subst hik'
        exact hsuf listed i o a w _ _ ρ hs ho (Nat.le_refl _) (fun j hj => ⟨fun hjl => (by
          rcases Nat.lt_or_ge j i with h1 | h1
          · exact h1
          · rw [hP.low j h1] at hjl; cases hjl), fun hji => hall j hji⟩) (hmid listed a w ρ hP hall) hP.adv hE'
    · have hge : i' ≤ i := by
        rcases Nat.lt_or_ge i i' with h1 | h1
        · rw [(hl i hil).2 h1] at hni; cases hni
        · exact h1
      have hle : i ≤ i' := by
        rcases Nat.lt_or_ge i' i with h1 | h1
        · have := hpre (by omega) i' h1
          have := (hl i' (by omega)).1 this
          omega
        · exact h1
      have e : i' = i := by omega
      subst e
      exact hsuf listed i' o a w t2 h2 ρ2 hs ho (by omega) hl hR2 ha2 hE2
  · -- the end
    intro listed a w hs hall hJ
    rcases hJ with ⟨ρ, hP⟩ | ⟨i', hki', hi's, hl, t2, h2, ρ2, hR2, ha2, hE2⟩
    · have hks : k = ops.size := by
        rcases Nat.lt_or_ge k ops.size with h1 | h1
        · have := hall k h1
          rw [hP.low k (Nat.le_refl _)] at this; cases this
        · omega
      rw [hks, List.drop_of_length_le (by simp)] at hE'
      exact hQ _ _ ρ a w hE' (hmid listed a w ρ hP (fun j hj => hall j (by omega))) (hadv0.trans hP.adv)
    · have e : i' = ops.size := by
        rcases Nat.lt_or_ge i' ops.size with h1 | h1
        · have := (hl i' h1).1 (hall i' h1); omega
        · omega
      rw [e, List.drop_of_length_le (by simp)] at hE2
      exact hQ _ _ ρ2 a w hE2 hR2 (hadv0.trans ha2)
  · exact hwd.g.more B
end
end AM
end Go.Proofs.Ytioejbgdhmiiiaa
