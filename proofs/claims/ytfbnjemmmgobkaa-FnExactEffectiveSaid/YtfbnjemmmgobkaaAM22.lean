/- The abstract machine, 22: contracts over own blocks, in whatever heap they are called; fewer facts. -/
import Derived.Test.YtfbnjemmmgobkaaAM21
namespace Go.Proofs.Ytfbnjemmmgobkaa
open Go.RowKit
set_option linter.unusedVariables false
set_option linter.unusedSimpArgs false
namespace AM
def plainC : CV → Bool
  | .p (.val _) => true
  | _ => false
/-- Neither memory that is read alone nor own: but for references of one's own. -/
def flatC : CV → Bool
  | .p (.val _) => true
  | .p (.view _ _) => false
  | .vp _ => false
  | _ => true
def flat1 : A1 → Bool
  | .one c => flatC c
  | .agg cs => cs.all flatC
def flatA : AV → Bool
  | .a x => flat1 x
  | .tup xs => xs.all flat1
  | .und => true
def PlainB (b : Blk) : Prop := ∀ row ∈ b.rows, ∀ c ∈ row, plainC c = true
def plainL : Heap → Prop
  | [] => True
  | none :: r => plainL r
  | some b :: r => PlainB b ∧ plainL r
theorem plainL_at : ∀ (h : Heap), plainL h → ∀ (b : Nat) blk, h[b]? = some (some blk) → PlainB blk
  | [], _, b, blk, hb => by simp at hb
  | none :: r, hp, b, blk, hb => by
    cases b with
    | zero => simp at hb
    | succ b => exact plainL_at r hp b blk (by simpa using hb)
  | some x :: r, hp, b, blk, hb => by
    cases b with
    | zero => cases hb; exact hp.1
    | succ b => exact plainL_at r hp.2 b blk (by simpa using hb)
theorem plain_map {α : Type} {T : TypeId} {m : Nat} {f : α → List CV} (l : List α) (hf : ∀ x, (f x).all plainC = true) : PlainB ⟨T, m, l.map f⟩ := fun row hr c hc => by
  obtain ⟨x, _, rfl⟩ := List.mem_map.1 hr
  exact List.all_eq_true.1 (hf x) c hc
theorem plain_one {T : TypeId} {m : Nat} {row : List CV} (hf : row.all plainC = true) : PlainB ⟨T, m, [row]⟩ := fun row' hr c hc => by
  obtain rfl : row' = row := by simpa using hr
  exact List.all_eq_true.1 hf c hc
section
variable {P : Program} {ρ ρ1 ρ2 : Own} {w w' w0 : World} {h : Heap}
theorem CR.plain {c : CV} {v : Value} (hp : plainC c = true) (hc : CR ρ w c v) : CR ρ2 w' c v := by
  cases c with
  | p x =>
    cases x with
    | val y => rw [PR.val_eq hc]; exact .val _
    | view => cases hp
  | _ => cases hp
theorem BlkR.plain {g o : Nat} {blk : Blk} (hp : PlainB blk) (hb : BlkR ρ w g o blk) : BlkR ρ2 w g o blk := by
  obtain ⟨c, fr, h1, h2, h3, h4, h5⟩ := hb
  exact ⟨c, fr, h1, h2, h3, h4, fun i j row x hi hj => by
    obtain ⟨v, h6, h7, h8⟩ := h5 i j row x hi hj
    exact ⟨v, h6, h7.plain (hp row (List.mem_of_getElem? hi) x (List.mem_of_getElem? hj)), h8⟩⟩
theorem CR.map {κ : Nat → Nat} (hκ : ∀ b x, ρ1 b = some x → ρ2 (κ b) = some x) {c : CV} {v : Value} (hf : flatC c = true) (hc : CR ρ1 w c v) : CR ρ2 w (c.ren κ) v := by
  cases c with
  | p x =>
    cases x with
    | val y => rw [PR.val_eq hc]; exact .val _
    | view => cases hf
  | vp cells => cases hf
  | ptr m b i j => obtain ⟨g, o, h1, h2⟩ := hc; exact ⟨g, o, hκ _ _ h1, h2⟩
  | sl m b i n =>
    rcases hc with hc | ⟨g, o, c, h1, h2⟩
    · exact .inl hc
    · exact .inr ⟨g, o, c, hκ _ _ h1, h2⟩
  | nilsl => exact hc
  | clo f caps =>
    obtain ⟨vs, h1, h2, h3⟩ := hc
    refine ⟨vs, h1, by simpa using h2, fun j c hj => ?_⟩
    rw [List.getElem?_map, Option.map_eq_some_iff] at hj
    obtain ⟨c0, hj, rfl⟩ := hj
    obtain ⟨u, h4, h5⟩ := h3 j c0 hj
    refine ⟨u, h4, ?_⟩
    cases c0 with
    | ptr m b i j => obtain ⟨g, o, h6, h7⟩ := h5; exact ⟨g, o, hκ _ _ h6, h7⟩
    | val x => exact h5
theorem R1.map {κ : Nat → Nat} (hκ : ∀ b x, ρ1 b = some x → ρ2 (κ b) = some x) {x : A1} {v : Value} (hf : flat1 x = true) (hc : R1 ρ1 w x v) : R1 ρ2 w (x.ren κ) v := by
  cases x with
  | one c => exact ⟨hc.1.map hκ hf, hc.2⟩
  | agg cs =>
    obtain ⟨vs, h1, h2, h3⟩ := hc
    refine ⟨vs, h1, by simpa using h2, fun j c hj => ?_⟩
    rw [List.getElem?_map, Option.map_eq_some_iff] at hj
    obtain ⟨c0, hj, rfl⟩ := hj
    obtain ⟨u, h4, h5, h6⟩ := h3 j c0 hj
    exact ⟨u, h4, h5.map hκ (List.all_eq_true.1 hf c0 (List.mem_of_getElem? hj)), h6⟩
theorem AR.map {κ : Nat → Nat} (hκ : ∀ b x, ρ1 b = some x → ρ2 (κ b) = some x) {x : AV} {v : Value} (hf : flatA x = true) (hc : AR ρ1 w x v) : AR ρ2 w (x.ren κ) v := by
  cases x with
  | a x => exact R1.map hκ hf hc
  | tup xs =>
    obtain ⟨vs, h1, h2, h3⟩ := hc
    refine ⟨vs, h1, by simpa using h2, fun j c hj => ?_⟩
    rw [List.getElem?_map, Option.map_eq_some_iff] at hj
    obtain ⟨c0, hj, rfl⟩ := hj
    obtain ⟨u, h4, h5⟩ := h3 j c0 hj
    exact ⟨u, h4, h5.map hκ (List.all_eq_true.1 hf c0 (List.mem_of_getElem? hj))⟩
  | und => exact hc
/-! ### The frame of a call -/
def setAll (h : Heap) : List Nat → Heap → Heap
  | [], _ => h
  | _, [] => h
  | b :: l, x :: r => setAll (h.set b x) l r
def frameH (h : Heap) (l : List Nat) (k : Heap) : Heap := setAll h l k ++ k.drop l.length
def kap (H : Nat) (l : List Nat) (b : Nat) : Nat := match l[b]? with
  | some c => c
  | none => H + (b - l.length)
theorem setAll_length : ∀ (l : List Nat) (h k : Heap), (setAll h l k).length = h.length
  | [], h, k => by unfold setAll; rfl
  | b :: l, h, [] => by unfold setAll; rfl
  | b :: l, h, x :: r => by unfold setAll; rw [setAll_length l]; simp
theorem setAll_out : ∀ (l : List Nat) (h k : Heap) (b : Nat), b ∉ l → (setAll h l k)[b]? = h[b]?
  | [], h, k, b, _ => by unfold setAll; rfl
  | c :: l, h, [], b, _ => by unfold setAll; rfl
  | c :: l, h, x :: r, b, hb => by
    unfold setAll
    rw [setAll_out l _ _ b (fun e => hb (List.mem_cons_of_mem _ e)), List.getElem?_set_ne (fun e => hb (by simp [e]))]
theorem setAll_in : ∀ (l : List Nat) (h k : Heap) (j b : Nat) (x : Option Blk), l.Nodup → l[j]? = some b → k[j]? = some x → b < h.length → (setAll h l k)[b]? = some x
  | [], h, k, j, b, x, _, hj, _, _ => by simp at hj
  | c :: l, h, [], j, b, x, _, _, hk, _ => by simp at hk
  | c :: l, h, y :: r, j, b, x, hn, hj, hk, hb => by
    unfold setAll
    obtain ⟨h1, h2⟩ := List.nodup_cons.1 hn
    cases j with
    | zero =>
      cases hj; cases hk
      rw [setAll_out l _ _ _ h1, List.getElem?_set_self hb]
    | succ j => exact setAll_in l _ _ j b x h2 (by simpa using hj) (by simpa using hk) (by simpa using hb)
/-- The blocks that a call may change. -/
def matchH (h : Heap) : List Nat → Heap → Prop
  | [], [] => True
  | b :: l, o :: r => (∃ blk, o = some blk ∧ h[b]? = some (some blk)) ∧ matchH h l r
  | _, _ => False
theorem matchH_at {h : Heap} : ∀ (l : List Nat) (k : Heap), matchH h l k → l.length = k.length ∧ ∀ (j : Nat) b, l[j]? = some b → ∃ blk, k[j]? = some (some blk) ∧ h[b]? = some (some blk)
  | [], [], _ => ⟨rfl, fun j b hj => by simp at hj⟩
  | b :: l, o :: r, hm => by
    obtain ⟨h1, h2⟩ := matchH_at l r hm.2
    refine ⟨by simp [h1], fun j c hj => ?_⟩
    cases j with
    | zero =>
      cases hj
      obtain ⟨blk, rfl, h3⟩ := hm.1
      exact ⟨blk, rfl, h3⟩
    | succ j => exact h2 j c (by simpa using hj)
  | [], o :: r, hm => hm.elim
  | b :: l, [], hm => hm.elim
def own1 (ρ : Own) (l : List Nat) : Own := ⟨fun b => (l[b]?).bind ρ.f, fun _ => True⟩
theorem own1_at {l : List Nat} {b : Nat} {x : Nat × Nat} (hb : own1 ρ l b = some x) : ∃ c, l[b]? = some c ∧ ρ c = some x := by
  have : (l[b]?).bind ρ.f = some x := hb
  obtain ⟨c, h1, h2⟩ := Option.bind_eq_some_iff.1 this
  exact ⟨c, h1, h2⟩
/-- An argument, as the callee sees it. -/
def ArgF (h : Heap) (l : List Nat) (x x1 : AV) : Prop := ∀ (w0 w : World) (ρ : Own) (v : Value), G h w0 ρ w → AR ρ w x v → AR (own1 ρ l) w x1 v
inductive ArgsF (h : Heap) (l : List Nat) : List AV → List AV → Prop
  | nil : ArgsF h l [] []
  | cons {x x1 : AV} {r r1 : List AV} (hx : ArgF h l x x1) (hr : ArgsF h l r r1) : ArgsF h l (x :: r) (x1 :: r1)
theorem ArgsF.len {l : List Nat} {xs xs1 : List AV} (e : ArgsF h l xs xs1) : xs1.length = xs.length := by
  induction e with
  | nil => rfl
  | cons hx hr ih => simp [ih]
theorem ArgsF.at {l : List Nat} {xs xs1 : List AV} (e : ArgsF h l xs xs1) : ∀ (j : Nat) x1, xs1[j]? = some x1 → ∃ x, xs[j]? = some x ∧ ArgF h l x x1 := by
  induction e with
  | nil => intro j x' hj; simp at hj
  | cons hx hr ih =>
    intro j y hj
    cases j with
    | zero => cases hj; exact ⟨_, rfl, hx⟩
    | succ j => exact ih j y (by simpa using hj)
theorem argF_exp {x x1 : AV} (e : ExpA false h x x1) : ArgF h [] x x1 := fun w0 w ρ v hG hx =>
  PA.ar ((e.sound (S := Lt w) (fun _ g hg => hg.1) (fun b g o hb => (hG.lo b g o hb).2.1) hG (fun b blk hb => hb) hx).mono (fun g hg => ⟨hg, fun b o hb => (by obtain ⟨c, h1, _⟩ := own1_at hb; simp at h1), trivial⟩) (fun _ _ _ => rfl))
theorem argF_pure {l : List Nat} {x : AV} (hp : pureA x = true) : ArgF h l x x := fun w0 w ρ v hG hx =>
  PA.ar ((pureA_R hp hx).mono (fun g hg => ⟨hg.1, fun b o hb => (by obtain ⟨c, _, h2⟩ := own1_at hb; exact hg.2.1 c o h2), trivial⟩) (fun _ _ _ => rfl))
theorem CR.own1 {l : List Nat} {c : CV} {v : Value} (hf : flatC c = true) (hl : c.lt l.length) {κ : Nat → Nat} (hκ : ∀ b c, l[b]? = some c → κ b = c) (hc : CR ρ w (c.ren κ) v) : CR (AM.own1 ρ l) w c v := by
  have key : ∀ b x, b < l.length → ρ (κ b) = some x → AM.own1 ρ l b = some x := fun b x hb hx => by
    show (l[b]?).bind ρ.f = some x
    have e : l[b]? = some l[b] := List.getElem?_eq_getElem hb
    rw [e]
    rw [hκ b _ e] at hx
    exact hx
  cases c with
  | p x =>
    cases x with
    | val y => rw [PR.val_eq hc]; exact .val _
    | view => cases hf
  | vp cells => cases hf
  | ptr m b i j => obtain ⟨g, o, h1, h2⟩ := hc; exact ⟨g, o, key _ _ hl h1, h2⟩
  | sl m b i n =>
    rcases hc with hc | ⟨g, o, c, h1, h2⟩
    · exact .inl hc
    · exact .inr ⟨g, o, c, key _ _ hl h1, h2⟩
  | nilsl => exact hc
  | clo f caps =>
    obtain ⟨vs, h1, h2, h3⟩ := hc
    refine ⟨vs, h1, by simpa using h2, fun j c hj => ?_⟩
    obtain ⟨u, h4, h5⟩ := h3 j (c.ren κ) (by rw [List.getElem?_map, hj]; rfl)
    refine ⟨u, h4, ?_⟩
    cases c with
    | ptr m b i j => obtain ⟨g, o, h6, h7⟩ := h5; exact ⟨g, o, key _ _ (hl _ (List.mem_of_getElem? hj)) h6, h7⟩
    | val x => exact h5
theorem argF_sl {l : List Nat} {m b c i n : Nat} (hb : l[b]? = some c) : ArgF h l (one (.sl m c i n)) (one (.sl m b i n)) := fun w0 w ρ v hG hx =>
  ⟨CR.own1 (κ := fun b => (l[b]?).getD 0) (c := .sl m b i n) rfl (List.getElem?_eq_some_iff.1 hb).1 (fun b c e => by simp [e]) (by simp only [CV.ren, hb, Option.getD_some]; exact hx.1), hx.2⟩
theorem argF_ptr {l : List Nat} {m b c i n : Nat} (hb : l[b]? = some c) : ArgF h l (one (.ptr m c i n)) (one (.ptr m b i n)) := fun w0 w ρ v hG hx =>
  ⟨CR.own1 (κ := fun b => (l[b]?).getD 0) (c := .ptr m b i n) rfl (List.getElem?_eq_some_iff.1 hb).1 (fun b c e => by simp [e]) (by simp only [CV.ren, hb, Option.getD_some]; exact hx.1), hx.2⟩
def ltCap (n : Nat) : Cap → Bool
  | .ptr _ b _ _ => decide (b < n)
  | _ => true
def ltC (n : Nat) : CV → Bool
  | .ptr _ b _ _ => decide (b < n)
  | .sl _ b _ _ => decide (b < n)
  | .clo _ caps => caps.all (ltCap n)
  | _ => true
theorem ltC_at {n : Nat} {c : CV} (hc : ltC n c = true) : c.lt n := by
  cases c with
  | clo f caps =>
    intro c hm
    have := List.all_eq_true.1 hc c hm
    cases c with
    | ptr m b i j => exact (of_decide_eq_true this : b < n)
    | val x => trivial
  | ptr m b i j => exact (of_decide_eq_true hc : b < _)
  | sl m b i k => exact (of_decide_eq_true hc : b < _)
  | _ => trivial
theorem argF_clo {l : List Nat} {f : FuncId} {caps caps1 : List Cap} (hl : caps1.all (ltCap l.length) = true) (he : caps1.map (Cap.ren fun b => (l[b]?).getD 0) = caps) : ArgF h l (one (.clo f caps)) (one (.clo f caps1)) := fun w0 w ρ v hG hx => by
  subst he
  exact ⟨CR.own1 (κ := fun b => (l[b]?).getD 0) (c := .clo f caps1) rfl (ltC_at (c := .clo f caps1) hl) (fun b c e => by simp [e]) hx.1, hx.2⟩
theorem argF_agg {l : List Nat} {cs cs1 : List CV} (hf : cs1.all flatC = true) (hl : cs1.all (ltC l.length) = true) (he : cs1.map (CV.ren fun b => (l[b]?).getD 0) = cs) : ArgF h l (.a (.agg cs)) (.a (.agg cs1)) := fun w0 w ρ v hG hx => by
  subst he
  obtain ⟨vs, h1, h2, h3⟩ := hx
  refine ⟨vs, h1, by simpa using h2, fun j c hj => ?_⟩
  obtain ⟨u, h4, h5, h6⟩ := h3 j (c.ren fun b => (l[b]?).getD 0) (by rw [List.getElem?_map, hj]; rfl)
  have hm := List.mem_of_getElem? hj
  exact ⟨u, h4, CR.own1 (κ := fun b => (l[b]?).getD 0) (List.all_eq_true.1 hf c hm) (ltC_at (List.all_eq_true.1 hl c hm)) (fun b c e => by simp [e]) h5, h6⟩
/-- A function's contract over blocks of its own alone: the blocks that it may change, what becomes of them, new ones. -/
structure EffC (P : Program) (h1 : Heap) (f : FuncId) (xs1 : List AV) (r1 : AV) (h1' : Heap) : Prop where
  eff : Eff P h1 f xs1 fun x k => x = r1 ∧ k = h1'
  plain : plainL h1
  plain' : plainL h1'
  flat : flatA r1 = true
  len : h1.length ≤ h1'.length
theorem EffC.frame {h1 h1' : Heap} {f : FuncId} {xs1 xs : List AV} {r1 : AV} (hE : EffC P h1 f xs1 r1 h1') (l : List Nat) (hm : matchH h l h1) (hnd : l.Nodup) (ha : ArgsF h l xs xs1) : Eff P h f xs fun x k => x = r1.ren (kap h.length l) ∧ k = frameH h l h1' := by
  obtain ⟨hE, hp, hp', hfl, hlen⟩ := hE
  obtain ⟨hl1, hat⟩ := matchH_at l h1 hm
  refine ⟨hE.1, fun w0 w ρ vs hG hs hv => ?_⟩
  have hG1 : G h1 w0 (own1 ρ l) w := by
    refine ⟨hG.below, fun b g o hb => ?_, fun b blk g o h1' hb => ?_, fun b b' blk blk' g o o' k1 k2 hb hb' => ?_, fun _ _ => trivial⟩
    · obtain ⟨c, e1, e2⟩ := own1_at hb
      have := hG.lo c g o e2
      exact ⟨this.1, this.2.1, by have := (List.getElem?_eq_some_iff.1 e1).1; omega⟩
    · obtain ⟨c, e1, e2⟩ := own1_at hb
      obtain ⟨blk0, e3, e4⟩ := hat b c e1
      rw [h1'] at e3
      cases e3
      exact (hG.held c _ g o e4 e2).plain (plainL_at h1 hp b _ h1')
    · obtain ⟨c, e1, e2⟩ := own1_at hb
      obtain ⟨c', e1', e2'⟩ := own1_at hb'
      obtain ⟨blk0, e3, e4⟩ := hat b c e1
      obtain ⟨blk0', e3', e4'⟩ := hat b' c' e1'
      have := hG.inj c c' _ _ g o o' e4 e4' e2 e2'
      subst this
      exact (List.getElem?_inj (List.getElem?_eq_some_iff.1 e1).1 hnd).1 (e1.trans e1'.symm)
  refine (hE.2 w0 w (own1 ρ l) vs hG1 (by rw [hs, ha.len]) (fun j x1 hj => by
    obtain ⟨x, h1, h2⟩ := ha.at j x1 hj
    obtain ⟨u, h3, h4⟩ := hv j x h1
    exact ⟨u, h3, h2 w0 w ρ u hG h4⟩)).mono ?_
  rintro e w' ⟨v, x, k, ρ1', rfl, ⟨rfl, rfl⟩, hG', hA, hR⟩
  let ρ' : Own := ⟨fun b => if b < h.length then (if b ∈ l then ρ1' (l.idxOf b) else ρ b) else ρ1' (b - h.length + l.length), ρ.A⟩
  have hidx : ∀ j b, l[j]? = some b → l.idxOf b = j := fun j b hj => by
    have hb : b ∈ l := List.mem_of_getElem? hj
    have h5 : l[l.idxOf b]? = some b := by
      have h6 : l.idxOf b < l.length := List.idxOf_lt_length_iff.2 hb
      rw [List.getElem?_eq_getElem h6, List.getElem_idxOf]
    exact (List.getElem?_inj (List.getElem?_eq_some_iff.1 h5).1 hnd).1 (h5.trans hj.symm)
  have hlt : ∀ j b, l[j]? = some b → b < h.length := fun j b hj => by
    obtain ⟨blk, _, e⟩ := hat j b hj
    exact (List.getElem?_eq_some_iff.1 e).1
  have hκ : ∀ j x, ρ1' j = some x → ρ' (kap h.length l j) = some x := fun j x hj => by
    show (if kap h.length l j < h.length then _ else _) = _
    unfold kap
    cases e : l[j]? with
    | some c =>
      dsimp only
      rw [if_pos (hlt j c e), if_pos (List.mem_of_getElem? e), hidx j c e]
      exact hj
    | none =>
      have : l.length ≤ j := by simpa using e
      dsimp only
      rw [if_neg (by omega), show h.length + (j - l.length) - h.length + l.length = j by omega]
      exact hj
  have hρ : ∀ b x, ρ' b = some x → (b < h.length ∧ b ∉ l ∧ ρ b = some x) ∨ ∃ j, b = kap h.length l j ∧ ρ1' j = some x := fun b x hb => by
    have hb' : (if b < h.length then (if b ∈ l then ρ1' (l.idxOf b) else ρ b) else ρ1' (b - h.length + l.length)) = some x := hb
    by_cases e1 : b < h.length
    · rw [if_pos e1] at hb'
      by_cases e2 : b ∈ l
      · rw [if_pos e2] at hb'
        obtain ⟨j, hj⟩ := List.getElem?_of_mem e2
        refine .inr ⟨j, ?_, ?_⟩
        · unfold kap; rw [hj]
        · rw [hidx j b hj] at hb'; exact hb'
      · rw [if_neg e2] at hb'; exact .inl ⟨e1, e2, hb'⟩
    · rw [if_neg e1] at hb'
      refine .inr ⟨b - h.length + l.length, ?_, hb'⟩
      unfold kap
      rw [List.getElem?_eq_none (by omega)]
      dsimp only
      omega
  have hlf : (frameH h l k).length = h.length + (k.length - l.length) := by
    unfold frameH; rw [List.length_append, setAll_length, List.length_drop]
  have hlk : ∀ j x, ρ1' j = some x → j < k.length := fun j x hj => (hG'.lo j x.1 x.2 hj).2.2
  have hkl : l.length ≤ k.length := by omega
  have hout : ∀ b, b < h.length → b ∉ l → (frameH h l k)[b]? = h[b]? := fun b h1 h2 => by
    unfold frameH
    rw [List.getElem?_append_left (by rw [setAll_length]; exact h1), setAll_out l h _ b h2]
  have hin : ∀ j, j < k.length → (frameH h l k)[kap h.length l j]? = k[j]? := fun j hj => by
    unfold frameH kap
    cases e : l[j]? with
    | some c =>
      dsimp only
      rw [List.getElem?_append_left (by rw [setAll_length]; exact hlt j c e), List.getElem?_eq_getElem hj]
      exact setAll_in l h _ j c _ hnd e (List.getElem?_eq_getElem hj) (hlt j c e)
    | none =>
      have : l.length ≤ j := by simpa using e
      dsimp only
      rw [List.getElem?_append_right (by rw [setAll_length]; omega), setAll_length, List.getElem?_drop, show l.length + (h.length + (j - l.length) - h.length) = j by omega]
  have apart : ∀ b blk g o, h[b]? = some (some blk) → ρ b = some (g, o) → b ∉ l → ∀ j o', own1 ρ l j ≠ some (g, o') := fun b blk g o hb hρb hn j o' hj => by
    obtain ⟨c, e1, e2⟩ := own1_at hj
    obtain ⟨blk0, _, e4⟩ := hat j c e1
    have := hG.inj b c _ _ g o o' hb e4 hρb e2
    subst this
    exact hn (List.mem_of_getElem? e1)
  have hAdv : Adv ρ w ρ' w' := by
    refine ⟨hA.os, hA.tape, hA.output, hA.size, fun g hg hn => hA.blk g hg (fun b o hb => ?_), hA.row, fun b x hb => ?_, fun b g o hb => ?_, rfl⟩
    · obtain ⟨c, _, e2⟩ := own1_at hb; exact hn c o e2
    · show (if b < h.length then (if b ∈ l then ρ1' (l.idxOf b) else ρ b) else ρ1' (b - h.length + l.length)) = some x
      rw [if_pos (hG.lo b x.1 x.2 hb).2.2]
      by_cases e2 : b ∈ l
      · rw [if_pos e2]
        obtain ⟨j, hj⟩ := List.getElem?_of_mem e2
        rw [hidx j b hj]
        exact hA.keep j x (show (l[j]?).bind ρ.f = some x by rw [hj]; exact hb)
      · rw [if_neg e2]; exact hb
    · rcases hρ b _ hb with ⟨_, _, e⟩ | ⟨j, _, e⟩
      · exact .inl ⟨b, o, e⟩
      · rcases hA.new j g o e with ⟨b0, o0, e0⟩ | e0
        · obtain ⟨c, _, e2⟩ := own1_at e0; exact .inl ⟨c, o0, e2⟩
        · exact .inr e0
  refine ⟨v, _, _, ρ', rfl, ⟨rfl, rfl⟩, ⟨hG'.below, fun b g o hb => ?_, fun b blk g o h1 hb => ?_, fun b b' blk blk' g o o' k1 k2 hb hb' => ?_, hG.past⟩, hAdv, AR.map hκ hfl hR⟩
  · rcases hρ b _ hb with ⟨e1, _, e⟩ | ⟨j, rfl, e⟩
    · have := hG.lo b g o e
      exact ⟨this.1, Nat.lt_of_lt_of_le this.2.1 hA.size, by rw [hlf]; omega⟩
    · have := hG'.lo j g o e
      refine ⟨this.1, this.2.1, ?_⟩
      rw [hlf]
      unfold kap
      cases e3 : l[j]? with
      | some c => have := hlt j c e3; dsimp only; omega
      | none =>
        have : l.length ≤ j := by simpa using e3
        have := hlk j _ e
        dsimp only; omega
  · rcases hρ b _ hb with ⟨e1, e2, e⟩ | ⟨j, rfl, e⟩
    · rw [hout b e1 e2] at h1
      exact (hG.held b blk g o h1 e).adv hAdv (hA.blk g (hG.lo b g o e).2.1 (apart b blk g o h1 e e2))
    · rw [hin j (hlk j _ e)] at h1
      exact (hG'.held j blk g o h1 e).plain (plainL_at _ hp' j blk h1)
  · rcases hρ b _ hb with ⟨e1, e2, e⟩ | ⟨j, rfl, e⟩ <;> rcases hρ b' _ hb' with ⟨e1', e2', e'⟩ | ⟨j', rfl, e'⟩
    · rw [hout b e1 e2] at k1
      rw [hout b' e1' e2'] at k2
      exact hG.inj b b' _ _ g o o' k1 k2 e e'
    · rw [hout b e1 e2] at k1
      rcases hA.new j' g o' e' with ⟨b0, o0, e0⟩ | e0
      · exact absurd e0 (apart b blk g o k1 e e2 b0 o0)
      · have := (hG.lo b g o e).2.1; omega
    · rw [hout b' e1' e2'] at k2
      rcases hA.new j g o e with ⟨b0, o0, e0⟩ | e0
      · exact absurd e0 (apart b' blk' g o' k2 e' e2' b0 o0)
      · have := (hG.lo b' g o' e').2.1; omega
    · rw [hin j (hlk j _ e)] at k1
      rw [hin j' (hlk j' _ e')] at k2
      rw [hG'.inj j j' _ _ g o o' k1 k2 e e']
/-- A contract read off the code, the end's state renumbered. -/
theorem eff_of_codeW {f : FuncId} {fn : Func} {c : Code} {N : Nat} {xs : List AV} {r : AV} {h2 : Heap} (he : canEnter P f = true) (hf : P.funcs[f]? = some fn) (hb : fn.body = some c) (hN : fn.ntmps = N) (hx : xs.length ≤ N)
    (hE : ∀ K : Exit → Slots → Heap → Prop, (∀ t h', resE P fn t h' (fun r' => WeakE h.length [(0, r')] h' [(0, r)] h2) → K .ret t h') → (∀ t h', resE P fn t h' (fun r' => WeakE h.length [(0, r')] h' [(0, r)] h2) → K .normal t h') → codeE P N h.length c (argS 0 xs) h K) : Eff P h f xs fun x k => x = r ∧ k = h2 := by
  subst hN
  refine ⟨he, fun w0 w ρ vs hG hs hv => (body_sound (K := fun r' h' => WeakE h.length [(0, r')] h' [(0, r)] h2) hf hb hx (hE _ (fun _ _ h => h) (fun _ _ h => h)) hG hs hv).mono ?_⟩
  rintro e w' ⟨v, x, k, ρ1, rfl, ⟨ι, hW⟩, hG', hA, hR⟩
  obtain ⟨k1, k2⟩ := hG'.weak hW.heap hW.inj hW.low hW.long
  obtain ⟨y, k3, k4⟩ := hW.slots 0 r rfl
  cases k3
  exact ⟨v, r, h2, _, rfl, ⟨rfl, rfl⟩, k1, ((hA.n h.length).trans k2).full (fun b x hb => (hG.lo b x.1 x.2 hb).2.2), k4 _ _ _ hR⟩
/-- New memory seen as memory that is read alone. -/
theorem pure_of_eff {f : FuncId} {xs : List AV} {r1 r : AV} {h1' : Heap} {fr : Bool} (hE : Eff P [] f xs fun x k => x = r1 ∧ k = h1') (hexp : ExpA fr h1' r1 r) : Pure P fr f xs r := by
  refine ⟨hE.1, fun w S vs hS hs hv => ?_⟩
  let ρ0 : Own := ⟨fun _ => none, fun g => S g ∨ w.heap.size ≤ g⟩
  have hG : G [] w ρ0 w := ⟨Below.refl _ _, fun b g o hb => (by cases hb), fun b blk g o hb => (by simp at hb), fun b b' blk blk' g o o' hb => (by simp at hb), fun g hg => .inr hg⟩
  refine (hE.2 w w ρ0 vs hG hs (fun j x hj => ?_)).mono ?_
  · obtain ⟨u, h1, h2⟩ := hv j x hj
    exact ⟨u, h1, PA.ar (h2.mono (fun g hg => ⟨hS g hg, fun b o hb => (by cases hb), .inl hg⟩) (fun _ _ _ => rfl))⟩
  · rintro e w' ⟨v, x, h', ρ', rfl, ⟨rfl, rfl⟩, hG', ha, hxr⟩
    refine ⟨v, rfl, hG'.below, hexp.sound (fun hfr g hg => ?_) (fun b g o hb => ?_) hG' (fun b blk hb => hb) hxr⟩
    · have hA := hg.2.2
      rw [ha.A] at hA
      rcases hA with hA | hA
      · exact .inl ⟨hfr, hA⟩
      · exact .inr ⟨hA, hg.1⟩
    · obtain ⟨k1, k2, _⟩ := hG'.lo b g o hb
      exact .inr ⟨k1, k2⟩
theorem eff_mono {f : FuncId} {xs : List AV} {K K' : AV → Heap → Prop} (hE : Eff P h f xs K) (hK : ∀ x k, K x k → K' x k) : Eff P h f xs K' :=
  ⟨hE.1, fun w0 w ρ vs hG hs hv => (hE.2 w0 w ρ vs hG hs hv).mono fun e w' ⟨v, x, k, ρ', h1, h2, h3⟩ => ⟨v, x, k, ρ', h1, hK x k h2, h3⟩⟩
/-! ### Fewer facts -/
def WkA (ι : Nat → Nat) (n : Nat) (y x : AV) : Prop := ∀ v ρ w, AR ρ w y v → AR (Own.ren ρ ι n) w x v
def WkC (ι : Nat → Nat) (n : Nat) (y x : CV) : Prop := ∀ v ρ w, CR ρ w y v → CR (Own.ren ρ ι n) w x v
def WkB (ι : Nat → Nat) (n : Nat) (y x : Blk) : Prop := ∀ ρ w g o, BlkR ρ w g o y → BlkR (Own.ren ρ ι n) w g o x
def iot (H : Nat) (l : List Nat) (b : Nat) : Nat := match l[b]? with
  | some c => c
  | none => H + l.length + b
inductive SlotsW (ι : Nat → Nat) (n : Nat) (t : Slots) : Slots → Prop
  | nil : SlotsW ι n t []
  | cons {i : Nat} {y x : AV} {r : Slots} (hg : get t i = some y) (hw : WkA ι n y x) (hr : SlotsW ι n t r) : SlotsW ι n t ((i, x) :: r)
inductive HeapW (ι : Nat → Nat) (n : Nat) (h : Heap) : List Nat → Heap → Prop
  | nil : HeapW ι n h [] []
  | none {b : Nat} {l : List Nat} {r : Heap} (hr : HeapW ι n h l r) : HeapW ι n h (b :: l) (none :: r)
  | new {b : Nat} {l : List Nat} {r : Heap} {x : Blk} (hb : h.length ≤ b) (hr : HeapW ι n h l r) : HeapW ι n h (b :: l) (some x :: r)
  | cons {b : Nat} {l : List Nat} {r : Heap} {y x : Blk} (hb : h[b]? = some (some y)) (hw : WkB ι n y x) (hr : HeapW ι n h l r) : HeapW ι n h (b :: l) (some x :: r)
theorem SlotsW.at {ι : Nat → Nat} {n : Nat} {t t2 : Slots} (hs : SlotsW ι n t t2) : ∀ i x, get t2 i = some x → ∃ y, get t i = some y ∧ WkA ι n y x := by
  induction hs with
  | nil => intro i x hx; cases hx
  | cons hg hw hr ih =>
    intro i x hx
    simp only [get] at hx
    split at hx
    · rename_i e; subst e; cases hx; exact ⟨_, hg, hw⟩
    · exact ih i x hx
theorem HeapW.at {ι : Nat → Nat} {n : Nat} {l : List Nat} {h2 : Heap} (hs : HeapW ι n h l h2) : l.length = h2.length ∧ ∀ (b : Nat) blk, h2[b]? = some (some blk) → ∃ c, l[b]? = some c ∧ (h.length ≤ c ∨ ∃ y, h[c]? = some (some y) ∧ WkB ι n y blk) := by
  induction hs with
  | nil => exact ⟨rfl, fun b blk hb => by simp at hb⟩
  | none hr ih =>
    refine ⟨by simp [ih.1], fun b blk hb => ?_⟩
    cases b with
    | zero => simp at hb
    | succ b => exact ih.2 b blk (by simpa using hb)
  | new hb0 hr ih =>
    refine ⟨by simp [ih.1], fun b blk hb => ?_⟩
    cases b with
    | zero => exact ⟨_, rfl, .inl hb0⟩
    | succ b => exact ih.2 b blk (by simpa using hb)
  | cons hb0 hw hr ih =>
    refine ⟨by simp [ih.1], fun b blk hb => ?_⟩
    cases b with
    | zero => cases hb; exact ⟨_, rfl, .inr ⟨_, hb0, hw⟩⟩
    | succ b => exact ih.2 b blk (by simpa using hb)
def lowB (n0 : Nat) (l : List Nat) : Bool := decide (n0 ≤ l.length) && (List.range n0).all fun b => l[b]? == some b
theorem weakE_of {n0 H n : Nat} {t t2 : Slots} {h2 : Heap} (l : List Nat) (hH : h.length = H) (hn : l.length = n) (hnd : decide l.Nodup = true) (hlo : lowB n0 l = true) (hs : SlotsW (iot H l) n t t2) (hh : HeapW (iot H l) n h l h2) : WeakE n0 t h t2 h2 := by
  subst hH
  obtain ⟨hl, hat⟩ := hh.at
  obtain rfl : n = h2.length := by omega
  have hio : ∀ b c, l[b]? = some c → iot h.length l b = c := fun b c e => by unfold iot; rw [e]
  unfold lowB at hlo
  rw [Bool.and_eq_true, decide_eq_true_eq, List.all_eq_true] at hlo
  refine ⟨iot h.length l, fun i x hx => hs.at i x hx, fun b blk hb => ?_, fun b b' h1 h2' e => ?_, fun b hb => ?_, by rw [← hl]; exact hlo.1⟩
  · obtain ⟨c, h1, h3⟩ := hat b blk hb
    rw [hio b c h1]
    exact h3
  · rw [hio b l[b] (List.getElem?_eq_getElem (by omega)), hio b' l[b'] (List.getElem?_eq_getElem (by omega))] at e
    exact (List.getElem?_inj (show b < l.length by omega) (of_decide_eq_true hnd)).1 (by rw [List.getElem?_eq_getElem (show b < l.length by omega), List.getElem?_eq_getElem (show b' < l.length by omega), e])
  · exact hio b b (eq_of_beq (hlo.2 b (List.mem_range.2 hb)))
section
variable {ι : Nat → Nat} {n : Nat}
theorem wkC_pure {c : CV} (hp : pureC c = true) : WkC ι n c c := fun v ρ w hc => by
  cases c with
  | p x => exact PR.later (fun g hg => ren_fz hg) (fun _ _ _ => rfl) hc
  | vp cells =>
    obtain ⟨g, q, f, h1, h2, h3, h4⟩ := hc
    exact ⟨g, q, f, h1, ren_fz h2, h3, fun j x hj => ⟨(h4 j x hj).1.later (fun g hg => ren_fz hg) (fun _ _ _ => rfl), (h4 j x hj).2⟩⟩
  | ptr => cases hp
  | sl => cases hp
  | nilsl => exact hc
  | clo => cases hp
theorem wkC_clo {f : FuncId} {caps caps' : List Cap} (he : caps.map (Cap.ren ι) = caps') (hl : caps.all (ltCap n) = true) : WkC ι n (.clo f caps') (.clo f caps) := fun v ρ w hc => by
  subst he
  exact CR.ren (c := .clo f caps) (ltC_at (c := .clo f caps) hl) hc
theorem wkC_sl {m b b' i i' k k' : Nat} (hb : ι b = b') (hlt : decide (b < n) = true) (hi : i' = i) (hk : k' = k) : WkC ι n (.sl m b' i' k') (.sl m b i k) := fun v ρ w hc => by
  subst hb; subst hi; subst hk
  exact CR.ren (c := .sl m b i' k') (show b < n from of_decide_eq_true hlt) hc
theorem wkC_ptr {m b b' i i' k : Nat} (hb : ι b = b') (hlt : decide (b < n) = true) (hi : i' = i) : WkC ι n (.ptr m b' i' k) (.ptr m b i k) := fun v ρ w hc => by
  subst hb; subst hi
  exact CR.ren (c := .ptr m b i' k) (show b < n from of_decide_eq_true hlt) hc
theorem wkC_nilsl {m b i k : Nat} (hk : 0 = k) : WkC ι n .nilsl (.sl m b i k) := fun v ρ w hc => by subst hk; exact .inl ⟨rfl, hc⟩
theorem wkC_nil0 {m b i k : Nat} {a : Option Addr} (hk : 0 = k) : WkC ι n (.p (.val (.slice a 0 0))) (.sl m b i k) := fun v ρ w hc => by subst hk; cases hc; exact .inl ⟨rfl, a, rfl⟩
theorem wkC_nil1 {a : Option Addr} : WkC ι n (.p (.val (.slice a 0 0))) .nilsl := fun v ρ w hc => by cases hc; exact ⟨a, rfl⟩
theorem wkC_eq {c c' : CV} (hp : pureC c = true) (e : c = c') : WkC ι n c c' := by subst e; exact wkC_pure hp
theorem wk_one {y x : CV} (hc : WkC ι n y x) : WkA ι n (one y) (one x) := fun v ρ w h => ⟨hc v ρ w h.1, h.2⟩
theorem wk_pure {x : AV} (hp : pureA x = true) : WkA ι n x x := fun v ρ w h => by
  cases x with
  | a x =>
    cases x with
    | one c => exact ⟨wkC_pure hp _ _ _ h.1, h.2⟩
    | agg cs =>
      obtain ⟨vs, h1, h2, h3⟩ := h
      exact ⟨vs, h1, h2, fun j c hj => by obtain ⟨u, h4, h5, h6⟩ := h3 j c hj; exact ⟨u, h4, wkC_pure (List.all_eq_true.1 hp c (List.mem_of_getElem? hj)) _ _ _ h5, h6⟩⟩
  | tup xs =>
    obtain ⟨vs, h1, h2, h3⟩ := h
    refine ⟨vs, h1, h2, fun j x hj => ?_⟩
    obtain ⟨u, h4, h5⟩ := h3 j x hj
    have hpx : pure1 x = true := List.all_eq_true.1 hp x (List.mem_of_getElem? hj)
    refine ⟨u, h4, ?_⟩
    cases x with
    | one c => exact ⟨wkC_pure hpx _ _ _ h5.1, h5.2⟩
    | agg cs =>
      obtain ⟨vs, k1, k2, k3⟩ := h5
      exact ⟨vs, k1, k2, fun j c hj => by obtain ⟨u, h4, h5, h6⟩ := k3 j c hj; exact ⟨u, h4, wkC_pure (List.all_eq_true.1 hpx c (List.mem_of_getElem? hj)) _ _ _ h5, h6⟩⟩
  | und => exact h
theorem wk_eq {x y : AV} (hp : pureA x = true) (e : x = y) : WkA ι n x y := by subst e; exact wk_pure hp
theorem wk_I {a b : Int} (e : a = b) : WkA ι n (I a) (I b) := by subst e; exact wk_pure rfl
inductive WkCs (ι : Nat → Nat) (n : Nat) : List CV → List CV → Prop
  | nil : WkCs ι n [] []
  | cons {y x : CV} {r q : List CV} (hx : WkC ι n y x) (hr : WkCs ι n r q) : WkCs ι n (y :: r) (x :: q)
theorem WkCs.at {r q : List CV} (h : WkCs ι n r q) : r.length = q.length ∧ ∀ (j : Nat) c, q[j]? = some c → ∃ y, r[j]? = some y ∧ WkC ι n y c := by
  induction h with
  | nil => exact ⟨rfl, fun j c hj => by simp at hj⟩
  | cons hx hr ih =>
    refine ⟨by simp [ih.1], fun j c hj => ?_⟩
    cases j with
    | zero => cases hj; exact ⟨_, rfl, hx⟩
    | succ j => exact ih.2 j c (by simpa using hj)
theorem wk_agg {r q : List CV} (h : WkCs ι n r q) : WkA ι n (.a (.agg r)) (.a (.agg q)) := fun v ρ w hx => by
  obtain ⟨k1, k2⟩ := h.at
  obtain ⟨vs, h1, h2, h3⟩ := hx
  refine ⟨vs, h1, by omega, fun j c hj => ?_⟩
  obtain ⟨y, h4, h5⟩ := k2 j c hj
  obtain ⟨u, h6, h7, h8⟩ := h3 j y h4
  exact ⟨u, h6, h5 _ _ _ h7, h8⟩
theorem wkB_plain {T : TypeId} {m : Nat} {rows rows' : List (List CV)} (hp : PlainB ⟨T, m, rows'⟩) (e : rows = rows') : WkB ι n ⟨T, m, rows⟩ ⟨T, m, rows'⟩ := fun ρ w g o hb => by subst e; exact hb.plain hp
/-- A block of one row: its cells one by one. -/
theorem wkB_row {T : TypeId} {m : Nat} {r q : List CV} (h : WkCs ι n r q) : WkB ι n ⟨T, m, [r]⟩ ⟨T, m, [q]⟩ := fun ρ w g o hb => by
  obtain ⟨k1, k2⟩ := h.at
  obtain ⟨c, fr, h1, h2, h3, h4, h5⟩ := hb
  refine ⟨c, fr, h1, h2, h3, fun i row hi => ?_, fun i j row x hi hj => ?_⟩
  · have : i = 0 := by have := (List.getElem?_eq_some_iff.1 hi).1; simp at this; omega
    subst this
    cases hi
    rw [← k1]
    exact h4 0 r rfl
  · have : i = 0 := by have := (List.getElem?_eq_some_iff.1 hi).1; simp at this; omega
    subst this
    cases hi
    obtain ⟨y, h6, h7⟩ := k2 j x hj
    obtain ⟨v, h8, h9, h10⟩ := h5 0 j r y rfl h6
    exact ⟨v, h8, h7 _ _ _ h9, h10⟩
end
end
end AM
end Go.Proofs.Ytfbnjemmmgobkaa
