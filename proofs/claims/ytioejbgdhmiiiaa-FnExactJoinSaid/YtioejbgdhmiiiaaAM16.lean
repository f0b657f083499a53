/- The abstract machine, 16: code, loops, functions. -/
import Derived.Test.YtioejbgdhmiiiaaAM15
namespace Go.Proofs.Ytioejbgdhmiiiaa
open Go.RowKit
set_option linter.unusedVariables false
set_option linter.unusedSimpArgs false
namespace AM
/-! ### Fewer facts, other numbers -/
def CV.ren (ι : Nat → Nat) : CV → CV
  | .ptr m b i j => .ptr m (ι b) i j
  | .sl m b i n => .sl m (ι b) i n
  | c => c
def A1.ren (ι : Nat → Nat) : A1 → A1
  | .one c => .one (c.ren ι)
  | .agg cs => .agg (cs.map (CV.ren ι))
def AV.ren (ι : Nat → Nat) : AV → AV
  | .a x => .a (x.ren ι)
  | .tup xs => .tup (xs.map (A1.ren ι))
  | .und => .und
def Blk.ren (ι : Nat → Nat) (b : Blk) : Blk := ⟨b.T, b.m, b.rows.map (·.map (CV.ren ι))⟩
/-- From own numbers to others. -/
def Own.ren (ρ : Own) (ι : Nat → Nat) (n : Nat) : Own := ⟨fun b => if b < n then ρ (ι b) else none, ρ.A⟩
structure Weak (n0 : Nat) (ι : Nat → Nat) (t : Slots) (h : Heap) (t2 : Slots) (h2 : Heap) : Prop where
  slots : ∀ i x, get t2 i = some x → get t i = some (x.ren ι)
  refs : ∀ i x, get t2 i = some x → ∀ v ρ w, AR ρ w (x.ren ι) v → AR (ρ.ren ι h2.length) w x v
  heap : ∀ (b : Nat) blk, h2[b]? = some (some blk) → h[ι b]? = some (some (blk.ren ι))
  cells : ∀ (b : Nat) blk, h2[b]? = some (some blk) → ∀ ρ w g o, BlkR ρ w g o (blk.ren ι) → BlkR (ρ.ren ι h2.length) w g o blk
  inj : ∀ b b', b < h2.length → b' < h2.length → ι b = ι b' → b = b'
  low : ∀ b, b < n0 → ι b = b
  long : n0 ≤ h2.length
/-- Between worlds, but for numbers below n alone. -/
structure AdvN (n : Nat) (ρ : Own) (w : World) (ρ' : Own) (w' : World) : Prop where
  os : w'.os = w.os
  tape : w'.tape = w.tape
  output : w'.output = w.output
  size : w.heap.size ≤ w'.heap.size
  blk : ∀ g, g < w.heap.size → (∀ b o, ρ b ≠ some (g, o)) → w'.heap[g]? = w.heap[g]?
  row : ∀ (g : Nat) c T fr, w.heap[g]? = some (.cells c T fr) → ∃ c' fr', w'.heap[g]? = some (.cells c' T fr') ∧ c'.size = c.size
  keep : ∀ b x, b < n → ρ b = some x → ρ' b = some x
  new : ∀ b g o, ρ' b = some (g, o) → (∃ b₀ o₀, ρ b₀ = some (g, o₀)) ∨ w.heap.size ≤ g
  A : ρ'.A = ρ.A
theorem Adv.n {ρ ρ' : Own} {w w' : World} (h : Adv ρ w ρ' w') (n : Nat) : AdvN n ρ w ρ' w' := ⟨h.os, h.tape, h.output, h.size, h.blk, h.row, fun b x _ hb => h.keep b x hb, h.new, h.A⟩
theorem AdvN.full {n : Nat} {ρ ρ' : Own} {w w' : World} (h : AdvN n ρ w ρ' w') (hn : ∀ b x, ρ b = some x → b < n) : Adv ρ w ρ' w' := ⟨h.os, h.tape, h.output, h.size, h.blk, h.row, fun b x hb => h.keep b x (hn b x hb) hb, h.new, h.A⟩
theorem AdvN.trans {n : Nat} {ρ ρ' ρ'' : Own} {w w' w'' : World} (h : AdvN n ρ w ρ' w') (k : AdvN n ρ' w' ρ'' w'') : AdvN n ρ w ρ'' w'' :=
  ⟨k.os.trans h.os, k.tape.trans h.tape, k.output.trans h.output, Nat.le_trans h.size k.size,
   fun g hg hn => (k.blk g (Nat.lt_of_lt_of_le hg h.size) (fun b o hb => by
    rcases h.new b g o hb with ⟨b₀, o₀, h0⟩ | h0
    · exact hn b₀ o₀ h0
    · omega)).trans (h.blk g hg hn),
   fun g c T fr hc => by
    obtain ⟨c', fr', h1, h2⟩ := h.row g c T fr hc
    obtain ⟨c'', fr'', h3, h4⟩ := k.row g c' T fr' h1
    exact ⟨c'', fr'', h3, h4.trans h2⟩,
   fun b x hn hb => k.keep b x hn (h.keep b x hn hb),
   fun b g o hb => by
    rcases k.new b g o hb with ⟨b₀, o₀, h0⟩ | h0
    · exact h.new b₀ g o₀ h0
    · exact .inr (Nat.le_trans h.size h0), k.A.trans h.A⟩
section
variable {ρ : Own} {w w0 : World} {h : Heap} {t : Slots} {N : Nat} {a : Act}
theorem ren_fz {ι : Nat → Nat} {n g : Nat} (h : Fz ρ w g) : Fz (ρ.ren ι n) w g := ⟨h.1, fun b o hb => (by
  unfold Own.ren at hb
  dsimp only at hb
  split at hb
  · exact h.2.1 _ _ hb
  · cases hb), h.2.2⟩
/-- The numbers in a value lie below n. -/
def CV.lt (n : Nat) : CV → Prop
  | .ptr _ b _ _ => b < n
  | .sl _ b _ _ => b < n
  | _ => True
theorem CR.ren {ι : Nat → Nat} {n : Nat} {c : CV} {v : Value} (hc : c.lt n) (hR : CR ρ w (c.ren ι) v) : CR (ρ.ren ι n) w c v := by
  cases c with
  | p x => exact PR.later (fun g hg => ren_fz hg) (fun _ _ _ => rfl) hR
  | vp cells =>
    obtain ⟨g, q, f, h1, h2, h3, h4⟩ := hR
    exact ⟨g, q, f, h1, ren_fz h2, h3, fun j x hj => ⟨(h4 j x hj).1.later (fun g hg => ren_fz hg) (fun _ _ _ => rfl), (h4 j x hj).2⟩⟩
  | ptr m b i j =>
    obtain ⟨g, o, h1, h2⟩ := hR
    exact ⟨g, o, (if_pos hc).trans h1, h2⟩
  | sl m b i k =>
    rcases hR with hR | ⟨g, o, c, h1, h2, h3⟩
    · exact .inl hR
    · exact .inr ⟨g, o, c, (if_pos hc).trans h1, h2, h3⟩
  | nilsl => exact hR
def A1.lt (n : Nat) : A1 → Prop
  | .one c => c.lt n
  | .agg cs => ∀ c ∈ cs, c.lt n
def AV.lt (n : Nat) : AV → Prop
  | .a x => x.lt n
  | .tup xs => ∀ x ∈ xs, x.lt n
  | .und => True
theorem R1.ren {ι : Nat → Nat} {n : Nat} {x : A1} {v : Value} (hx : x.lt n) (hR : R1 ρ w (x.ren ι) v) : R1 (ρ.ren ι n) w x v := by
  cases x with
  | one c => exact ⟨hR.1.ren hx, hR.2⟩
  | agg cs =>
    obtain ⟨vs, h1, h2, h3⟩ := hR
    refine ⟨vs, h1, by simpa using h2, fun j c hj => ?_⟩
    obtain ⟨u, h4, h5, h6⟩ := h3 j (c.ren ι) (by rw [List.getElem?_map, hj]; rfl)
    exact ⟨u, h4, h5.ren (hx c (List.mem_of_getElem? hj)), h6⟩
theorem AR.ren {ι : Nat → Nat} {n : Nat} {x : AV} {v : Value} (hx : x.lt n) (hR : AR ρ w (x.ren ι) v) : AR (ρ.ren ι n) w x v := by
  cases x with
  | a x => exact R1.ren hx hR
  | tup xs =>
    obtain ⟨vs, h1, h2, h3⟩ := hR
    refine ⟨vs, h1, by simpa using h2, fun j c hj => ?_⟩
    obtain ⟨u, h4, h5⟩ := h3 j (c.ren ι) (by rw [List.getElem?_map, hj]; rfl)
    exact ⟨u, h4, h5.ren (hx c (List.mem_of_getElem? hj))⟩
  | und => exact hR
theorem BlkR.ren {ι : Nat → Nat} {n g o : Nat} {blk : Blk} (hx : ∀ row ∈ blk.rows, ∀ c ∈ row, c.lt n) (hR : BlkR ρ w g o (blk.ren ι)) : BlkR (ρ.ren ι n) w g o blk := by
  obtain ⟨c, fr, h1, h2, h3, h4, h5⟩ := hR
  refine ⟨c, fr, h1, h2, by simpa [Blk.ren] using h3, fun i row hi => ?_, fun i j row x hi hj => ?_⟩
  · have := h4 i (row.map (CV.ren ι)) (by simp [Blk.ren, hi])
    simpa [Blk.ren] using this
  · obtain ⟨v, h6, h7, h8⟩ := h5 i j (row.map (CV.ren ι)) (x.ren ι) (by simp [Blk.ren, hi]) (by simp [hj])
    exact ⟨v, h6, h7.ren (hx row (List.mem_of_getElem? hi) x (List.mem_of_getElem? hj)), h8⟩
/-- The weaker state holds too. -/
theorem Rel.weak (hR : Rel t h N w0 ρ a w) {n0 : Nat} {ι : Nat → Nat} {t2 : Slots} {h2 : Heap} (hW : Weak n0 ι t h t2 h2) : Rel t2 h2 N w0 (ρ.ren ι h2.length) a w ∧ AdvN n0 ρ w (ρ.ren ι h2.length) w := by
  have hat : ∀ b x, ρ.ren ι h2.length b = some x → b < h2.length ∧ ρ (ι b) = some x := fun b x hb => by
    unfold Own.ren at hb
    dsimp only at hb
    split at hb
    · rename_i e; exact ⟨e, hb⟩
    · cases hb
  refine ⟨⟨⟨hR.g.below, fun b g o hb => ?_, fun b blk g o h1 hb => ?_, fun b b' blk blk' g o o' h1 h2' hb hb' => ?_, hR.g.past⟩, fun i x hx => hW.refs i x hx _ _ _ (hR.slots i _ (hW.slots i x hx)), hR.size, hR.defers⟩, ⟨rfl, rfl, rfl, Nat.le_refl _, fun _ _ _ => rfl, fun g c T fr hc => ⟨c, fr, hc, rfl⟩, fun b x hb hx => ?_, fun b g o hb => .inl ⟨ι b, o, (hat b _ hb).2⟩, rfl⟩⟩
  · obtain ⟨e1, e2⟩ := hat b _ hb
    obtain ⟨k1, k2, _⟩ := hR.g.lo _ g o e2
    exact ⟨k1, k2, e1⟩
  · obtain ⟨e1, e2⟩ := hat b _ hb
    exact hW.cells b blk h1 _ _ _ _ (hR.g.held _ _ g o (hW.heap b blk h1) e2)
  · obtain ⟨e1, e2⟩ := hat b _ hb
    obtain ⟨e3, e4⟩ := hat b' _ hb'
    exact hW.inj b b' e1 e3 (hR.g.inj _ _ _ _ g o o' (hW.heap b blk h1) (hW.heap b' blk' h2') e2 e4)
  · show (if b < h2.length then ρ (ι b) else none) = some x
    rw [if_pos (Nat.lt_of_lt_of_le hb hW.long), hW.low b hb]
    exact hx
end
/-! ### Code -/
/-- A state that some fewer facts describe. -/
def WeakE (n0 : Nat) (t : Slots) (h : Heap) (t2 : Slots) (h2 : Heap) : Prop := ∃ ι, Weak n0 ι t h t2 h2
def codeE (P : Program) (N n0 : Nat) : Code → Slots → Heap → (Exit → Slots → Heap → Prop) → Prop
  | .skip, t, h, K => K .normal t h
  | .label _, t, h, K => K .normal t h
  | .region _ ops draw, t, h, K => if draw then ∃ k, drawOk ops k N = true ∧ P.follows .mixedOrders = true ∧ chainE P ops N (ops.toList.take k) t h (fun t' h' => opsE P ops N (ops.toList.drop k) t' h' (K .normal)) else opsE P ops N ops.toList t h (K .normal)
  | .seq x y, t, h, K => codeE P N n0 x t h fun e t' h' => match e with
    | .normal => codeE P N n0 y t' h' K
    | e => K e t' h'
  | .cond c x y, t, h, K => ow (evB t c) fun b => (b = true → codeE P N n0 x t h K) ∧ (b = false → codeE P N n0 y t h K)
  | .block id c, t, h, K => codeE P N n0 c t h fun e t' h' => match e with
    | .exit id' => if id' = id then K .normal t' h' else K (.exit id') t' h'
    | e => K e t' h'
  | .loop c, t, h, K => ∃ (I : Nat → Slots → Heap → Prop) (n : Nat), (∃ t2 h2, WeakE n0 t h t2 h2 ∧ I n t2 h2) ∧ ∀ n t h, I n t h → codeE P N n0 c t h fun e t' h' => match e with
    | .normal => ∃ m, m < n ∧ ∃ t2 h2, WeakE n0 t' h' t2 h2 ∧ I m t2 h2
    | e => K e t' h'
  | .exit id, t, h, K => K (.exit id) t h
  | .goto l, t, h, K => K (.goto l) t h
  | .ret, t, h, K => K .ret t h
  | _, _, _, _ => False
theorem wp_loop_rel {P : Program} {Q : Exit → Act → World → Prop} {c : Code} {a : Act} {w : World} (I : Nat → Act → World → Prop) (n : Nat) (h₀ : I n a w) (round : ∀ n a w, I n a w → c.wp P (Exit.then (fun a' w' => ∃ m, m < n ∧ I m a' w') Q) a w) : (Code.loop c).wp P Q a w := by
  intro b k cs
  have key : ∀ n a w, I n a w → ∃ e a' w', Q e a' w' ∧ Arrives P (lone (b.at a (.code c :: .inLoop c :: k)) cs w) b k cs e a' w' := by
    intro n
    induction n using Nat.strongRecOn with
    | _ n ih =>
      intro a w hI
      obtain ⟨e, a₁, w₁, hq, harr⟩ := round n a w hI b (.inLoop c :: k) cs
      cases e with
      | normal =>
        obtain ⟨m, hlt, hI₁⟩ := hq
        obtain ⟨e₂, a₂, w₂, hq₂, harr₂⟩ := ih m hlt a₁ w₁ hI₁
        exact ⟨e₂, a₂, w₂, hq₂, .of_steps (Steps.trans harr (.one step_inLoop)) harr₂⟩
      | exit id => exact ⟨_, a₁, w₁, hq, .pass (x := .inLoop c) rfl (fun _ _ => .inl (by simp)) harr⟩
      | goto l => exact ⟨_, a₁, w₁, hq, .pass (x := .inLoop c) rfl (fun _ _ => .inl (by simp)) harr⟩
      | ret => exact ⟨_, a₁, w₁, hq, .pass (x := .inLoop c) rfl (fun _ _ => .inl (by simp)) harr⟩
      | panic ch => exact ⟨_, a₁, w₁, hq, .pass (x := .inLoop c) rfl (fun _ _ => .inl (by simp)) harr⟩
      | outgrown => exact ⟨_, a₁, w₁, hq, .pass (x := .inLoop c) rfl (fun _ _ => .inl (by simp)) harr⟩
  obtain ⟨e, a', w', hq, harr⟩ := key n a w h₀
  exact ⟨e, a', w', hq, .of_steps (.one step_loop) harr⟩
section
variable {P : Program} {w0 : World} {N n0 : Nat} {ρe : Own} {we : World}
theorem codeE_sound : ∀ (c : Code) (t : Slots) (h : Heap) (K : Exit → Slots → Heap → Prop) (Q : Exit → Act → World → Prop) (ρ : Own) (a : Act) (w : World), codeE P N n0 c t h K → Rel t h N w0 ρ a w → AdvN n0 ρe we ρ w →
    (∀ e t' h' ρ' a' w', K e t' h' → Rel t' h' N w0 ρ' a' w' → AdvN n0 ρe we ρ' w' → Q e a' w') → c.wp P Q a w
  | .skip, t, h, K, Q, ρ, a, w, hE, hR, hA, hQ => wp_skip (hQ _ _ _ _ _ _ hE hR hA)
  | .label _, t, h, K, Q, ρ, a, w, hE, hR, hA, hQ => wp_label (hQ _ _ _ _ _ _ hE hR hA)
  | .region id ops draw, t, h, K, Q, ρ, a, w, hE, hR, hA, hQ => by
    cases draw with
    | true =>
      obtain ⟨k, h1, h2, h3⟩ := hE
      exact draw_sound h2 k h1 hR h3 (fun t' h' ρ' a' w' hK hR' ha => hQ _ _ _ _ _ _ hK hR' (hA.trans (ha.n n0)))
    | false =>
      refine wp_region ?_
      have hE' : opsE P ops N ops.toList t h (K .normal) := hE
      have := opsE_sound (P := P) (ops := ops) (Q := Q) ops.toList 0 t h ρ a w (fun i o hi => by simpa using hi) hR hE' (fun t' h' ρ' a' w' hK hR' ha => hQ _ _ _ _ _ _ hK hR' (hA.trans (ha.n n0)))
      rw [List.range_eq_range']
      simpa using this
  | .seq x y, t, h, K, Q, ρ, a, w, hE, hR, hA, hQ => by
    refine wp_seq (codeE_sound x t h _ _ ρ a w hE hR hA fun e t' h' ρ' a' w' hK hR' hA' => ?_)
    cases e with
    | normal => exact codeE_sound y t' h' K Q ρ' a' w' hK hR' hA' hQ
    | _ => exact hQ _ _ _ _ _ _ hK hR' hA'
  | .cond c x y, t, h, K, Q, ρ, a, w, hE, hR, hA, hQ => by
    obtain ⟨b, h1, h2, h3⟩ := hE
    have hb := evB_R (fun v hv => hR.evO c v hv) h1
    exact wp_cond_split hb (fun e => codeE_sound x t h K Q ρ a w (h2 e) hR hA hQ) (fun e => codeE_sound y t h K Q ρ a w (h3 e) hR hA hQ)
  | .block id c, t, h, K, Q, ρ, a, w, hE, hR, hA, hQ => by
    refine wp_block (codeE_sound c t h _ _ ρ a w hE hR hA fun e t' h' ρ' a' w' hK hR' hA' => ?_)
    cases e with
    | exit id' =>
      dsimp only at hK
      by_cases hid : id' = id
      · rw [if_pos hid] at hK
        simp only [Exit.inBlock, hid, if_true]
        exact hQ _ _ _ _ _ _ hK hR' hA'
      · rw [if_neg hid] at hK
        simp only [Exit.inBlock, hid, if_false]
        exact hQ _ _ _ _ _ _ hK hR' hA'
    | _ => exact hQ _ _ _ _ _ _ hK hR' hA'
  | .loop c, t, h, K, Q, ρ, a, w, hE, hR, hA, hQ => by
    obtain ⟨I, n, ⟨t2, h2, ⟨ι, hW⟩, hI⟩, hround⟩ := hE
    obtain ⟨hR2, hA2⟩ := hR.weak hW
    refine wp_loop_rel (fun n a w => ∃ t h ρ, I n t h ∧ Rel t h N w0 ρ a w ∧ AdvN n0 ρe we ρ w) n ⟨t2, h2, _, hI, hR2, hA.trans hA2⟩ ?_
    rintro n a w ⟨t, h, ρ, hI, hR, hA⟩
    refine codeE_sound c t h _ _ ρ a w (hround n t h hI) hR hA fun e t' h' ρ' a' w' hK hR' hA' => ?_
    cases e with
    | normal =>
      obtain ⟨m, hm, t2, h2, ⟨ι, hW⟩, hI'⟩ := hK
      obtain ⟨hR2, hA2⟩ := hR'.weak hW
      exact ⟨m, hm, t2, h2, _, hI', hR2, hA'.trans hA2⟩
    | _ => exact hQ _ _ _ _ _ _ hK hR' hA'
  | .exit id, t, h, K, Q, ρ, a, w, hE, hR, hA, hQ => wp_exit (hQ _ _ _ _ _ _ hE hR hA)
  | .goto l, t, h, K, Q, ρ, a, w, hE, hR, hA, hQ => wp_goto (hQ _ _ _ _ _ _ hE hR hA)
  | .ret, t, h, K, Q, ρ, a, w, hE, hR, hA, hQ => wp_ret (hQ _ _ _ _ _ _ hE hR hA)
  | .rangeFunc .., t, h, K, Q, ρ, a, w, hE, hR, hA, hQ => hE.elim
  | .scope _, t, h, K, Q, ρ, a, w, hE, hR, hA, hQ => hE.elim
  | .refuse _, t, h, K, Q, ρ, a, w, hE, hR, hA, hQ => hE.elim
end
end AM
end Go.Proofs.Ytioejbgdhmiiiaa
