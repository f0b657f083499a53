/- ChangedPages, the model. -/
import Derived.Test.YtgajpbopfehclaaChangedI
import Derived.StillTailTactics
namespace Go.Proofs.Ytgajpbopfehclaa
open Go.RowKit
set_option linter.unusedSimpArgs false
set_option linter.unusedVariables false

set_option maxHeartbeats 4000000 in
set_option maxRecDepth 100000 in
theorem spec_changed (ea eb : MemoryM) (Sa Sb : Nat → Prop) (va vb : Value) (w : World) (hna : ea.xPages.length ≤ 2097152) (hnb : eb.xPages.length ≤ 2097152) (Ra : MemoryM.Rep w Sa ea va) (Rb : MemoryM.Rep w Sb eb vb) :
    Calls Try.prog 35 #[va, vb] w (AnsInts w (chs ea.xPages eb.xPages eb.xPages.length)) := by
  obtain ⟨la⟩ := ea
  obtain ⟨lb⟩ := eb
  obtain ⟨S3, v3, rfl, R3, hS3⟩ := Ra
  obtain ⟨S4, v4, rfl, R4, hS4⟩ := Rb
  dsimp only at *
  obtain ⟨aa, ga, ca, rfl, hVa, _⟩ := R3.open
  obtain ⟨ab, gb, cb, rfl, hVb, _⟩ := R4.open
  rw [List.length_map, List.length_map]
  have HVA := Lib.hid hVa
  have HVB := Lib.hid hVb
  clear R3 hVa hS3 R4 hVb hS4
  obtain ⟨na, hla⟩ : ∃ n, n = la.length := ⟨_, rfl⟩
  obtain ⟨nb, hlb⟩ : ∃ n, n = lb.length := ⟨_, rfl⟩
  rw [← hla] at hna ⊢
  rw [← hlb] at hnb ⊢
  have HLA := Lib.hid hla
  have HLB := Lib.hid hlb
  have HCN := Lib.hid fun k => chs_len la lb k
  clear hla hlb
  go_enter Try.func35, Try.ntmps35
  go_upto_region 1 with fail
  obtain ⟨w1, hw_⟩ : ∃ x, x = ((w.alloc (.cells #[.slice aa na ca] 24)).alloc (.cells #[.slice ab nb cb] 24)) := ⟨_, rfl⟩
  have hb1 : Below w.heap.size w w1 := hw_ ▸ below_comp (below_new _) (below_new _)
  have HP0 : Hid (Box w1 (w.heap.size) #[.slice aa na ca] 24) := Lib.hid (by rw [hw_]; repeat (first | (with_reducible exact HP0.out) | (with_reducible exact HP1.out) | (with_reducible exact HP2.out) | (with_reducible exact HP3.out) | (with_reducible exact HP4.out) | (with_reducible exact HP5.out) | (with_reducible exact HP6.out) | (with_reducible exact HP7.out) | (with_reducible exact HP8.out) | (with_reducible exact HP9.out) | (with_reducible exact HP10.out) | (with_reducible exact HP11.out) | (with_reducible exact HQ0.out) | (with_reducible exact HQ1.out) | (with_reducible exact HQ2.out) | (with_reducible exact HQ3.out) | (with_reducible apply Box.new) | (with_reducible apply Box.newAt; simp; done) | (with_reducible apply Box.set) | (with_reducible apply Box.skip; omega) | (with_reducible apply Box.alloc) | (with_reducible apply Box.drew) | (with_reducible apply Box.row) | (with_reducible apply Box.skipRow; omega)))
  have hl0 : w.heap.size < w1.heap.size := HP0.out.lt
  have HP1 : Hid (Box w1 (w.heap.size + 1) #[.slice ab nb cb] 24) := Lib.hid (by rw [hw_]; repeat (first | (with_reducible exact HP0.out) | (with_reducible exact HP1.out) | (with_reducible exact HP2.out) | (with_reducible exact HP3.out) | (with_reducible exact HP4.out) | (with_reducible exact HP5.out) | (with_reducible exact HP6.out) | (with_reducible exact HP7.out) | (with_reducible exact HP8.out) | (with_reducible exact HP9.out) | (with_reducible exact HP10.out) | (with_reducible exact HP11.out) | (with_reducible exact HQ0.out) | (with_reducible exact HQ1.out) | (with_reducible exact HQ2.out) | (with_reducible exact HQ3.out) | (with_reducible apply Box.new) | (with_reducible apply Box.newAt; simp; done) | (with_reducible apply Box.set) | (with_reducible apply Box.skip; omega) | (with_reducible apply Box.alloc) | (with_reducible apply Box.drew) | (with_reducible apply Box.row) | (with_reducible apply Box.skipRow; omega)))
  have hl1 : w.heap.size + 1 < w1.heap.size := HP1.out.lt
  rw [← hw_]
  clear hw_
  have k0_0 := HP0.out.cell 0 (by simp)
  have fr0 := fun o => HP0.out.frozen o
  (try simp only [List.getElem_toArray, List.getElem_cons_zero, List.getElem_cons_succ] at k0_0)
  have k1_0 := HP1.out.cell 0 (by simp)
  have fr1 := fun o => HP1.out.frozen o
  (try simp only [List.getElem_toArray, List.getElem_cons_zero, List.getElem_cons_succ] at k1_0)
  go_wp2
  go_loopw [5, 6] (fun v i wr => ∃ k : Nat, k ≤ nb ∧ i = .int .i64 k ∧ ∃ p q, v = .slice p (chs la lb k).length q ∧ Hid (Ownd wr (w.heap.size + 2) 3 1 (.slice p (chs la lb k).length q) ((chs la lb k).map intrA)) ∧ Hid (Box wr w.heap.size #[.slice aa na ca] 24) ∧ Hid (Box wr (w.heap.size + 1) #[.slice ab nb cb] 24) ∧ Hid (Below w.heap.size w wr) ∧ w.heap.size + 2 ≤ wr.heap.size) (fun _ i _ => nb + 1 - (intOf i).toNat)
  case atStart => exact ⟨0, by omega, rfl, some ⟨w1.heap.size, 0, none⟩, 0, rfl, Lib.hid (Ownd.nil _ _ _ _ _), Lib.hid (HP0.out.later (below_new _)), Lib.hid (HP1.out.later (below_new _)), Lib.hid (below_comp hb1 (below_new _)), by simp; omega⟩
  case round =>
    clear k0_0 k1_0 fr0 fr1 HP0 HP1 hl0 hl1 hb1
    obtain ⟨k, hk, rfl, p, q, rfl, HO, HP0, HP1, HB, hz⟩ := hrel
    obtain ⟨n, hn⟩ : ∃ n, n = (chs la lb k).length := ⟨_, rfl⟩
    have HO2 := HO
    rw [← hn] at HO ⊢
    have HCL := Lib.hid hn
    clear hn
    by_cases hlt : k < nb
    · have hkb : k < lb.length := by have := HLB.out; omega
      have hneb : lb.map strrA ≠ [] := fun e => by simp at e; rw [e] at hkb; simp at hkb
      have hVb := HVB.out.later HB.out
      obtain ⟨eab, egb⟩ := hVb.1 hneb
      subst eab
      have db : wr.cell? ⟨gb, k, none⟩ = some (.string lb[k]) := by have := hVb.2 k (strrA lb[k]) (by simp [hkb]) 0 (by omega); simpa [strrA] using this
      clear hneb hVb
      have e1 : (k : Int) < (nb : Int) := by omega
      have e0 : (0 : Int) ≤ (k : Int) := by omega
      have k0_0 := HP0.out.cell 0 (by simp)
      have k1_0 := HP1.out.cell 0 (by simp)
      simp only [List.getElem_toArray, List.getElem_cons_zero] at k0_0 k1_0
      have fr0 := fun o => HP0.out.frozen o
      have fr1 := fun o => HP1.out.frozen o
      by_cases hka' : k < na
      · have hka : k < la.length := by have := HLA.out; omega
        have hnea : la.map strrA ≠ [] := fun e => by simp at e; rw [e] at hka; simp at hka
        have hVa := HVA.out.later HB.out
        obtain ⟨eaa, ega⟩ := hVa.1 hnea
        subst eaa
        have da : wr.cell? ⟨ga, k, none⟩ = some (.string la[k]) := by have := hVa.2 k (strrA la[k]) (by simp [hka]) 0 (by omega); simpa [strrA] using this
        clear hnea hVa
        by_cases hx : (la[k].toList == lb[k].toList) = true
        · have HST := Lib.hid (chs_no (a := la) (b := lb) (k := k) (by rw [chB_in hka hkb, hx]; rfl))
          have hx2 := (BEq.comm (a := lb[k].toList) (b := la[k].toList)).trans hx
          generalize la[k] = xa at da hx hx2
          generalize lb[k] = xb at db hx hx2
          go_upto_region 5 with fail
          go_quiet (fail)
          obtain ⟨wq, hwq⟩ : ∃ x, x = wr.drewN nq := ⟨_, rfl⟩
          have hbq : Below wr.heap.size wr wq := by rw [hwq]; exact ⟨rfl, rfl, rfl, Nat.le_refl _, fun _ _ => rfl⟩
          have hzq : w.heap.size + 2 ≤ wq.heap.size := Nat.le_trans hz hbq.size
          rw [← hwq]
          clear hwq
          replace HO2 := Lib.hid (HO2.out.later hbq)
          replace HO := Lib.hid (HO.out.later hbq)
          replace HP0 := Lib.hid (HP0.out.later hbq)
          replace HP1 := Lib.hid (HP1.out.later hbq)
          replace HB := Lib.hid (below_comp HB.out hbq)
          go_wp2
          go_roundw
          case rel => exact ⟨k + 1, by omega, by go_num, p, q, by rw [HST.out, HCL.out], by rw [HST.out]; exact HO2, HP0, HP1, HB, by simpa using hzq⟩
          case measure => simp [intOf]; omega
        · have hx := Bool.eq_false_iff.2 hx
          have HST := Lib.hid (chs_yes (a := la) (b := lb) (k := k) (by rw [chB_in hka hkb, hx]; rfl))
          have hx2 := (BEq.comm (a := lb[k].toList) (b := la[k].toList)).trans hx
          generalize la[k] = xa at da hx hx2
          generalize lb[k] = xb at db hx hx2
          go_upto_region 5 with fail
          go_quiet (fail)
          obtain ⟨wq, hwq⟩ : ∃ x, x = wr.drewN nq := ⟨_, rfl⟩
          have hbq : Below wr.heap.size wr wq := by rw [hwq]; exact ⟨rfl, rfl, rfl, Nat.le_refl _, fun _ _ => rfl⟩
          have hzq : w.heap.size + 2 ≤ wq.heap.size := Nat.le_trans hz hbq.size
          rw [← hwq]
          clear hwq
          replace HO2 := Lib.hid (HO2.out.later hbq)
          replace HO := Lib.hid (HO.out.later hbq)
          replace HP0 := Lib.hid (HP0.out.later hbq)
          replace HP1 := Lib.hid (HP1.out.later hbq)
          replace HB := Lib.hid (below_comp HB.out hbq)
          go_wp2_with (refine wpList_append_e rfl (.tmp 33) (.tmp 35) rfl (B := w.heap.size + 2) elem_int el_int (v := .slice p (chs la lb k).length q) (xs := chs la lb k) (by rw [← HCL.out]; simp [go_sem, Act.eval]) (by exact HO2.out.later (by repeat (first | with_reducible exact Below.refl _ _ | with_reducible exact below_new _ | with_reducible exact below_drew | with_reducible exact HB9.out | with_reducible exact HB8.out | with_reducible exact HB7.out | with_reducible exact HB6.out | with_reducible exact HB5.out | with_reducible exact HB4.out | with_reducible exact HB3.out | with_reducible exact HB2.out | with_reducible exact HB1.out | ((with_reducible refine Below.setCell ?_ ?_ _); rotate_left; first | omega | (dsimp only; omega) | (simp; done) | (simp; omega)) | ((with_reducible refine below_setRow ?_ ?_ _); rotate_left; first | omega | (dsimp only; omega) | (simp; done) | (simp; omega)) | (with_reducible apply below_comp; rotate_left; first | with_reducible exact HB9.out | with_reducible exact HB8.out | with_reducible exact HB7.out | with_reducible exact HB6.out | with_reducible exact HB5.out | with_reducible exact HB4.out | with_reducible exact HB3.out | with_reducible exact HB2.out | with_reducible exact HB1.out | with_reducible assumption | with_reducible exact below_new _ | with_reducible exact below_drew)))) (a := some ⟨wq.heap.size, 0, none⟩) (g := wq.heap.size) (o := 0) 1 (ys := [(k : Int)]) (by simp [go_sem, Act.eval]) (by exact ViewAt.lit (Box.new _ _ _)) (by have := HCN.out k; simp only [List.length_cons, List.length_nil]; omega) (by simp; omega) ?_; intro v5 w5 ho ht)
          obtain ⟨p5, q5, hf5⟩ := ho.form
          rw [List.length_map, ← HST.out] at hf5
          subst hf5
          rw [← HST.out] at ho
          have HO5 := Lib.hid ho
          have HB5 := Lib.hid (OB.below (below_comp HB.out (by repeat (first | with_reducible exact Below.refl _ _ | with_reducible exact below_new _ | with_reducible exact below_drew | with_reducible exact HB9.out | with_reducible exact HB8.out | with_reducible exact HB7.out | with_reducible exact HB6.out | with_reducible exact HB5.out | with_reducible exact HB4.out | with_reducible exact HB3.out | with_reducible exact HB2.out | with_reducible exact HB1.out | ((with_reducible refine Below.setCell ?_ ?_ _); rotate_left; first | omega | (dsimp only; omega) | (simp; done) | (simp; omega)) | ((with_reducible refine below_setRow ?_ ?_ _); rotate_left; first | omega | (dsimp only; omega) | (simp; done) | (simp; omega)) | (with_reducible apply below_comp; rotate_left; first | with_reducible exact HB9.out | with_reducible exact HB8.out | with_reducible exact HB7.out | with_reducible exact HB6.out | with_reducible exact HB5.out | with_reducible exact HB4.out | with_reducible exact HB3.out | with_reducible exact HB2.out | with_reducible exact HB1.out | with_reducible assumption | with_reducible exact below_new _ | with_reducible exact below_drew)))) ht (by omega))
          have HP05 := Lib.hid ((HP0.out.later (by repeat (first | with_reducible exact Below.refl _ _ | with_reducible exact below_new _ | with_reducible exact below_drew | with_reducible exact HB9.out | with_reducible exact HB8.out | with_reducible exact HB7.out | with_reducible exact HB6.out | with_reducible exact HB5.out | with_reducible exact HB4.out | with_reducible exact HB3.out | with_reducible exact HB2.out | with_reducible exact HB1.out | ((with_reducible refine Below.setCell ?_ ?_ _); rotate_left; first | omega | (dsimp only; omega) | (simp; done) | (simp; omega)) | ((with_reducible refine below_setRow ?_ ?_ _); rotate_left; first | omega | (dsimp only; omega) | (simp; done) | (simp; omega)) | (with_reducible apply below_comp; rotate_left; first | with_reducible exact HB9.out | with_reducible exact HB8.out | with_reducible exact HB7.out | with_reducible exact HB6.out | with_reducible exact HB5.out | with_reducible exact HB4.out | with_reducible exact HB3.out | with_reducible exact HB2.out | with_reducible exact HB1.out | with_reducible assumption | with_reducible exact below_new _ | with_reducible exact below_drew)))).touch ht (fun h => by have := h.1; omega))
          have HP15 := Lib.hid ((HP1.out.later (by repeat (first | with_reducible exact Below.refl _ _ | with_reducible exact below_new _ | with_reducible exact below_drew | with_reducible exact HB9.out | with_reducible exact HB8.out | with_reducible exact HB7.out | with_reducible exact HB6.out | with_reducible exact HB5.out | with_reducible exact HB4.out | with_reducible exact HB3.out | with_reducible exact HB2.out | with_reducible exact HB1.out | ((with_reducible refine Below.setCell ?_ ?_ _); rotate_left; first | omega | (dsimp only; omega) | (simp; done) | (simp; omega)) | ((with_reducible refine below_setRow ?_ ?_ _); rotate_left; first | omega | (dsimp only; omega) | (simp; done) | (simp; omega)) | (with_reducible apply below_comp; rotate_left; first | with_reducible exact HB9.out | with_reducible exact HB8.out | with_reducible exact HB7.out | with_reducible exact HB6.out | with_reducible exact HB5.out | with_reducible exact HB4.out | with_reducible exact HB3.out | with_reducible exact HB2.out | with_reducible exact HB1.out | with_reducible assumption | with_reducible exact below_new _ | with_reducible exact below_drew)))).touch ht (fun h => by have := h.1; omega))
          have hz5 := ht.size
          have hz6 : w.heap.size + 2 ≤ w5.heap.size := by simp at hz5; omega
          clear ho ht hz5
          go_roundw
          case rel => exact ⟨k + 1, by omega, by go_num, p5, q5, rfl, HO5, HP05, HP15, HB5, hz6⟩
          case measure => simp [intOf]; omega
      · have HST := Lib.hid (chs_yes (a := la) (b := lb) (k := k) (chB_out (by have := HLA.out; omega) hkb))
        generalize lb[k] = xb at db
        go_upto_region 5 with fail
        go_quiet (fail)
        obtain ⟨wq, hwq⟩ : ∃ x, x = wr.drewN nq := ⟨_, rfl⟩
        have hbq : Below wr.heap.size wr wq := by rw [hwq]; exact ⟨rfl, rfl, rfl, Nat.le_refl _, fun _ _ => rfl⟩
        have hzq : w.heap.size + 2 ≤ wq.heap.size := Nat.le_trans hz hbq.size
        rw [← hwq]
        clear hwq
        replace HO2 := Lib.hid (HO2.out.later hbq)
        replace HO := Lib.hid (HO.out.later hbq)
        replace HP0 := Lib.hid (HP0.out.later hbq)
        replace HP1 := Lib.hid (HP1.out.later hbq)
        replace HB := Lib.hid (below_comp HB.out hbq)
        go_wp2_with (refine wpList_append_e rfl (.tmp 33) (.tmp 35) rfl (B := w.heap.size + 2) elem_int el_int (v := .slice p (chs la lb k).length q) (xs := chs la lb k) (by rw [← HCL.out]; simp [go_sem, Act.eval]) (by exact HO2.out.later (by repeat (first | with_reducible exact Below.refl _ _ | with_reducible exact below_new _ | with_reducible exact below_drew | with_reducible exact HB9.out | with_reducible exact HB8.out | with_reducible exact HB7.out | with_reducible exact HB6.out | with_reducible exact HB5.out | with_reducible exact HB4.out | with_reducible exact HB3.out | with_reducible exact HB2.out | with_reducible exact HB1.out | ((with_reducible refine Below.setCell ?_ ?_ _); rotate_left; first | omega | (dsimp only; omega) | (simp; done) | (simp; omega)) | ((with_reducible refine below_setRow ?_ ?_ _); rotate_left; first | omega | (dsimp only; omega) | (simp; done) | (simp; omega)) | (with_reducible apply below_comp; rotate_left; first | with_reducible exact HB9.out | with_reducible exact HB8.out | with_reducible exact HB7.out | with_reducible exact HB6.out | with_reducible exact HB5.out | with_reducible exact HB4.out | with_reducible exact HB3.out | with_reducible exact HB2.out | with_reducible exact HB1.out | with_reducible assumption | with_reducible exact below_new _ | with_reducible exact below_drew)))) (a := some ⟨wq.heap.size, 0, none⟩) (g := wq.heap.size) (o := 0) 1 (ys := [(k : Int)]) (by simp [go_sem, Act.eval]) (by exact ViewAt.lit (Box.new _ _ _)) (by have := HCN.out k; simp only [List.length_cons, List.length_nil]; omega) (by simp; omega) ?_; intro v5 w5 ho ht)
        obtain ⟨p5, q5, hf5⟩ := ho.form
        rw [List.length_map, ← HST.out] at hf5
        subst hf5
        rw [← HST.out] at ho
        have HO5 := Lib.hid ho
        have HB5 := Lib.hid (OB.below (below_comp HB.out (by repeat (first | with_reducible exact Below.refl _ _ | with_reducible exact below_new _ | with_reducible exact below_drew | with_reducible exact HB9.out | with_reducible exact HB8.out | with_reducible exact HB7.out | with_reducible exact HB6.out | with_reducible exact HB5.out | with_reducible exact HB4.out | with_reducible exact HB3.out | with_reducible exact HB2.out | with_reducible exact HB1.out | ((with_reducible refine Below.setCell ?_ ?_ _); rotate_left; first | omega | (dsimp only; omega) | (simp; done) | (simp; omega)) | ((with_reducible refine below_setRow ?_ ?_ _); rotate_left; first | omega | (dsimp only; omega) | (simp; done) | (simp; omega)) | (with_reducible apply below_comp; rotate_left; first | with_reducible exact HB9.out | with_reducible exact HB8.out | with_reducible exact HB7.out | with_reducible exact HB6.out | with_reducible exact HB5.out | with_reducible exact HB4.out | with_reducible exact HB3.out | with_reducible exact HB2.out | with_reducible exact HB1.out | with_reducible assumption | with_reducible exact below_new _ | with_reducible exact below_drew)))) ht (by omega))
        have HP05 := Lib.hid ((HP0.out.later (by repeat (first | with_reducible exact Below.refl _ _ | with_reducible exact below_new _ | with_reducible exact below_drew | with_reducible exact HB9.out | with_reducible exact HB8.out | with_reducible exact HB7.out | with_reducible exact HB6.out | with_reducible exact HB5.out | with_reducible exact HB4.out | with_reducible exact HB3.out | with_reducible exact HB2.out | with_reducible exact HB1.out | ((with_reducible refine Below.setCell ?_ ?_ _); rotate_left; first | omega | (dsimp only; omega) | (simp; done) | (simp; omega)) | ((with_reducible refine below_setRow ?_ ?_ _); rotate_left; first | omega | (dsimp only; omega) | (simp; done) | (simp; omega)) | (with_reducible apply below_comp; rotate_left; first | with_reducible exact HB9.out | with_reducible exact HB8.out | with_reducible exact HB7.out | with_reducible exact HB6.out | with_reducible exact HB5.out | with_reducible exact HB4.out | with_reducible exact HB3.out | with_reducible exact HB2.out | with_reducible exact HB1.out | with_reducible assumption | with_reducible exact below_new _ | with_reducible exact below_drew)))).touch ht (fun h => by have := h.1; omega))
        have HP15 := Lib.hid ((HP1.out.later (by repeat (first | with_reducible exact Below.refl _ _ | with_reducible exact below_new _ | with_reducible exact below_drew | with_reducible exact HB9.out | with_reducible exact HB8.out | with_reducible exact HB7.out | with_reducible exact HB6.out | with_reducible exact HB5.out | with_reducible exact HB4.out | with_reducible exact HB3.out | with_reducible exact HB2.out | with_reducible exact HB1.out | ((with_reducible refine Below.setCell ?_ ?_ _); rotate_left; first | omega | (dsimp only; omega) | (simp; done) | (simp; omega)) | ((with_reducible refine below_setRow ?_ ?_ _); rotate_left; first | omega | (dsimp only; omega) | (simp; done) | (simp; omega)) | (with_reducible apply below_comp; rotate_left; first | with_reducible exact HB9.out | with_reducible exact HB8.out | with_reducible exact HB7.out | with_reducible exact HB6.out | with_reducible exact HB5.out | with_reducible exact HB4.out | with_reducible exact HB3.out | with_reducible exact HB2.out | with_reducible exact HB1.out | with_reducible assumption | with_reducible exact below_new _ | with_reducible exact below_drew)))).touch ht (fun h => by have := h.1; omega))
        have hz5 := ht.size
        have hz6 : w.heap.size + 2 ≤ w5.heap.size := by simp at hz5; omega
        clear ho ht hz5
        go_roundw
        case rel => exact ⟨k + 1, by omega, by go_num, p5, q5, rfl, HO5, HP05, HP15, HB5, hz6⟩
        case measure => simp [intOf]; omega
    · obtain rfl : k = nb := by omega
      have k1_0 := HP1.out.cell 0 (by simp)
      simp only [List.getElem_toArray, List.getElem_cons_zero] at k1_0
      have fr1 := fun o => HP1.out.frozen o
      go_wp2
      go_ret
      rw [HCL.out]
      have hr := (HO2.out.row (el_int.sizes _)).mono (S' := Rng w.heap.size wr.heap.size) (fun j hj => ⟨by have := hj.1; omega, hj.2⟩)
      exact ⟨_, rfl, hr, HB.out⟩

end Go.Proofs.Ytgajpbopfehclaa
