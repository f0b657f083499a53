/- DrawPacing gives a valid bucket. -/
import Derived.Test.YtdcjbojigmgcgabDrawNum
import Derived.Test.YtdcjbojigmgcgabBoxes
import Derived.Test.YtdcjbojigmgcgabBuckOk
import Derived.Test.YtdcjbojigmgcgabOwnInts
namespace Go.Proofs.Ytdcjbojigmgcgab
open Go.RowKit
set_option linter.unusedSimpArgs false
set_option linter.unusedVariables false
theorem Box.grown {w w' : World} {g b : Nat} {vs : Array Value} {t : TypeId} (h : Box w b vs t) (hg : w.grownBy w' (some g)) (hne : b ≠ g) : Box w' b vs t :=
  (hg.block b h.lt (fun e => hne (Option.some.inj e))).trans h
theorem Cur.set {w : World} {B g b j : Nat} {A : Option Addr} {len cap : Nat} {v : Value} (hne : b ≠ g) (hB : B ≤ b) (h : Cur w B g A len cap) : Cur (w.setCell ⟨b, j, none⟩ v) B g A len cap := by
  obtain ⟨hcode, hlo, i, x, hi, hblk⟩ := h
  exact ⟨hcode.below ((Below.refl _ _).setCell (p := ⟨b, j, none⟩) hB v), hlo, i, x, hi, (heap_setCell_other w ⟨b, j, none⟩ g v (Ne.symm hne)).trans hblk⟩
def Pace (e : BucketM) : Prop := e.Ok ∧ e.xBurst ≤ 400 ∧ e.xRate ≤ 100
theorem pace_mk {ra bu tk : Int} (h1 : 0 ≤ ra) (h2 : ra ≤ 100) (h3 : 0 ≤ bu) (h4 : bu ≤ 400) (h5 : 0 ≤ tk) (h6 : tk ≤ bu) : Pace ⟨ra, bu, tk⟩ := by
  unfold Pace BucketM.Ok; dsimp only; omega
set_option maxHeartbeats 2000000 in
set_option maxRecDepth 100000 in
theorem bucket_any (B0 : Nat) (A : Option Addr) (len cap : Nat) (w : World) (hc : Cur w B0 B0 A len cap) :
    Calls Try.prog 44 #[.pointer (some ⟨B0, 0, none⟩)] w fun e w' => ∃ b : BucketM, Pace b ∧ e = .returned b.val ∧ Cur w' B0 B0 A len cap ∧ Below B0 w w' := by
  have HC := Lib.hid hc
  have hlt := hc.lt
  clear hc
  go_enter Try.func44, Try.ntmps44
  go_wp2_with fail
  refine (pick_any 5 5 (w.heap.size + 1) (fun v => 0 ≤ v ∧ v ≤ 100) B0 B0 A len cap _ ((HC.out.alloc _).alloc _) (by omega) (by omega) (by omega) ?_).mono ?_
  · intro j hj
    rw [cell_of_row _ _ j _ _ _ (heap_alloc2_new _ _ _)]
    have hj' : j = 0 ∨ j = 1 ∨ j = 2 ∨ j = 3 ∨ j = 4 := by omega
    rcases hj' with rfl | rfl | rfl | rfl | rfl <;> refine ⟨_, ?_, rfl⟩ <;> decide
  rintro e w1 ⟨ra, hra, rfl, hc1, hg1⟩
  have hz1 := hg1.size
  simp at hz1
  have K1 : Box w1 w.heap.size #[.int .i64 0, .int .i64 0, .int .i64 0] 37 := ((Box.new w _ _).alloc _).grown hg1 (by omega)
  have hb1 : Below B0 w w1 := below_of_cur (((Below.refl _ _).alloc (by omega) _).alloc (by simp; omega) _) (by simp; omega) hg1 (Nat.le_refl _)
  have HC1 := Lib.hid hc1
  have HK1 := Lib.hid K1
  have HB1 := Lib.hid hb1
  clear hc1 K1 hb1 hg1
  go_wp2_with fail
  refine (pick_any 4 4 w1.heap.size (fun v => 0 ≤ v ∧ v ≤ 400) B0 B0 A len cap _ (HC1.out.alloc _) (by omega) (by omega) (by omega) ?_).mono ?_
  · intro j hj
    rw [cell_of_row _ _ j _ _ _ (heap_alloc_new _ _)]
    have hj' : j = 0 ∨ j = 1 ∨ j = 2 ∨ j = 3 := by omega
    rcases hj' with rfl | rfl | rfl | rfl <;> refine ⟨_, ?_, rfl⟩ <;> decide
  rintro e w2 ⟨bu, hbu, rfl, hc2, hg2⟩
  have hz2 := hg2.size
  simp at hz2
  have K2 : Box w2 w.heap.size #[.int .i64 0, .int .i64 0, .int .i64 0] 37 := (HK1.out.alloc _).grown hg2 (by omega)
  have hb2 : Below B0 w w2 := below_of_cur (HB1.out.alloc (by omega) _) (by simp; omega) hg2 (Nat.le_refl _)
  have HC2 := Lib.hid hc2
  have HK2 := Lib.hid K2
  have HB2 := Lib.hid hb2
  clear hc2 K2 hb2 hg2
  obtain ⟨bu0, bu1⟩ := hbu
  go_wp2_with fail
  refine (below_any (bu + 1) B0 B0 A len cap _ (HC2.out.alloc _) (by omega) (by omega)).mono ?_
  rintro e w3 ⟨tk, to0, to1, rfl, hc3, hg3⟩
  have hz3 := hg3.size
  simp at hz3
  have K3 : Box w3 w.heap.size #[.int .i64 0, .int .i64 0, .int .i64 0] 37 := (HK2.out.alloc _).grown hg3 (by omega)
  have L3 : Box w3 w2.heap.size #[.int .i64 ra, .int .i64 bu, .int .i64 0] 37 := (Box.new w2 _ _).grown hg3 (by omega)
  have hb3 : Below B0 w w3 := below_of_cur (HB2.out.alloc (by omega) _) (by simp; omega) hg3 (Nat.le_refl _)
  have HC3 := Lib.hid hc3
  have HP0 := Lib.hid K3
  have HP1 := Lib.hid L3
  have HB3 := Lib.hid hb3
  have k0 := K3.cell 0 (by simp)
  have k1 := K3.cell 1 (by simp)
  have k2 := K3.cell 2 (by simp)
  have l0 := L3.cell 0 (by simp)
  have l1 := L3.cell 1 (by simp)
  have l2 := L3.cell 2 (by simp)
  have f0 := fun o => K3.frozen o
  have f1 := fun o => L3.frozen o
  simp only [List.getElem_toArray, List.getElem_cons_zero, List.getElem_cons_succ] at k0 k1 k2 l0 l1 l2
  have hne : w.heap.size < w2.heap.size := by omega
  clear hc3 K3 L3 hb3 hg3
  go_wp2
  apply bodyPost_row (g := w.heap.size) rfl rfl Try.underlying37 rfl
  focus (repeat (first | (with_reducible exact HP0.out) | (with_reducible exact HP1.out) | (with_reducible exact HP2.out) | (with_reducible exact HP3.out) | (with_reducible exact HQ0.out) | (with_reducible exact HQ1.out) | (with_reducible exact HQ2.out) | (with_reducible exact HQ3.out) | (with_reducible apply Box.new) | (with_reducible apply Box.newAt; simp; done) | (with_reducible apply Box.set) | (with_reducible apply Box.skip; omega) | (with_reducible apply Box.alloc) | (with_reducible apply Box.row) | (with_reducible apply Box.skipRow; omega)))
  focus (kernel_rfl)
  focus (rfl)
  try simp only [List.setIfInBounds_toArray, List.set_cons_zero, List.set_cons_succ]
  refine ⟨⟨ra, bu, tk⟩, pace_mk hra.1 hra.2 bu0 bu1 to0 (by omega), rfl, ?_, ?_⟩
  · repeat (with_reducible apply Cur.set; omega; omega)
    exact HC3.out
  · repeat (with_reducible refine Below.setCell ?_ (by first | omega | (dsimp only; omega)) _)
    exact HB3.out
theorem Cur.kept {w w' : World} {B0 : Nat} {A : Option Addr} {len cap : Nat} (h : Cur w B0 B0 A len cap) (hb : Below (B0 + 1) w w') : Cur w' B0 B0 A len cap := by
  obtain ⟨hcode, hlo, i, x, hi, hblk⟩ := h
  exact ⟨hcode.below (hb.mono (by omega)), hlo, i, x, hi, (hb.block _ (by omega)).trans hblk⟩
theorem owns_lower {w : World} {B B' : Nat} {e : TypeId} {size n : Nat} {v : Value} {xs : List Value} (h : w.ownsRow B e size v n xs) (hb : B' ≤ B) : w.ownsRow B' e size v n xs := by
  obtain ⟨hl, h | ⟨g, cap, cur, h1, h2, h3⟩⟩ := h
  · exact ⟨hl, .inl h⟩
  · exact ⟨hl, .inr ⟨g, cap, cur, h1, Nat.le_trans hb h2, h3⟩⟩
def lenPost (B0 : Nat) (A : Option Addr) (len cap : Nat) (w : World) (e : Ending) (w' : World) : Prop := ∃ v, e = .returned v ∧ Cur w' B0 B0 A len cap ∧ w.grownBy w' (some B0)
theorem grown_push {w w2 w3 : World} {B0 k : Nat} {e : TypeId} {v : Value} {xs : List Value} {o : Obj} (h : w.grownBy w2 (some B0)) (hown : w2.ownsRow w.heap.size e 1 v k xs) (hg : (w2.alloc o).grownBy w3 v.ownBlock) : w.grownBy w3 (some B0) := by
  have hz := h.size
  have hz2 := hg.size
  refine ⟨hg.os.trans h.os, hg.tape.trans h.tape, hg.output.trans h.output, by simp at hz2; omega, fun j hj hne => ?_⟩
  have h1 := hg.block j (by simp; omega) (fun e => by have := (hown.lt j e.symm).1; omega)
  exact h1.trans ((heap_alloc_old w2 o (by omega)).trans (h.block j hj hne))
set_option maxHeartbeats 2000000 in
set_option maxRecDepth 100000 in
theorem lengths_any (B0 : Nat) (A : Option Addr) (len cap : Nat) (w : World) (hc : Cur w B0 B0 A len cap) :
    Calls Try.prog 45 #[.pointer (some ⟨B0, 0, none⟩)] w (lenPost B0 A len cap w) := by
  have HC := Lib.hid hc
  have hlt := hc.lt
  clear hc
  go_enter Try.func45, Try.ntmps45
  go_wp2_with fail
  refine (below_any 8 B0 B0 A len cap _ (HC.out.alloc _) (by omega) (by omega)).mono ?_
  rintro e w1 ⟨x, x0, x1, rfl, hc1, hg1⟩
  have hz1 := hg1.size
  simp at hz1
  obtain ⟨n, rfl⟩ : ∃ n : Nat, x = n := ⟨x.toNat, by omega⟩
  have hb1 : w.grownBy w1 (some B0) := (World.grownBy_alloc w _ _).trans hg1
  have ho1 : w1.ownsRow w.heap.size 3 1 (.slice (some ⟨w.heap.size, 0, none⟩) 0 0) 0 [] := (show (w.alloc (.cells #[] 3)).ownsRow w.heap.size 3 1 (.slice (some ⟨w.heap.size, 0, none⟩) 0 0) 0 [] from World.ownsRow_lit w #[] 0 (by omega) (by unfold maxLen; omega) rfl).kept hg1 (.inr (by simp [Value.ownBlock]; omega))
  have HC1 := Lib.hid hc1
  have HB1 := Lib.hid hb1
  have HO1 := Lib.hid ho1
  clear hc1 hb1 hg1 ho1
  go_wp2
  go_loopw [3, 4] (fun v i wr => ∃ k : Nat, k ≤ n ∧ i = .int .i64 ((n : Int) - k) ∧ Hid (∃ xs, wr.ownsRow w.heap.size 3 1 v k xs) ∧ Hid (Cur wr B0 B0 A len cap) ∧ Hid (w.grownBy wr (some B0)) ∧ w.heap.size ≤ wr.heap.size) (fun _ i _ => (intOf i).toNat + 1)
  case atStart => exact ⟨0, Nat.zero_le _, by simp, Lib.hid ⟨_, HO1.out⟩, HC1, HB1, by omega⟩
  case round =>
    obtain ⟨k, hk, rfl, HO, HCk, HBk, hzk⟩ := hrel
    by_cases hlt : k < n
    · have e1 : 0 < (n : Int) - (k : Int) := by omega
      have e2 : (n : Int) - (k : Int) ≤ 8 := by omega
      go_wp2_with fail
      refine (below_any 60 B0 B0 A len cap _ HCk.out (by omega) (by omega)).mono ?_
      rintro e w2 ⟨y, y0, y1, rfl, hc2, hg2⟩
      have hz2 := hg2.size
      have HC2 := Lib.hid hc2
      have HB2 := Lib.hid (HBk.out.trans hg2)
      obtain ⟨xs, hown0⟩ := HO.out
      have hown : w2.ownsRow w.heap.size 3 1 u3 k xs := hown0.kept hg2 (by
        rcases h : u3.ownBlock with _ | q
        · exact .inl rfl
        · refine .inr (fun hh => ?_)
          have h1 := hown0.lt q h
          injection hh with hh
          omega)
      have HW := Lib.hid hown
      have m1 : k + 1 ≤ maxLen := by unfold maxLen; omega
      have m2 : (k + 1) * 8 ≤ 140737488355328 := by omega
      clear hc2 hg2 hown0 hown
      go_wp2_with (refine wpList_push rfl (.tmp 12) (.tmp 15) 38 rfl w.heap.size elemI (by simp [go_sem, Act.eval]) (HW.out.alloc _) _ 1 1 [.int .i64 y] (by simp [go_sem, Act.eval]) (heap_alloc_new _ _) (by simp) (by simp [Value.oneCell']) (by omega) m1 m2 (by simp; omega) ?_; intro g1 cap1 w3 hown1 hgrow1)
      have HO3 : Hid (∃ xs, w3.ownsRow w.heap.size 3 1 (.slice (some ⟨g1, 0, none⟩) (k + 1) cap1) (k + 1) xs) := Lib.hid ⟨_, hown1⟩
      have HB3 : Hid (w.grownBy w3 (some B0)) := Lib.hid (grown_push HB2.out HW.out hgrow1)
      have HC3 : Hid (Cur w3 B0 B0 A len cap) := Lib.hid (HC2.out.kept (below_push (Below.refl (B0 + 1) w2) (by omega) (owns_lower HW.out (by omega)) _ hgrow1))
      have hz3 := hgrow1.size
      simp at hz3
      clear hown1 hgrow1
      go_roundw
      case rel => exact ⟨k + 1, by omega, by go_num, HO3, HC3, HB3, by omega⟩
      case measure => simp [intOf]; omega
    · obtain rfl : k = n := by omega
      have e1 : ¬ 0 < (k : Int) - (k : Int) := by omega
      go_wp2
      refine bodyPost_ret (v := u3) (by simp [results, Try.results45, go_sem]) rfl ⟨_, rfl, HCk.out, HBk.out⟩
theorem Code.up {w : World} {B B' : Nat} {A : Option Addr} {len : Nat} (h : Code w B A len) (hb : B ≤ B') : Code w B' A len :=
  ⟨h.1, fun i hi => by obtain ⟨x, n, h1, h2, h3⟩ := h.2 i hi; exact ⟨x, n, h1, Nat.lt_of_lt_of_le h2 hb, h3⟩⟩
def PacePost (w : World) (e : Ending) (w' : World) : Prop := ∃ ra bu tk v, Pace ⟨ra, bu, tk⟩ ∧ e = .returned (.tuple #[.agg #[.int .i64 ra, .int .i64 bu, .int .i64 tk], v]) ∧ Below w.heap.size w w'
set_option maxHeartbeats 2000000 in
set_option maxRecDepth 100000 in
theorem draw_pacing (A : Option Addr) (len cap : Nat) (w : World) (hcode : Code w w.heap.size A len) :
    Calls Try.prog 29 #[.slice A len cap] w (PacePost w) := by
  have HC := Lib.hid hcode
  clear hcode
  go_enter Try.func29, Try.ntmps29
  go_wp2_with fail
  refine (new_any A len cap _ ((HC.out.below ((Below.refl _ _).alloc (Nat.le_refl _) _)).up (by simp))).mono ?_
  rintro e w1 ⟨rfl, hc1, hb1⟩
  have HC1 : Hid (Cur w1 (w.heap.size + 1) (w.heap.size + 1) A len cap) := Lib.hid (by simpa using hc1)
  have hz1 := hc1.lt
  simp at hz1
  have K1 := Lib.hid ((Box.new w #[.int .i64 0, .int .i64 0, .int .i64 0] 37).later hb1)
  have HB1 := Lib.hid ((below_new (w := w) _).trans (hb1.mono (by simp)) : Below w.heap.size w w1)
  clear hc1 hb1
  go_wp2_with fail
  refine (bucket_any (w.heap.size + 1) A len cap _ HC1.out).mono ?_
  rintro e w2 ⟨⟨ra, bu, tk⟩, hp, rfl, hc2, hb2⟩
  have hz2 := hb2.size
  have HP := Lib.hid hp
  have HC2 := Lib.hid hc2
  have K2 := Lib.hid (K1.out.below hb2 (by omega))
  have HB2 := Lib.hid (HB1.out.trans (hb2.mono (by omega)))
  clear hp hc2 hb2
  unfold BucketM.val
  dsimp only
  have k0 := (K2.out.alloc (.cells #[.int .i64 ra, .int .i64 bu, .int .i64 tk] 37)).cell 0 (by simp)
  go_upto_region 3 with fail
  go_region_with (go_at_call 45; refine (lengths_any (w.heap.size + 1) A len cap _ (HC2.out.kept ((show Below w2.heap.size w2 _ by repeat (first | ((with_reducible refine Below.setCell ?_ ?_ _); rotate_left; first | omega | (dsimp only; omega) | (simp; done) | (simp; omega)) | ((with_reducible refine below_setRow ?_ ?_ _); rotate_left; first | omega | (dsimp only; omega) | (simp; done) | (simp; omega)) | with_reducible exact Below.refl _ _ | with_reducible exact below_new _ | with_reducible exact below_drew | with_reducible exact HB9.out | with_reducible exact HB8.out | with_reducible exact HB7.out | with_reducible exact HB6.out | with_reducible exact HB5.out | with_reducible exact HB4.out | with_reducible exact HB3.out | with_reducible exact HB2.out | with_reducible exact HB1.out | (with_reducible apply below_comp; rotate_left; first | with_reducible exact HB9.out | with_reducible exact HB8.out | with_reducible exact HB7.out | with_reducible exact HB6.out | with_reducible exact HB5.out | with_reducible exact HB4.out | with_reducible exact HB3.out | with_reducible exact HB2.out | with_reducible exact HB1.out | with_reducible assumption | with_reducible exact below_new _ | with_reducible exact below_drew))).mono (by omega)))).mono ?_; rintro e w3 ⟨v, rfl, hc3, hg3⟩; have hz3 := hg3.size; simp at hz3; (have L3 : Box w3 w2.heap.size #[.int .i64 ra, .int .i64 bu, .int .i64 tk] 37 := Box.grown (w := w2.alloc (.cells #[.int .i64 ra, .int .i64 bu, .int .i64 tk] 37)) (Box.new w2 _ _) ⟨hg3.os, hg3.tape, hg3.output, hg3.size, hg3.block⟩ (by omega)); (have K3 : Box w3 w.heap.size #[.int .i64 0, .int .i64 0, .int .i64 0] 37 := Box.grown (w := w2.alloc (.cells #[.int .i64 ra, .int .i64 bu, .int .i64 tk] 37)) (K2.out.alloc _) ⟨hg3.os, hg3.tape, hg3.output, hg3.size, hg3.block⟩ (by omega)); (have HB3 : Hid (Below w.heap.size w w3) := Lib.hid (below_of_cur (w := w2.alloc (.cells #[.int .i64 ra, .int .i64 bu, .int .i64 tk] 37)) (HB2.out.alloc (by omega) _) (by simp; omega) ⟨hg3.os, hg3.tape, hg3.output, hg3.size, hg3.block⟩ (by omega))); have k0 := K3.cell 0 (by simp); have k1 := K3.cell 1 (by simp); have k2 := K3.cell 2 (by simp); have l0 := L3.cell 0 (by simp); have l1 := L3.cell 1 (by simp); have l2 := L3.cell 2 (by simp); have f0 := fun o => K3.frozen o; simp only [List.getElem_toArray, List.getElem_cons_zero, List.getElem_cons_succ] at k0 k1 k2 l0 l1 l2; have HP0 := Lib.hid K3; clear hc3 hg3 K3 L3)
  all_goals
    go_wp2
    apply bodyPost_row_tmp (g := w.heap.size) rfl rfl rfl Try.underlying37 rfl
    focus (repeat (first | (with_reducible exact HP0.out) | (with_reducible exact HP1.out) | (with_reducible exact HP2.out) | (with_reducible exact HP3.out) | (with_reducible exact HQ0.out) | (with_reducible exact HQ1.out) | (with_reducible exact HQ2.out) | (with_reducible exact HQ3.out) | (with_reducible apply Box.new) | (with_reducible apply Box.newAt; simp; done) | (with_reducible apply Box.set) | (with_reducible apply Box.skip; omega) | (with_reducible apply Box.alloc) | (with_reducible apply Box.drew) | (with_reducible apply Box.row) | (with_reducible apply Box.skipRow; omega)))
    focus (kernel_rfl)
    focus (rfl)
    try simp only [List.setIfInBounds_toArray, List.set_cons_zero, List.set_cons_succ]
    refine ⟨ra, bu, tk, _, HP.out, rfl, ?_⟩
    repeat (with_reducible refine Below.setCell ?_ (by first | omega | (dsimp only; omega)) _)
    exact HB3.out
end Go.Proofs.Ytdcjbojigmgcgab
