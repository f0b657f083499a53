/- Rings: RingOk, RingUsed, RingFree, SlotAddress, QueueOk. -/
import Derived.Test.YtncpnoloamebnabRingOkB
import Derived.Deep.QuietTactic
import Derived.BigQuiet
namespace Go.Proofs.Ytncpnoloamebnab
open Go.RowKit
set_option linter.unusedSimpArgs false
set_option linter.unusedVariables false

set_option maxHeartbeats 4000000 in
set_option maxRecDepth 100000 in
theorem impl_ringok (base size head tail : Int) (w : World) :
    Calls Try.prog 18 #[.agg #[.int .i64 base, .int .i64 size, .int .i64 head, .int .i64 tail]] w fun r w' => r = .returned (.bool (decide (RingM.Ok ⟨base, size, head, tail⟩))) ∧ Below w.heap.size w w' := by
  have HV := Lib.hid fun W => impl_valid base size head tail W
  generalize decide (RingM.Ok ⟨base, size, head, tail⟩) = B at HV ⊢
  go_enter Try.func18, Try.ntmps18
  go_wp2_with (first
    | (go_at_call 64; refine (impl_counted _ _ _ _ _).mono ?_; rintro e w1 ⟨rfl, hb1⟩)
    | (go_at_call 65; refine (HV.out _).mono ?_; rintro e w2 ⟨rfl, hb2⟩))
  go_ret
  exact ⟨rfl, below_comp (below_comp (below_new _) hb1) hb2⟩
theorem impl_ringused (base size head tail : Int) (w : World) :
    Calls Try.prog 20 #[.agg #[.int .i64 base, .int .i64 size, .int .i64 head, .int .i64 tail]] w fun r w' => r = .returned (.int .i64 (usedOf size head tail)) ∧ Below w.heap.size w w' := by
  by_cases h : Pow2to16 size
  · have HV : Hid (∀ W, Calls Try.prog 66 #[.int .i64 size, .int .i64 2, .int .i64 16] W fun r w' => r = .returned (.bool true) ∧ W = w') := Lib.hid fun W => by have := impl_pow2 size W; rwa [decide_eq_true h] at this
    have HU := Lib.hid fun W => impl_used base size head tail W h
    clear h
    go_enter Try.func20, Try.ntmps20
    go_wp2_with (first
      | (go_at_call 66; refine (HV.out _).mono ?_; rintro e w' ⟨rfl, rfl⟩)
      | (go_at_call 64; refine (impl_counted _ _ _ _ _).mono ?_; rintro e w1 ⟨rfl, hb1⟩)
      | (go_at_call 67; refine (HU.out _).mono ?_; rintro e w2 ⟨rfl, hb2⟩))
    go_ret
    exact ⟨rfl, below_comp (below_comp (below_new _) hb1) hb2⟩
  · have HV : Hid (∀ W, Calls Try.prog 66 #[.int .i64 size, .int .i64 2, .int .i64 16] W fun r w' => r = .returned (.bool false) ∧ W = w') := Lib.hid fun W => by have := impl_pow2 size W; rwa [decide_eq_false h] at this
    rw [show usedOf size head tail = 0 from if_neg h]
    clear h
    go_enter Try.func20, Try.ntmps20
    go_wp2_with (go_at_call 66; refine (HV.out _).mono ?_; rintro e w' ⟨rfl, rfl⟩)
    go_ret
    exact ⟨rfl, below_new _⟩

def freeOf (base size head tail : Int) : Int := if RingM.Ok ⟨base, size, head, tail⟩ then size - usedOf size head tail else 0

set_option maxHeartbeats 4000000 in
set_option maxRecDepth 100000 in
theorem spec_ringfree (base size head tail : Int) (w : World) :
    Calls Try.prog 21 #[.agg #[.int .i64 base, .int .i64 size, .int .i64 head, .int .i64 tail]] w fun r w' => r = .returned (.int .i64 (freeOf base size head tail)) ∧ Below w.heap.size w w' := by
  by_cases h : RingM.Ok ⟨base, size, head, tail⟩
  case neg =>
    have HV : Hid (∀ W, Calls Try.prog 16 #[.agg #[.int .i64 base, .int .i64 size, .int .i64 head, .int .i64 tail]] W fun r w' => r = .returned (.bool false) ∧ Below W.heap.size W w') := Lib.hid fun W => by have := spec_ringok base size head tail W; rwa [decide_eq_false h] at this
    rw [show freeOf base size head tail = 0 from if_neg h]
    clear h
    go_enter Try.func21, Try.ntmps21
    go_wp2_with (go_at_call 16; refine (HV.out _).mono ?_; rintro e w2 ⟨rfl, hb2⟩)
    go_ret
    exact ⟨rfl, below_comp (below_new _) hb2⟩
  have HV : Hid (∀ W, Calls Try.prog 16 #[.agg #[.int .i64 base, .int .i64 size, .int .i64 head, .int .i64 tail]] W fun r w' => r = .returned (.bool true) ∧ Below W.heap.size W w') := Lib.hid fun W => by have := spec_ringok base size head tail W; rwa [decide_eq_true h] at this
  rw [show freeOf base size head tail = size - usedOf size head tail from if_pos h]
  have hsz : 2 ≤ size ∧ size ≤ 16 := by rcases h.2.1 with h | h | h | h <;> dsimp only at h <;> omega
  have hus : 0 ≤ usedOf size head tail := by unfold usedOf; split <;> first | omega | exact Int.emod_nonneg _ (by omega)
  have hul : usedOf size head tail ≤ size := h.2.2.2.2
  clear h
  go_enter Try.func21, Try.ntmps21
  go_wp2_with (go_at_call 16; refine (HV.out _).mono ?_; rintro e w1 ⟨rfl, hb1⟩)
  have hg1 : w.heap.size < w1.heap.size := by have := hb1.size; simp at this; omega
  have HB1 := Lib.hid ((Box.new w #[.int .i64 base, .int .i64 size, .int .i64 head, .int .i64 tail] 25).below hb1 (by simp))
  have hb01 := below_comp (below_new _) hb1
  clear hb1
  refine wp_region_values (by kernel_rfl) (fun W => Below w1.heap.size w1 W) (Vals [.pointer (some ⟨w.heap.size, 1, none⟩), .int .i64 size, .agg #[.int .i64 base, .int .i64 size, .int .i64 head, .int .i64 tail], .int .i64 (usedOf size head tail), .int .i64 (size - (usedOf size head tail)), .int .i64 (size - (usedOf size head tail))] [])
    11 rfl (by kernel_rfl) (by kernel_rfl) below_drew (eachOp_all ?_) ?_
  · refine ⟨?_, ?_, ?_, ?_, ?_, ?_, trivial⟩
    · intro a W hd hS hdep hfree
      have x1 : a.tmps.getD 1 undef = .pointer (some ⟨w.heap.size, 0, none⟩) := hfree 1 rfl
      clear hd hdep hfree
      simp only [Oper.wp, execOp]
      go_simp
      refine Nxt.mk _ rfl (fun _ _ => ?_) hS (fun _ _ h => h)
      rfl
    · intro a W hd hS hdep hfree
      have x6 : a.tmps.getD 6 undef = .pointer (some ⟨w.heap.size, 1, none⟩) := hdep 0 6 rfl rfl
      clear hd hdep hfree
      have c : W.cell? ⟨w.heap.size, 1, none⟩ = some (.int .i64 size) := (HB1.out.below hS hg1).cell 1 (by simp)
      simp only [Oper.wp, execOp]
      go_simp
      refine Nxt.mk _ rfl (fun _ _ => ?_) hS (fun _ _ h => h)
      rfl
    · intro a W hd hS hdep hfree
      have x1 : a.tmps.getD 1 undef = .pointer (some ⟨w.heap.size, 0, none⟩) := hfree 1 rfl
      clear hd hdep hfree
      have c0 : W.cell? ⟨w.heap.size, 0, none⟩ = some (.int .i64 base) := (HB1.out.below hS hg1).cell 0 (by simp)
      have c1 : W.cell? ⟨w.heap.size, 1, none⟩ = some (.int .i64 size) := (HB1.out.below hS hg1).cell 1 (by simp)
      have c2 : W.cell? ⟨w.heap.size, 2, none⟩ = some (.int .i64 head) := (HB1.out.below hS hg1).cell 2 (by simp)
      have c3 : W.cell? ⟨w.heap.size, 3, none⟩ = some (.int .i64 tail) := (HB1.out.below hS hg1).cell 3 (by simp)
      simp only [Oper.wp, execOp]
      go_simp
      refine Nxt.mk _ rfl (fun _ _ => ?_) hS (fun _ _ h => h)
      rfl
    · intro a W hd hS hdep hfree
      have x8 : a.tmps.getD 8 undef = .agg #[.int .i64 base, .int .i64 size, .int .i64 head, .int .i64 tail] := hdep 2 8 rfl rfl
      clear hd hdep hfree
      simp only [Oper.wp, execOp]
      go_simp
      refine (spec_ringused base size head tail W).mono ?_
      rintro e W' ⟨rfl, hb⟩
      exact Nxt.mk _ rfl (fun _ _ => rfl) (below_comp hS hb) (fun j u h => Vals.below hb j u h)
    · intro a W hd hS hdep hfree
      have x7 : a.tmps.getD 7 undef = .int .i64 size := hdep 1 7 rfl rfl
      have x9 : a.tmps.getD 9 undef = .int .i64 (usedOf size head tail) := hdep 3 9 rfl rfl
      clear hd hdep hfree
      have k : IntKind.i64.wrap (size - (usedOf size head tail)) = size - (usedOf size head tail) := wrap_in _ (by omega) (by omega)
      simp only [Oper.wp, execOp]
      go_simp
      refine Nxt.mk _ rfl (fun _ _ => ?_) hS (fun _ _ h => h)
      rfl
    · intro a W hd hS hdep hfree
      have x10 : a.tmps.getD 10 undef = .int .i64 (size - (usedOf size head tail)) := hdep 4 10 rfl rfl
      clear hd hdep hfree
      simp only [Oper.wp, execOp]
      go_simp
      refine Nxt.mk _ rfl (fun _ _ => ?_) hS (fun _ _ h => h)
      rfl
  intro a W2 hs hd hS2 hdone hrest
  have ea := written_all [.pointer (some ⟨w.heap.size, 1, none⟩), .int .i64 size, .agg #[.int .i64 base, .int .i64 size, .int .i64 head, .int .i64 tail], .int .i64 (usedOf size head tail), .int .i64 (size - (usedOf size head tail)), .int .i64 (size - (usedOf size head tail))] rfl hs hd hrest hdone
  clear hs hd hdone hrest
  subst ea
  simp only [written, List.map_cons, List.map_nil, List.zip_cons_cons, List.zip_nil_right, putAll]
  simp only [Exit.then, Act.put, List.setIfInBounds_toArray, List.set_cons_zero, List.set_cons_succ]
  go_wp2
  go_ret
  exact ⟨rfl, below_comp hb01 hS2⟩

set_option maxHeartbeats 4000000 in
set_option maxRecDepth 100000 in
theorem impl_ringfree (base size head tail : Int) (w : World) :
    Calls Try.prog 22 #[.agg #[.int .i64 base, .int .i64 size, .int .i64 head, .int .i64 tail]] w fun r w' => r = .returned (.int .i64 (freeOf base size head tail)) ∧ Below w.heap.size w w' := by
  by_cases h : RingM.Ok ⟨base, size, head, tail⟩
  case neg =>
    have HV : Hid (∀ W, Calls Try.prog 18 #[.agg #[.int .i64 base, .int .i64 size, .int .i64 head, .int .i64 tail]] W fun r w' => r = .returned (.bool false) ∧ Below W.heap.size W w') := Lib.hid fun W => by have := impl_ringok base size head tail W; rwa [decide_eq_false h] at this
    rw [show freeOf base size head tail = 0 from if_neg h]
    clear h
    go_enter Try.func22, Try.ntmps22
    go_wp2_with (go_at_call 18; refine (HV.out _).mono ?_; rintro e w2 ⟨rfl, hb2⟩)
    go_ret
    exact ⟨rfl, below_comp (below_new _) hb2⟩
  have HV : Hid (∀ W, Calls Try.prog 18 #[.agg #[.int .i64 base, .int .i64 size, .int .i64 head, .int .i64 tail]] W fun r w' => r = .returned (.bool true) ∧ Below W.heap.size W w') := Lib.hid fun W => by have := impl_ringok base size head tail W; rwa [decide_eq_true h] at this
  rw [show freeOf base size head tail = size - usedOf size head tail from if_pos h]
  have hsz : 2 ≤ size ∧ size ≤ 16 := by rcases h.2.1 with h | h | h | h <;> dsimp only at h <;> omega
  have hus : 0 ≤ usedOf size head tail := by unfold usedOf; split <;> first | omega | exact Int.emod_nonneg _ (by omega)
  have hul : usedOf size head tail ≤ size := h.2.2.2.2
  clear h
  go_enter Try.func22, Try.ntmps22
  go_wp2_with (go_at_call 18; refine (HV.out _).mono ?_; rintro e w1 ⟨rfl, hb1⟩)
  have hg1 : w.heap.size < w1.heap.size := by have := hb1.size; simp at this; omega
  have HB1 := Lib.hid ((Box.new w #[.int .i64 base, .int .i64 size, .int .i64 head, .int .i64 tail] 25).below hb1 (by simp))
  have hb01 := below_comp (below_new _) hb1
  clear hb1
  refine wp_region_values (by kernel_rfl) (fun W => Below w1.heap.size w1 W) (Vals [.pointer (some ⟨w.heap.size, 1, none⟩), .int .i64 size, .agg #[.int .i64 base, .int .i64 size, .int .i64 head, .int .i64 tail], .int .i64 (usedOf size head tail), .int .i64 (size - (usedOf size head tail)), .int .i64 (size - (usedOf size head tail))] [])
    11 rfl (by kernel_rfl) (by kernel_rfl) below_drew (eachOp_all ?_) ?_
  · refine ⟨?_, ?_, ?_, ?_, ?_, ?_, trivial⟩
    · intro a W hd hS hdep hfree
      have x1 : a.tmps.getD 1 undef = .pointer (some ⟨w.heap.size, 0, none⟩) := hfree 1 rfl
      clear hd hdep hfree
      simp only [Oper.wp, execOp]
      go_simp
      refine Nxt.mk _ rfl (fun _ _ => ?_) hS (fun _ _ h => h)
      rfl
    · intro a W hd hS hdep hfree
      have x6 : a.tmps.getD 6 undef = .pointer (some ⟨w.heap.size, 1, none⟩) := hdep 0 6 rfl rfl
      clear hd hdep hfree
      have c : W.cell? ⟨w.heap.size, 1, none⟩ = some (.int .i64 size) := (HB1.out.below hS hg1).cell 1 (by simp)
      simp only [Oper.wp, execOp]
      go_simp
      refine Nxt.mk _ rfl (fun _ _ => ?_) hS (fun _ _ h => h)
      rfl
    · intro a W hd hS hdep hfree
      have x1 : a.tmps.getD 1 undef = .pointer (some ⟨w.heap.size, 0, none⟩) := hfree 1 rfl
      clear hd hdep hfree
      have c0 : W.cell? ⟨w.heap.size, 0, none⟩ = some (.int .i64 base) := (HB1.out.below hS hg1).cell 0 (by simp)
      have c1 : W.cell? ⟨w.heap.size, 1, none⟩ = some (.int .i64 size) := (HB1.out.below hS hg1).cell 1 (by simp)
      have c2 : W.cell? ⟨w.heap.size, 2, none⟩ = some (.int .i64 head) := (HB1.out.below hS hg1).cell 2 (by simp)
      have c3 : W.cell? ⟨w.heap.size, 3, none⟩ = some (.int .i64 tail) := (HB1.out.below hS hg1).cell 3 (by simp)
      simp only [Oper.wp, execOp]
      go_simp
      refine Nxt.mk _ rfl (fun _ _ => ?_) hS (fun _ _ h => h)
      rfl
    · intro a W hd hS hdep hfree
      have x8 : a.tmps.getD 8 undef = .agg #[.int .i64 base, .int .i64 size, .int .i64 head, .int .i64 tail] := hdep 2 8 rfl rfl
      clear hd hdep hfree
      simp only [Oper.wp, execOp]
      go_simp
      refine (impl_ringused base size head tail W).mono ?_
      rintro e W' ⟨rfl, hb⟩
      exact Nxt.mk _ rfl (fun _ _ => rfl) (below_comp hS hb) (fun j u h => Vals.below hb j u h)
    · intro a W hd hS hdep hfree
      have x7 : a.tmps.getD 7 undef = .int .i64 size := hdep 1 7 rfl rfl
      have x9 : a.tmps.getD 9 undef = .int .i64 (usedOf size head tail) := hdep 3 9 rfl rfl
      clear hd hdep hfree
      have k : IntKind.i64.wrap (size - (usedOf size head tail)) = size - (usedOf size head tail) := wrap_in _ (by omega) (by omega)
      simp only [Oper.wp, execOp]
      go_simp
      refine Nxt.mk _ rfl (fun _ _ => ?_) hS (fun _ _ h => h)
      rfl
    · intro a W hd hS hdep hfree
      have x10 : a.tmps.getD 10 undef = .int .i64 (size - (usedOf size head tail)) := hdep 4 10 rfl rfl
      clear hd hdep hfree
      simp only [Oper.wp, execOp]
      go_simp
      refine Nxt.mk _ rfl (fun _ _ => ?_) hS (fun _ _ h => h)
      rfl
  intro a W2 hs hd hS2 hdone hrest
  have ea := written_all [.pointer (some ⟨w.heap.size, 1, none⟩), .int .i64 size, .agg #[.int .i64 base, .int .i64 size, .int .i64 head, .int .i64 tail], .int .i64 (usedOf size head tail), .int .i64 (size - (usedOf size head tail)), .int .i64 (size - (usedOf size head tail))] rfl hs hd hrest hdone
  clear hs hd hdone hrest
  subst ea
  simp only [written, List.map_cons, List.map_nil, List.zip_cons_cons, List.zip_nil_right, putAll]
  simp only [Exit.then, Act.put, List.setIfInBounds_toArray, List.set_cons_zero, List.set_cons_succ]
  go_wp2
  go_ret
  exact ⟨rfl, below_comp hb01 hS2⟩

theorem pow_bd {size : Int} (h : Pow2to16 size) : 2 ≤ size ∧ size ≤ 16 := by rcases h with h | h | h | h <;> omega
theorem rem_bd {size count : Int} (h : Pow2to16 size) (hc : 0 ≤ count) : Int.tmod count size = count % size ∧ 0 ≤ count % size ∧ count % size < 16 ∧ size ≠ 0 := by
  have := pow_bd h
  refine ⟨by rw [Int.tmod_eq_emod_of_nonneg hc], Int.emod_nonneg _ (by omega), ?_, by omega⟩
  have := Int.emod_lt_of_pos count (show 0 < size by omega)
  omega
set_option maxHeartbeats 4000000 in
set_option maxRecDepth 100000 in
theorem impl_slotat (base size count : Int) (w : World) (hb : 0 ≤ base ∧ base ≤ 130944) (hs : Pow2to16 size) (hc : 0 ≤ count ∧ count ≤ 9223372036854775807) :
    Calls Try.prog 68 #[.int .i64 base, .int .i64 size, .int .i64 count] w fun r w' => r = .returned (.int .i64 (base + count % size * 16)) ∧ Below w.heap.size w w' := by
  rcases hs with rfl | rfl | rfl | rfl
  all_goals
    go_enter Try.func68, Try.ntmps68
    go_wp2
    go_ret
    exact ⟨ret_int (by omega), Below.refl _ _⟩

def slotOf (base size head tail count : Int) : Int := if RingM.Ok ⟨base, size, head, tail⟩ ∧ 0 ≤ count then base + count % size * 16 else -1

set_option maxHeartbeats 4000000 in
set_option maxRecDepth 100000 in
theorem spec_slotaddress (base size head tail count : Int) (w : World) (hc : -9223372036854775808 ≤ count ∧ count ≤ 9223372036854775807) :
    Calls Try.prog 23 #[.agg #[.int .i64 base, .int .i64 size, .int .i64 head, .int .i64 tail], .int .i64 count] w fun r w' => r = .returned (.int .i64 (slotOf base size head tail count)) ∧ Below w.heap.size w w' := by
  by_cases h : RingM.Ok ⟨base, size, head, tail⟩
  case neg =>
    have HV : Hid (∀ W, Calls Try.prog 16 #[.agg #[.int .i64 base, .int .i64 size, .int .i64 head, .int .i64 tail]] W fun r w' => r = .returned (.bool false) ∧ Below W.heap.size W w') := Lib.hid fun W => by have := spec_ringok base size head tail W; rwa [decide_eq_false h] at this
    rw [show slotOf base size head tail count = -1 from if_neg (fun hh => h hh.1)]
    clear h
    go_enter Try.func23, Try.ntmps23
    go_wp2_with (go_at_call 16; refine (HV.out _).mono ?_; rintro e w2 ⟨rfl, hb2⟩)
    go_ret
    exact ⟨rfl, below_comp (below_new _) hb2⟩
  have HV : Hid (∀ W, Calls Try.prog 16 #[.agg #[.int .i64 base, .int .i64 size, .int .i64 head, .int .i64 tail]] W fun r w' => r = .returned (.bool true) ∧ Below W.heap.size W w') := Lib.hid fun W => by have := spec_ringok base size head tail W; rwa [decide_eq_true h] at this
  by_cases hc0 : 0 ≤ count
  case neg =>
    rw [show slotOf base size head tail count = -1 from if_neg (fun hh => hc0 hh.2)]
    clear h
    go_enter Try.func23, Try.ntmps23
    go_wp2_with (go_at_call 16; refine (HV.out _).mono ?_; rintro e w2 ⟨rfl, hb2⟩)
    go_ret
    exact ⟨rfl, below_comp (below_new _) hb2⟩
  rw [show slotOf base size head tail count = base + count % size * 16 from if_pos ⟨h, hc0⟩]
  have hcc : 0 ≤ count ∧ count ≤ 9223372036854775807 := ⟨hc0, hc.2⟩
  have hbs : 0 ≤ base ∧ base ≤ 130944 := h.1
  have hs : Pow2to16 size := h.2.1
  clear h
  rcases hs with rfl | rfl | rfl | rfl
  all_goals
    go_enter Try.func23, Try.ntmps23
    go_wp2_with (first
      | (go_at_call 16; refine (HV.out _).mono ?_; rintro e w1 ⟨rfl, hb1⟩; obtain ⟨hcell, hfr, _⟩ := bcell hb1))
    go_quiet (fail)
    go_wp2
    go_ret
    exact ⟨ret_int (by omega), by repeat (first | exact below_new _ | (refine below_comp ?_ (by assumption)) | (refine below_comp ?_ (below_new _)) | (refine below_comp ?_ below_drew) | (refine below_comp ?_ (below_drewM _)))⟩

set_option maxHeartbeats 4000000 in
set_option maxRecDepth 100000 in
theorem impl_slotaddress (base size head tail count : Int) (w : World) (hc : -9223372036854775808 ≤ count ∧ count ≤ 9223372036854775807) :
    Calls Try.prog 24 #[.agg #[.int .i64 base, .int .i64 size, .int .i64 head, .int .i64 tail], .int .i64 count] w fun r w' => r = .returned (.int .i64 (slotOf base size head tail count)) ∧ Below w.heap.size w w' := by
  by_cases h : RingM.Ok ⟨base, size, head, tail⟩
  case neg =>
    have HV : Hid (∀ W, Calls Try.prog 18 #[.agg #[.int .i64 base, .int .i64 size, .int .i64 head, .int .i64 tail]] W fun r w' => r = .returned (.bool false) ∧ Below W.heap.size W w') := Lib.hid fun W => by have := impl_ringok base size head tail W; rwa [decide_eq_false h] at this
    rw [show slotOf base size head tail count = -1 from if_neg (fun hh => h hh.1)]
    clear h
    go_enter Try.func24, Try.ntmps24
    go_wp2_with (go_at_call 18; refine (HV.out _).mono ?_; rintro e w2 ⟨rfl, hb2⟩)
    go_ret
    exact ⟨rfl, below_comp (below_new _) hb2⟩
  have HV : Hid (∀ W, Calls Try.prog 18 #[.agg #[.int .i64 base, .int .i64 size, .int .i64 head, .int .i64 tail]] W fun r w' => r = .returned (.bool true) ∧ Below W.heap.size W w') := Lib.hid fun W => by have := impl_ringok base size head tail W; rwa [decide_eq_true h] at this
  by_cases hc0 : 0 ≤ count
  case neg =>
    rw [show slotOf base size head tail count = -1 from if_neg (fun hh => hc0 hh.2)]
    clear h
    go_enter Try.func24, Try.ntmps24
    go_wp2_with (go_at_call 18; refine (HV.out _).mono ?_; rintro e w2 ⟨rfl, hb2⟩)
    go_ret
    exact ⟨rfl, below_comp (below_new _) hb2⟩
  rw [show slotOf base size head tail count = base + count % size * 16 from if_pos ⟨h, hc0⟩]
  have hcc : 0 ≤ count ∧ count ≤ 9223372036854775807 := ⟨hc0, hc.2⟩
  have hbs : 0 ≤ base ∧ base ≤ 130944 := h.1
  have hs : Pow2to16 size := h.2.1
  have HA := Lib.hid fun W => impl_slotat base size count W hbs hs hcc
  clear h
  rcases hs with rfl | rfl | rfl | rfl
  all_goals
    go_enter Try.func24, Try.ntmps24
    go_wp2_with (first
      | (go_at_call 18; refine (HV.out _).mono ?_; rintro e w1 ⟨rfl, hb1⟩; obtain ⟨hcell, hfr, _⟩ := bcell hb1)
      | (go_at_call 68; refine (HA.out _).mono ?_; rintro e w2 ⟨rfl, hb2⟩))
    go_ret
    exact ⟨ret_int (by omega), by repeat (first | exact below_new _ | (refine below_comp ?_ (by assumption)) | (refine below_comp ?_ (below_new _)) | (refine below_comp ?_ below_drew) | (refine below_comp ?_ (below_drewM _)))⟩

end Go.Proofs.Ytncpnoloamebnab
