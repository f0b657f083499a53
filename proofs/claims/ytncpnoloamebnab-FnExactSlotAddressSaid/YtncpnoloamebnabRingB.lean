/- Rings: the small functions of both sides. -/
import Derived.Test.YtncpnoloamebnabInYN
import Derived.Test.YtncpnoloamebnabKit
import Derived.Test.YtncpnoloamebnabFlatOk
import Derived.Test.YtncpnoloamebnabRegionG
import Derived.Deep.QuietTactic
import Derived.BigQuiet
import Derived.BigQuiet
namespace Go.Proofs.Ytncpnoloamebnab
open Go.RowKit
set_option linter.unusedSimpArgs false
set_option linter.unusedVariables false

theorem and_3 (x : Int) : bits .and .i64 (IntKind.i64.wrap x) 3 = x % 4 := and_low_wrap x 2 (by decide)
theorem and_7 (x : Int) : bits .and .i64 (IntKind.i64.wrap x) 7 = x % 8 := and_low_wrap x 3 (by decide)
theorem and_15 (x : Int) : bits .and .i64 (IntKind.i64.wrap x) 15 = x % 16 := and_low_wrap x 4 (by decide)
theorem and_31 (x : Int) : bits .and .i64 (IntKind.i64.wrap x) 31 = x % 32 := and_low_wrap x 5 (by decide)
theorem pow2_bits (n : Int) (h : 2 ≤ n ∧ n ≤ 16) : ∃ z : Int, bits .and .i64 n (n - 1) = z ∧ IntKind.i64.wrap (n - 1) = n - 1 ∧ (z = 0 ↔ Pow2to16 n) := by
  obtain ⟨m, rfl⟩ : ∃ m : Nat, n = m := ⟨n.toNat, by omega⟩
  obtain ⟨h1, h2⟩ : 2 ≤ m ∧ m ≤ 16 := by omega
  refine ⟨_, rfl, wrap_in _ (by omega) (by omega), ?_⟩
  rcases (show m = 2 ∨ m = 3 ∨ m = 4 ∨ m = 5 ∨ m = 6 ∨ m = 7 ∨ m = 8 ∨ m = 9 ∨ m = 10 ∨ m = 11 ∨ m = 12 ∨ m = 13 ∨ m = 14 ∨ m = 15 ∨ m = 16 by omega) with rfl | rfl | rfl | rfl | rfl | rfl | rfl | rfl | rfl | rfl | rfl | rfl | rfl | rfl | rfl <;> decide

set_option maxHeartbeats 4000000 in
set_option maxRecDepth 100000 in
theorem spec_size (n : Int) (w : World) :
    Calls Try.prog 63 #[.int .i64 n] w fun r w' => r = .returned (.bool (decide (Pow2to16 n))) ∧ w = w' := by
  by_cases h : Pow2to16 n
  · rw [decide_eq_true h]
    rcases h with rfl | rfl | rfl | rfl
    all_goals
      go_enter Try.func63, Try.ntmps63
      go_wp2
      go_ret
      exact ⟨rfl, rfl⟩
  · rw [decide_eq_false h]
    unfold Pow2to16 at h
    have h1 : ¬ n = 2 := by omega
    have h2 : ¬ n = 4 := by omega
    have h3 : ¬ n = 8 := by omega
    have h4 : ¬ n = 16 := by omega
    clear h
    go_enter Try.func63, Try.ntmps63
    go_wp2
    go_ret
    exact ⟨ret_bool (by simp [h1, h2, h3, h4]), rfl⟩

set_option maxHeartbeats 4000000 in
set_option maxRecDepth 100000 in
theorem impl_pow2 (n : Int) (w : World) :
    Calls Try.prog 66 #[.int .i64 n, .int .i64 2, .int .i64 16] w fun r w' => r = .returned (.bool (decide (Pow2to16 n))) ∧ w = w' := by
  by_cases h : 2 ≤ n ∧ n ≤ 16
  · obtain ⟨z, e1, e2, hz⟩ := pow2_bits n h
    have HZ := Lib.hid hz
    clear hz
    go_enter Try.func66, Try.ntmps66
    go_wp2_with (go_at_call 70; refine (impl_in_yes _ _ _ _ h).mono ?_; rintro e w' ⟨rfl, rfl⟩)
    go_ret
    refine ⟨ret_bool ?_, rfl⟩
    rw [Bool.eq_iff_iff, decide_eq_true_iff]
    simpa using HZ.out
  · rw [decide_eq_false (show ¬ Pow2to16 n by unfold Pow2to16; omega)]
    go_enter Try.func66, Try.ntmps66
    go_wp2_with (go_at_call 70; refine (impl_in_no _ _ _ _ h).mono ?_; rintro e w' ⟨rfl, rfl⟩)
    go_ret
    exact ⟨rfl, rfl⟩

set_option maxHeartbeats 4000000 in
set_option maxRecDepth 100000 in
theorem impl_slotsok (base size : Int) (w : World) :
    Calls Try.prog 69 #[.int .i64 base, .int .i64 size] w fun r w' => r = .returned (.bool (decide ((0 ≤ base ∧ base ≤ 130944) ∧ Pow2to16 size))) ∧ w = w' := by
  by_cases h : 0 ≤ base ∧ base ≤ 130944
  · obtain ⟨B, HB⟩ : ∃ B : Bool, Hid (B = decide (Pow2to16 size)) := ⟨_, Lib.hid rfl⟩
    rw [show decide ((0 ≤ base ∧ base ≤ 130944) ∧ Pow2to16 size) = B by rw [HB.out]; simp [h]]
    go_enter Try.func69, Try.ntmps69
    go_wp2_with (first
      | (go_at_call 70; refine (impl_in_yes _ _ _ _ h).mono ?_; rintro e w' ⟨rfl, rfl⟩)
      | (go_at_call 66; refine (impl_pow2 _ _).mono ?_; rw [← HB.out]; rintro e w' ⟨rfl, rfl⟩))
    go_ret
    exact ⟨rfl, rfl⟩
  · rw [decide_eq_false (fun hh => h hh.1)]
    go_enter Try.func69, Try.ntmps69
    go_wp2_with (go_at_call 70; refine (impl_in_no _ _ _ _ h).mono ?_; rintro e w' ⟨rfl, rfl⟩)
    go_ret
    exact ⟨rfl, rfl⟩

set_option maxHeartbeats 4000000 in
set_option maxRecDepth 100000 in
theorem impl_counted (base size head tail : Int) (w : World) :
    Calls Try.prog 64 #[.agg #[.int .i64 base, .int .i64 size, .int .i64 head, .int .i64 tail]] w fun r w' => r = .returned (.agg #[.int .i64 head, .int .i64 tail, .int .i64 base, .int .i64 size]) ∧ Below w.heap.size w w' := by
  go_enter Try.func64, Try.ntmps64
  go_wp2
  refine bodyPost_ret (v := .agg #[.int .i64 head, .int .i64 tail, .int .i64 base, .int .i64 size]) (by simp [results, Try.results64, go_sem]) rfl ⟨rfl, ?_⟩
  repeat (first | exact Below.refl _ _ | exact below_new _ | exact below_drew | (refine below_comp ?_ (by assumption)) | (refine below_comp ?_ (below_new _)))

set_option maxHeartbeats 4000000 in
set_option maxRecDepth 100000 in
theorem impl_modulus (base size head tail : Int) (w : World) (h : Pow2to16 size) :
    Calls Try.prog 92 #[.agg #[.int .i64 head, .int .i64 tail, .int .i64 base, .int .i64 size]] w fun r w' => r = .returned (.int .i64 (2 * size)) ∧ Below w.heap.size w w' := by
  rcases h with rfl | rfl | rfl | rfl
  all_goals
    go_enter Try.func92, Try.ntmps92
    go_wp2
    go_ret
    exact ⟨rfl, below_new _⟩
theorem impl_apart (head tail size : Int) (w : World) (h : Pow2to16 size) :
    Calls Try.prog 93 #[.agg #[.int .i64 head, .int .i64 tail], .int .i64 (2 * size)] w fun r w' => r = .returned (.int .i64 (usedOf size head tail)) ∧ Below w.heap.size w w' := by
  have hu : usedOf size head tail = (tail - head) % (2 * size) := if_pos h
  rw [hu]
  clear hu
  rcases h with rfl | rfl | rfl | rfl
  all_goals
    go_enter Try.func93, Try.ntmps93
    go_wp2
    go_ret
    exact ⟨ret_int (by simp only [wrap64_eq, and_3, and_7, and_15, and_31]; omega), below_new _⟩

set_option maxHeartbeats 4000000 in
set_option maxRecDepth 100000 in
theorem impl_used (base size head tail : Int) (w : World) (hs : Pow2to16 size) :
    Calls Try.prog 67 #[.agg #[.int .i64 head, .int .i64 tail, .int .i64 base, .int .i64 size]] w fun r w' => r = .returned (.int .i64 (usedOf size head tail)) ∧ Below w.heap.size w w' := by
  go_enter Try.func67, Try.ntmps67
  go_wp2_with fail
  obtain ⟨w1, hw1⟩ : ∃ w1, w1 = w.alloc (.cells #[.int .i64 head, .int .i64 tail, .int .i64 base, .int .i64 size] 89) := ⟨_, rfl⟩
  have hb1 : Below w.heap.size w w1 := hw1 ▸ below_new _
  have HB1 : Hid (Box w1 w.heap.size #[.int .i64 head, .int .i64 tail, .int .i64 base, .int .i64 size] 89) := Lib.hid (hw1 ▸ Box.new w #[.int .i64 head, .int .i64 tail, .int .i64 base, .int .i64 size] 89)
  have hg1 : w.heap.size < w1.heap.size := by rw [hw1]; simp
  rw [← hw1]
  clear hw1
  refine wp_region_values (by kernel_rfl) (fun W => Below w1.heap.size w1 W) (Vals [.pointer (some ⟨w.heap.size, 0, none⟩), .agg #[.int .i64 head, .int .i64 tail], .agg #[.int .i64 head, .int .i64 tail, .int .i64 base, .int .i64 size], .int .i64 (2 * size), .int .i64 (usedOf size head tail), .int .i64 (usedOf size head tail)] [])
    8 rfl (by kernel_rfl) (by kernel_rfl) below_drew (eachOp_all ?_) ?_
  · refine ⟨?_, ?_, ?_, ?_, ?_, ?_, trivial⟩
    · intro a W hd hS hdep hfree
      have x1 : a.tmps.getD 1 undef = .pointer (some ⟨w.heap.size, 0, none⟩) := hfree 1 rfl
      clear hd hdep hfree
      simp only [Oper.wp, execOp]
      go_simp
      refine Nxt.mk _ rfl (fun _ _ => ?_) hS (fun _ _ h => h)
      rfl
    · intro a W hd hS hdep hfree
      have x3 : a.tmps.getD 3 undef = .pointer (some ⟨w.heap.size, 0, none⟩) := hdep 0 3 rfl rfl
      clear hd hdep hfree
      have c0 : W.cell? ⟨w.heap.size, 0, none⟩ = some (.int .i64 head) := (HB1.out.below hS hg1).cell 0 (by simp)
      have c1 : W.cell? ⟨w.heap.size, 1, none⟩ = some (.int .i64 tail) := (HB1.out.below hS hg1).cell 1 (by simp)
      simp only [Oper.wp, execOp]
      go_simp
      refine Nxt.mk _ rfl (fun _ _ => ?_) hS (fun _ _ h => h)
      rfl
    · intro a W hd hS hdep hfree
      have x1 : a.tmps.getD 1 undef = .pointer (some ⟨w.heap.size, 0, none⟩) := hfree 1 rfl
      clear hd hdep hfree
      have c0 : W.cell? ⟨w.heap.size, 0, none⟩ = some (.int .i64 head) := (HB1.out.below hS hg1).cell 0 (by simp)
      have c1 : W.cell? ⟨w.heap.size, 1, none⟩ = some (.int .i64 tail) := (HB1.out.below hS hg1).cell 1 (by simp)
      have c2 : W.cell? ⟨w.heap.size, 2, none⟩ = some (.int .i64 base) := (HB1.out.below hS hg1).cell 2 (by simp)
      have c3 : W.cell? ⟨w.heap.size, 3, none⟩ = some (.int .i64 size) := (HB1.out.below hS hg1).cell 3 (by simp)
      simp only [Oper.wp, execOp]
      go_simp
      refine Nxt.mk _ rfl (fun _ _ => ?_) hS (fun _ _ h => h)
      rfl
    · intro a W hd hS hdep hfree
      have x5 : a.tmps.getD 5 undef = .agg #[.int .i64 head, .int .i64 tail, .int .i64 base, .int .i64 size] := hdep 2 5 rfl rfl
      clear hd hdep hfree
      simp only [Oper.wp, execOp]
      go_simp
      refine (impl_modulus base size head tail W hs).mono ?_
      rintro e W' ⟨rfl, hb⟩
      exact Nxt.mk _ rfl (fun _ _ => rfl) (below_comp hS hb) (fun j u h => Vals.below hb j u h)
    · intro a W hd hS hdep hfree
      have x4 : a.tmps.getD 4 undef = .agg #[.int .i64 head, .int .i64 tail] := hdep 1 4 rfl rfl
      have x6 : a.tmps.getD 6 undef = .int .i64 (2 * size) := hdep 3 6 rfl rfl
      clear hd hdep hfree
      simp only [Oper.wp, execOp]
      go_simp
      refine (impl_apart head tail size W hs).mono ?_
      rintro e W' ⟨rfl, hb⟩
      exact Nxt.mk _ rfl (fun _ _ => rfl) (below_comp hS hb) (fun j u h => Vals.below hb j u h)
    · intro a W hd hS hdep hfree
      have x7 : a.tmps.getD 7 undef = .int .i64 (usedOf size head tail) := hdep 4 7 rfl rfl
      clear hd hdep hfree
      simp only [Oper.wp, execOp]
      go_simp
      refine Nxt.mk _ rfl (fun _ _ => ?_) hS (fun _ _ h => h)
      rfl
  intro a W2 hs hd hS2 hdone hrest
  have ea := written_all [.pointer (some ⟨w.heap.size, 0, none⟩), .agg #[.int .i64 head, .int .i64 tail], .agg #[.int .i64 head, .int .i64 tail, .int .i64 base, .int .i64 size], .int .i64 (2 * size), .int .i64 (usedOf size head tail), .int .i64 (usedOf size head tail)] rfl hs hd hrest hdone
  clear hs hd hdone hrest
  subst ea
  simp only [written, List.map_cons, List.map_nil, List.zip_cons_cons, List.zip_nil_right, putAll]
  simp only [Exit.then, Act.put, List.setIfInBounds_toArray, List.set_cons_zero, List.set_cons_succ]
  go_wp2
  go_ret
  exact ⟨rfl, below_comp hb1 hS2⟩

end Go.Proofs.Ytncpnoloamebnab
