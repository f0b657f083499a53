/- The model's BuildSegment, at segments that can be sent. -/
import Derived.Test.YtkknfcnajgolfaaSegMath
import Derived.Test.YtkknfcnajgolfaaSegOkB
import Derived.Test.YtkknfcnajgolfaaMacB
import Derived.Test.YtkknfcnajgolfaaSumsAnySpec
import Derived.Test.YtkknfcnajgolfaaRegion
import Derived.Deep.DeepCutAuto
namespace Go.Proofs.Ytkknfcnajgolfaa
open Go.RowKit
set_option linter.unusedSimpArgs false
set_option linter.unusedVariables false

set_option maxHeartbeats 4000000 in
set_option maxRecDepth 100000 in
theorem spec_seg_udp_yes (s d sp dp q c f n : Int) (b : ByteArray) (w : World) (hok : SegM.Ok ⟨17, sp, dp, q, c, f, n, b⟩) (hp :  pseudoOk s d 17 (SegM.len ⟨17, sp, dp, q, c, f, n, b⟩)) :
    Calls Try.prog 46 #[.int .i64 s, .int .i64 d, .agg #[.int .i64 17, .int .i64 sp, .int .i64 dp, .int .i64 q, .int .i64 c, .int .i64 f, .int .i64 n, .string b]] w fun r w' => r = .returned (.tuple #[.string (SegM.udp ⟨17, sp, dp, q, c, f, n, b⟩ (SegM.check ⟨17, sp, dp, q, c, f, n, b⟩ s d)), .bool true]) ∧ Below w.heap.size w w' := by
  have HV : Hid (∀ w1, Calls Try.prog 41 #[.agg #[.int .i64 17, .int .i64 sp, .int .i64 dp, .int .i64 q, .int .i64 c, .int .i64 f, .int .i64 n, .string b]] w1 fun r w' => r = .returned (.bool true) ∧ Below w1.heap.size w1 w') := Lib.hid fun w1 => by have := spec_segmentok ⟨17, sp, dp, q, c, f, n, b⟩ w1; rwa [decide_eq_true hok] at this
  obtain ⟨h1, h2, h7, hk⟩ := hok
  dsimp only at h1 h2 h7 hk
  have HP := Lib.hid hp
  clear hp
  clear hk
  have HWsp := Lib.hid fun W => (by have := spec_word16 sp W; rwa [word16_in _ h1] at this : Calls Try.prog 64 #[.int .i64 sp] W fun r w' => r = .returned (.string (w16 sp)) ∧ Below W.heap.size W w')
  have HWdp := Lib.hid fun W => (by have := spec_word16 dp W; rwa [word16_in _ h2] at this : Calls Try.prog 64 #[.int .i64 dp] W fun r w' => r = .returned (.string (w16 dp)) ∧ Below W.heap.size W w')
  have HWl := Lib.hid fun W => (by have := spec_word16 (8 + (b.size : Int)) W; rwa [word16_in _ (by omega)] at this : Calls Try.prog 64 #[.int .i64 (8 + (b.size : Int))] W fun r w' => r = .returned (.string (w16 (8 + (b.size : Int)))) ∧ Below W.heap.size W w')
  have HW0 := Lib.hid fun W => (by have := spec_word16 0 W; rwa [word16_in _ (by decide)] at this : Calls Try.prog 64 #[.int .i64 0] W fun r w' => r = .returned (.string (w16 0)) ∧ Below W.heap.size W w')
  have z1 : (w16 sp).size ≤ 2 := Nat.le_refl _
  have z2 : (w16 dp).size ≤ 2 := Nat.le_refl _
  have z3 : (w16 0).size ≤ 2 := Nat.le_refl _
  have z4 : (w16 (8 + (b.size : Int))).size ≤ 2 := Nat.le_refl _
  clear h1 h2
  go_enter Try.func46, Try.ntmps46
  go_wp2_with (go_at_call 41; refine (HV.out _).mono ?_; rintro e w1 ⟨rfl, hb1⟩)
  have hg1 : w.heap.size < w1.heap.size := by have := hb1.size; simp at this; omega
  have HB1 := Lib.hid ((Box.new w #[.int .i64 17, .int .i64 sp, .int .i64 dp, .int .i64 q, .int .i64 c, .int .i64 f, .int .i64 n, .string b] 28).below hb1 (by simp))
  have hb01 := below_comp (below_new _) hb1
  clear hb1
  refine wp_region_values (by kernel_rfl) (fun W => Below w1.heap.size w1 W) (Vals [.pointer (some ⟨w.heap.size, 1, none⟩), .int .i64 sp, .string (w16 sp), .pointer (some ⟨w.heap.size, 2, none⟩), .int .i64 dp, .string (w16 dp), .string ((w16 sp) ++ (w16 dp)), .string ((w16 sp) ++ (w16 dp))] [])
    88 rfl (by kernel_rfl) (by kernel_rfl) below_drew (eachOp_all ?_) ?_
  · refine ⟨?_, ?_, ?_, ?_, ?_, ?_, ?_, ?_, trivial⟩
    · intro a W hd hS hdep hfree
      have x5 : a.tmps.getD 5 undef = .pointer (some ⟨w.heap.size, 0, none⟩) := hfree 5 rfl
      clear hd hdep hfree
      simp only [Oper.wp, execOp]
      go_simp
      refine Nxt.mk _ rfl (fun _ _ => ?_) hS (fun _ _ h => h)
      rfl
    · intro a W hd hS hdep hfree
      have x16 : a.tmps.getD 16 undef = .pointer (some ⟨w.heap.size, 1, none⟩) := hdep 0 16 rfl rfl
      clear hd hdep hfree
      have c : W.cell? ⟨w.heap.size, 1, none⟩ = some (.int .i64 sp) := (HB1.out.below hS hg1).cell 1 (by simp)
      simp only [Oper.wp, execOp]
      go_simp
      refine Nxt.mk _ rfl (fun _ _ => ?_) hS (fun _ _ h => h)
      rfl
    · intro a W hd hS hdep hfree
      have x17 : a.tmps.getD 17 undef = .int .i64 sp := hdep 1 17 rfl rfl
      clear hd hdep hfree
      simp only [Oper.wp, execOp]
      go_simp
      refine (HWsp.out W).mono ?_
      rintro e W' ⟨rfl, hb⟩
      exact Nxt.mk _ rfl (fun _ _ => rfl) (below_comp hS hb) (fun j u h => Vals.below hb j u h)
    · intro a W hd hS hdep hfree
      have x5 : a.tmps.getD 5 undef = .pointer (some ⟨w.heap.size, 0, none⟩) := hfree 5 rfl
      clear hd hdep hfree
      simp only [Oper.wp, execOp]
      go_simp
      refine Nxt.mk _ rfl (fun _ _ => ?_) hS (fun _ _ h => h)
      rfl
    · intro a W hd hS hdep hfree
      have x19 : a.tmps.getD 19 undef = .pointer (some ⟨w.heap.size, 2, none⟩) := hdep 3 19 rfl rfl
      clear hd hdep hfree
      have c : W.cell? ⟨w.heap.size, 2, none⟩ = some (.int .i64 dp) := (HB1.out.below hS hg1).cell 2 (by simp)
      simp only [Oper.wp, execOp]
      go_simp
      refine Nxt.mk _ rfl (fun _ _ => ?_) hS (fun _ _ h => h)
      rfl
    · intro a W hd hS hdep hfree
      have x20 : a.tmps.getD 20 undef = .int .i64 dp := hdep 4 20 rfl rfl
      clear hd hdep hfree
      simp only [Oper.wp, execOp]
      go_simp
      refine (HWdp.out W).mono ?_
      rintro e W' ⟨rfl, hb⟩
      exact Nxt.mk _ rfl (fun _ _ => rfl) (below_comp hS hb) (fun j u h => Vals.below hb j u h)
    · intro a W hd hS hdep hfree
      have x18 : a.tmps.getD 18 undef = .string (w16 sp) := hdep 2 18 rfl rfl
      have x21 : a.tmps.getD 21 undef = .string (w16 dp) := hdep 5 21 rfl rfl
      clear hd hdep hfree
      have k : ¬ 9223372036854775807 < (w16 sp).size + (w16 dp).size := by (try simp only [ByteArray.size_append]); omega
      have k2 := k
      try simp only [ByteArray.size_append] at k2
      simp only [Oper.wp, execOp]
      go_simp
      refine Nxt.mk _ rfl (fun _ _ => ?_) hS (fun _ _ h => h)
      rfl
    · intro a W hd hS hdep hfree
      have x22 : a.tmps.getD 22 undef = .string ((w16 sp) ++ (w16 dp)) := hdep 6 22 rfl rfl
      clear hd hdep hfree
      simp only [Oper.wp, execOp]
      go_simp
      refine Nxt.mk _ rfl (fun _ _ => ?_) hS (fun _ _ h => h)
      rfl
  intro a W2 hs hd hS2 hdone hrest
  have ea := written_all [.pointer (some ⟨w.heap.size, 1, none⟩), .int .i64 sp, .string (w16 sp), .pointer (some ⟨w.heap.size, 2, none⟩), .int .i64 dp, .string (w16 dp), .string ((w16 sp) ++ (w16 dp)), .string ((w16 sp) ++ (w16 dp))] rfl hs hd hrest hdone
  clear hs hd hdone hrest
  subst ea
  simp only [written, List.map_cons, List.map_nil, List.zip_cons_cons, List.zip_nil_right, putAll]
  simp only [Exit.then, Act.put, List.setIfInBounds_toArray, List.set_cons_zero, List.set_cons_succ]
  have hg2 : w.heap.size < W2.heap.size := Nat.lt_of_lt_of_le hg1 hS2.size
  have HB2 := Lib.hid (HB1.out.below hS2 hg1)
  have hb02 := below_comp hb01 hS2
  have c0 : W2.cell? ⟨w.heap.size, 0, none⟩ = some (.int .i64 17) := HB2.out.cell 0 (by simp)
  clear hS2

  have c7 : W2.cell? ⟨w.heap.size, 7, none⟩ = some (.string b) := HB2.out.cell 7 (by simp)
  go_upto_region 9 with (first
    | (go_at_call_of 64 (Value.int .i64 0); refine (HW0.out _).mono ?_; rintro e W3 ⟨rfl, hb3b⟩)
    | (go_at_call 64; refine (HWl.out _).mono ?_; rintro e W2b ⟨rfl, hb3a⟩))
  have hS3 := below_comp hb3a hb3b
  clear c0 c7 hb3a hb3b
  have hg3 : w.heap.size < W3.heap.size := Nat.lt_of_lt_of_le hg2 hS3.size
  have HB3 := Lib.hid (HB2.out.below hS3 hg2)
  have hb03 := below_comp hb02 hS3
  clear hS3
  obtain ⟨U, HU⟩ : ∃ U : ByteArray, Hid (U = w16 sp ++ w16 dp ++ w16 (8 + (b.size : Int)) ++ w16 0) := ⟨_, Lib.hid rfl⟩
  rw [← HU.out]
  obtain ⟨T, HT⟩ : ∃ T : ByteArray, Hid (U ++ b = T ∧ T = SegM.udp ⟨17, sp, dp, q, c, f, n, b⟩ 0) := ⟨_, Lib.hid ⟨rfl, by rw [HU.out]; exact rfl⟩⟩
  have hU : U.size ≤ 20 := by rw [HU.out]; simp only [ByteArray.size_append]; omega
  have HL : Hid (SegM.len ⟨17, sp, dp, q, c, f, n, b⟩ = (T.size : Int)) := Lib.hid (by rw [HT.out.2]; rfl)
  have hT : T.size ≤ 340 := by rw [HT.out.2, SegM.udp_size]; show _ + b.size ≤ 340; omega
  have c0 : W3.cell? ⟨w.heap.size, 0, none⟩ = some (.int .i64 17) := HB3.out.cell 0 (by simp)
  have c7 : W3.cell? ⟨w.heap.size, 7, none⟩ = some (.string b) := HB3.out.cell 7 (by simp)
  have k1 : ¬ 9223372036854775807 < U.size + b.size := by omega
  go_wp2_with fail
  have hLe : (U.size : Int) + (b.size : Int) = (T.size : Int) := by rw [← HT.out.1, ByteArray.size_append]; omega
  rw [HT.out.1, hLe]
  clear hLe k1 hU

  refine (spec_pseudo_yes s d 17 (T.size : Int) _ (by rw [← HL.out]; exact HP.out)).mono ?_
  obtain ⟨P, HPP, hPs⟩ : ∃ P : ByteArray, Hid (pseudoB s d 17 (T.size : Int) = P) ∧ P.size ≤ 12 := ⟨_, Lib.hid rfl, by rw [pseudo_size]; omega⟩
  rw [HPP.out]
  rintro e w4 ⟨rfl, hb4⟩
  obtain ⟨hc, hf, _⟩ := bcell hb4
  have hg4 : w.heap.size < w4.heap.size := Nat.lt_of_lt_of_le hg3 hb4.size
  obtain ⟨X, HX⟩ : ∃ X : Int, Hid (65535 - sumW (P ++ T) = X) := ⟨_, Lib.hid rfl⟩
  have hX : 0 ≤ X ∧ X ≤ 65535 := by have := sumW_bd (P ++ T); rw [← HX.out]; omega
  have HCk := Lib.hid fun W => (by have := spec_checksum_any (P ++ T) W (by rw [ByteArray.size_append]; omega); rwa [HX.out] at this : Calls Try.prog 67 #[.string (P ++ T)] W fun r w' => r = .returned (.int .i64 X) ∧ Below W.heap.size W w')
  have HRaw : Hid (SegM.raw ⟨17, sp, dp, q, c, f, n, b⟩ s d = X) := Lib.hid (by unfold SegM.raw; rw [HL.out, ← HX.out, ← HPP.out]; show 65535 - sumW (_ ++ SegM.udp _ 0) = _; rw [← HT.out.2])
  have k2 : ¬ 9223372036854775807 < P.size + T.size := by omega
  have HXb := Lib.hid hX
  rcases (show X = 0 ∨ X ≠ 0 by omega) with hx | hx
  case' inl =>
    obtain ⟨V, HVV, hV⟩ : ∃ V : Int, Hid (V = 65535 ∧ SegM.check ⟨17, sp, dp, q, c, f, n, b⟩ s d = V) ∧ 0 ≤ V ∧ V ≤ 65535 := ⟨65535, Lib.hid ⟨rfl, by unfold SegM.check; rw [HRaw.out, hx]; rfl⟩, by decide⟩
    subst hx
  case' inr =>
    have e0 : (X == 0) = false := by rw [beq_eq_false_iff_ne]; exact hx
    obtain ⟨V, HVV, hV⟩ : ∃ V : Int, Hid (V = X ∧ SegM.check ⟨17, sp, dp, q, c, f, n, b⟩ s d = V) ∧ 0 ≤ V ∧ V ≤ 65535 := ⟨X, Lib.hid ⟨rfl, by unfold SegM.check; rw [HRaw.out, if_neg (fun h => hx h.1)]⟩, hX⟩
    have hxi := Lib.hid hx
    clear hx
  all_goals
    have HWV := Lib.hid fun W => (by have := spec_word16 V W; rwa [word16_in _ hV] at this : Calls Try.prog 64 #[.int .i64 V] W fun r w' => r = .returned (.string (w16 V)) ∧ Below W.heap.size W w')
    have HPV := Lib.hid fun W => spec_put_any T 6 (w16 V) W (by omega) (by show 2 ≤ 4194304; decide) (by decide)
    have hzV : (w16 V).size ≤ 2 := Nat.le_refl _
    rw [HVV.out.1] at HWV HPV
    clear hV hX
    go_wp2_with (first
      | (go_at_call 67; refine (HCk.out _).mono ?_; rintro e w5 ⟨rfl, hb5⟩; obtain ⟨hc5, hf5, _⟩ := bcell hb5)
      | (go_at_call 64; refine (HWV.out _).mono ?_; rintro e w6 ⟨rfl, hb6⟩)
      | (go_at_call 68; refine (HPV.out _).mono ?_; rintro e w7 ⟨rfl, hb7⟩))
    go_ret2
    refine ⟨ret_str_bool ?_ rfl, below_comp (below_comp (below_comp (below_comp hb03 hb4) hb5) hb6) hb7⟩
    rw [HVV.out.2, ← HVV.out.1, HT.out.2]
    exact put_udp _ _

set_option maxHeartbeats 4000000 in
set_option maxRecDepth 100000 in
theorem spec_seg_udp_no (s d sp dp q c f n : Int) (b : ByteArray) (w : World) (hok : SegM.Ok ⟨17, sp, dp, q, c, f, n, b⟩) (hp : ¬ pseudoOk s d 17 (SegM.len ⟨17, sp, dp, q, c, f, n, b⟩)) :
    Calls Try.prog 46 #[.int .i64 s, .int .i64 d, .agg #[.int .i64 17, .int .i64 sp, .int .i64 dp, .int .i64 q, .int .i64 c, .int .i64 f, .int .i64 n, .string b]] w fun r w' => r = .returned (.tuple #[.string ⟨#[]⟩, .bool false]) ∧ Below w.heap.size w w' := by
  have HV : Hid (∀ w1, Calls Try.prog 41 #[.agg #[.int .i64 17, .int .i64 sp, .int .i64 dp, .int .i64 q, .int .i64 c, .int .i64 f, .int .i64 n, .string b]] w1 fun r w' => r = .returned (.bool true) ∧ Below w1.heap.size w1 w') := Lib.hid fun w1 => by have := spec_segmentok ⟨17, sp, dp, q, c, f, n, b⟩ w1; rwa [decide_eq_true hok] at this
  obtain ⟨h1, h2, h7, hk⟩ := hok
  dsimp only at h1 h2 h7 hk
  have HP := Lib.hid hp
  clear hp
  clear hk
  have HWsp := Lib.hid fun W => (by have := spec_word16 sp W; rwa [word16_in _ h1] at this : Calls Try.prog 64 #[.int .i64 sp] W fun r w' => r = .returned (.string (w16 sp)) ∧ Below W.heap.size W w')
  have HWdp := Lib.hid fun W => (by have := spec_word16 dp W; rwa [word16_in _ h2] at this : Calls Try.prog 64 #[.int .i64 dp] W fun r w' => r = .returned (.string (w16 dp)) ∧ Below W.heap.size W w')
  have HWl := Lib.hid fun W => (by have := spec_word16 (8 + (b.size : Int)) W; rwa [word16_in _ (by omega)] at this : Calls Try.prog 64 #[.int .i64 (8 + (b.size : Int))] W fun r w' => r = .returned (.string (w16 (8 + (b.size : Int)))) ∧ Below W.heap.size W w')
  have HW0 := Lib.hid fun W => (by have := spec_word16 0 W; rwa [word16_in _ (by decide)] at this : Calls Try.prog 64 #[.int .i64 0] W fun r w' => r = .returned (.string (w16 0)) ∧ Below W.heap.size W w')
  have z1 : (w16 sp).size ≤ 2 := Nat.le_refl _
  have z2 : (w16 dp).size ≤ 2 := Nat.le_refl _
  have z3 : (w16 0).size ≤ 2 := Nat.le_refl _
  have z4 : (w16 (8 + (b.size : Int))).size ≤ 2 := Nat.le_refl _
  clear h1 h2
  go_enter Try.func46, Try.ntmps46
  go_wp2_with (go_at_call 41; refine (HV.out _).mono ?_; rintro e w1 ⟨rfl, hb1⟩)
  have hg1 : w.heap.size < w1.heap.size := by have := hb1.size; simp at this; omega
  have HB1 := Lib.hid ((Box.new w #[.int .i64 17, .int .i64 sp, .int .i64 dp, .int .i64 q, .int .i64 c, .int .i64 f, .int .i64 n, .string b] 28).below hb1 (by simp))
  have hb01 := below_comp (below_new _) hb1
  clear hb1
  refine wp_region_values (by kernel_rfl) (fun W => Below w1.heap.size w1 W) (Vals [.pointer (some ⟨w.heap.size, 1, none⟩), .int .i64 sp, .string (w16 sp), .pointer (some ⟨w.heap.size, 2, none⟩), .int .i64 dp, .string (w16 dp), .string ((w16 sp) ++ (w16 dp)), .string ((w16 sp) ++ (w16 dp))] [])
    88 rfl (by kernel_rfl) (by kernel_rfl) below_drew (eachOp_all ?_) ?_
  · refine ⟨?_, ?_, ?_, ?_, ?_, ?_, ?_, ?_, trivial⟩
    · intro a W hd hS hdep hfree
      have x5 : a.tmps.getD 5 undef = .pointer (some ⟨w.heap.size, 0, none⟩) := hfree 5 rfl
      clear hd hdep hfree
      simp only [Oper.wp, execOp]
      go_simp
      refine Nxt.mk _ rfl (fun _ _ => ?_) hS (fun _ _ h => h)
      rfl
    · intro a W hd hS hdep hfree
      have x16 : a.tmps.getD 16 undef = .pointer (some ⟨w.heap.size, 1, none⟩) := hdep 0 16 rfl rfl
      clear hd hdep hfree
      have c : W.cell? ⟨w.heap.size, 1, none⟩ = some (.int .i64 sp) := (HB1.out.below hS hg1).cell 1 (by simp)
      simp only [Oper.wp, execOp]
      go_simp
      refine Nxt.mk _ rfl (fun _ _ => ?_) hS (fun _ _ h => h)
      rfl
    · intro a W hd hS hdep hfree
      have x17 : a.tmps.getD 17 undef = .int .i64 sp := hdep 1 17 rfl rfl
      clear hd hdep hfree
      simp only [Oper.wp, execOp]
      go_simp
      refine (HWsp.out W).mono ?_
      rintro e W' ⟨rfl, hb⟩
      exact Nxt.mk _ rfl (fun _ _ => rfl) (below_comp hS hb) (fun j u h => Vals.below hb j u h)
    · intro a W hd hS hdep hfree
      have x5 : a.tmps.getD 5 undef = .pointer (some ⟨w.heap.size, 0, none⟩) := hfree 5 rfl
      clear hd hdep hfree
      simp only [Oper.wp, execOp]
      go_simp
      refine Nxt.mk _ rfl (fun _ _ => ?_) hS (fun _ _ h => h)
      rfl
    · intro a W hd hS hdep hfree
      have x19 : a.tmps.getD 19 undef = .pointer (some ⟨w.heap.size, 2, none⟩) := hdep 3 19 rfl rfl
      clear hd hdep hfree
      have c : W.cell? ⟨w.heap.size, 2, none⟩ = some (.int .i64 dp) := (HB1.out.below hS hg1).cell 2 (by simp)
      simp only [Oper.wp, execOp]
      go_simp
      refine Nxt.mk _ rfl (fun _ _ => ?_) hS (fun _ _ h => h)
      rfl
    · intro a W hd hS hdep hfree
      have x20 : a.tmps.getD 20 undef = .int .i64 dp := hdep 4 20 rfl rfl
      clear hd hdep hfree
      simp only [Oper.wp, execOp]
      go_simp
      refine (HWdp.out W).mono ?_
      rintro e W' ⟨rfl, hb⟩
      exact Nxt.mk _ rfl (fun _ _ => rfl) (below_comp hS hb) (fun j u h => Vals.below hb j u h)
    · intro a W hd hS hdep hfree
      have x18 : a.tmps.getD 18 undef = .string (w16 sp) := hdep 2 18 rfl rfl
      have x21 : a.tmps.getD 21 undef = .string (w16 dp) := hdep 5 21 rfl rfl
      clear hd hdep hfree
      have k : ¬ 9223372036854775807 < (w16 sp).size + (w16 dp).size := by (try simp only [ByteArray.size_append]); omega
      have k2 := k
      try simp only [ByteArray.size_append] at k2
      simp only [Oper.wp, execOp]
      go_simp
      refine Nxt.mk _ rfl (fun _ _ => ?_) hS (fun _ _ h => h)
      rfl
    · intro a W hd hS hdep hfree
      have x22 : a.tmps.getD 22 undef = .string ((w16 sp) ++ (w16 dp)) := hdep 6 22 rfl rfl
      clear hd hdep hfree
      simp only [Oper.wp, execOp]
      go_simp
      refine Nxt.mk _ rfl (fun _ _ => ?_) hS (fun _ _ h => h)
      rfl
  intro a W2 hs hd hS2 hdone hrest
  have ea := written_all [.pointer (some ⟨w.heap.size, 1, none⟩), .int .i64 sp, .string (w16 sp), .pointer (some ⟨w.heap.size, 2, none⟩), .int .i64 dp, .string (w16 dp), .string ((w16 sp) ++ (w16 dp)), .string ((w16 sp) ++ (w16 dp))] rfl hs hd hrest hdone
  clear hs hd hdone hrest
  subst ea
  simp only [written, List.map_cons, List.map_nil, List.zip_cons_cons, List.zip_nil_right, putAll]
  simp only [Exit.then, Act.put, List.setIfInBounds_toArray, List.set_cons_zero, List.set_cons_succ]
  have hg2 : w.heap.size < W2.heap.size := Nat.lt_of_lt_of_le hg1 hS2.size
  have HB2 := Lib.hid (HB1.out.below hS2 hg1)
  have hb02 := below_comp hb01 hS2
  have c0 : W2.cell? ⟨w.heap.size, 0, none⟩ = some (.int .i64 17) := HB2.out.cell 0 (by simp)
  clear hS2

  have c7 : W2.cell? ⟨w.heap.size, 7, none⟩ = some (.string b) := HB2.out.cell 7 (by simp)
  go_upto_region 9 with (first
    | (go_at_call_of 64 (Value.int .i64 0); refine (HW0.out _).mono ?_; rintro e W3 ⟨rfl, hb3b⟩)
    | (go_at_call 64; refine (HWl.out _).mono ?_; rintro e W2b ⟨rfl, hb3a⟩))
  have hS3 := below_comp hb3a hb3b
  clear c0 c7 hb3a hb3b
  have hg3 : w.heap.size < W3.heap.size := Nat.lt_of_lt_of_le hg2 hS3.size
  have HB3 := Lib.hid (HB2.out.below hS3 hg2)
  have hb03 := below_comp hb02 hS3
  clear hS3
  obtain ⟨U, HU⟩ : ∃ U : ByteArray, Hid (U = w16 sp ++ w16 dp ++ w16 (8 + (b.size : Int)) ++ w16 0) := ⟨_, Lib.hid rfl⟩
  rw [← HU.out]
  obtain ⟨T, HT⟩ : ∃ T : ByteArray, Hid (U ++ b = T ∧ T = SegM.udp ⟨17, sp, dp, q, c, f, n, b⟩ 0) := ⟨_, Lib.hid ⟨rfl, by rw [HU.out]; exact rfl⟩⟩
  have hU : U.size ≤ 20 := by rw [HU.out]; simp only [ByteArray.size_append]; omega
  have HL : Hid (SegM.len ⟨17, sp, dp, q, c, f, n, b⟩ = (T.size : Int)) := Lib.hid (by rw [HT.out.2]; rfl)
  have hT : T.size ≤ 340 := by rw [HT.out.2, SegM.udp_size]; show _ + b.size ≤ 340; omega
  have c0 : W3.cell? ⟨w.heap.size, 0, none⟩ = some (.int .i64 17) := HB3.out.cell 0 (by simp)
  have c7 : W3.cell? ⟨w.heap.size, 7, none⟩ = some (.string b) := HB3.out.cell 7 (by simp)
  have k1 : ¬ 9223372036854775807 < U.size + b.size := by omega
  go_wp2_with fail
  have hLe : (U.size : Int) + (b.size : Int) = (T.size : Int) := by rw [← HT.out.1, ByteArray.size_append]; omega
  rw [HT.out.1, hLe]
  clear hLe k1 hU

  refine (spec_pseudo_no s d 17 (T.size : Int) _ (by rw [← HL.out]; exact HP.out)).mono ?_
  rintro e w4 ⟨rfl, hb4⟩
  go_wp2
  go_ret2
  exact ⟨rfl, below_comp hb03 hb4⟩

set_option maxHeartbeats 4000000 in
set_option maxRecDepth 100000 in
theorem spec_seg_tcp_yes (s d sp dp q c f n : Int) (b : ByteArray) (w : World) (hok : SegM.Ok ⟨6, sp, dp, q, c, f, n, b⟩) (hp :  pseudoOk s d 6 (SegM.len ⟨6, sp, dp, q, c, f, n, b⟩)) :
    Calls Try.prog 46 #[.int .i64 s, .int .i64 d, .agg #[.int .i64 6, .int .i64 sp, .int .i64 dp, .int .i64 q, .int .i64 c, .int .i64 f, .int .i64 n, .string b]] w fun r w' => r = .returned (.tuple #[.string (SegM.tcp ⟨6, sp, dp, q, c, f, n, b⟩ (SegM.check ⟨6, sp, dp, q, c, f, n, b⟩ s d)), .bool true]) ∧ Below w.heap.size w w' := by
  have HV : Hid (∀ w1, Calls Try.prog 41 #[.agg #[.int .i64 6, .int .i64 sp, .int .i64 dp, .int .i64 q, .int .i64 c, .int .i64 f, .int .i64 n, .string b]] w1 fun r w' => r = .returned (.bool true) ∧ Below w1.heap.size w1 w') := Lib.hid fun w1 => by have := spec_segmentok ⟨6, sp, dp, q, c, f, n, b⟩ w1; rwa [decide_eq_true hok] at this
  obtain ⟨h1, h2, h7, hk⟩ := hok
  dsimp only at h1 h2 h7 hk
  have HP := Lib.hid hp
  clear hp
  obtain ⟨h3, h4, h5, h6⟩ : (0 ≤ q ∧ q ≤ 4294967295) ∧ (0 ≤ c ∧ c ≤ 4294967295) ∧ (0 ≤ f ∧ f ≤ 31) ∧ (0 ≤ n ∧ n ≤ 65535) := by omega
  clear hk
  have HWsp := Lib.hid fun W => (by have := spec_word16 sp W; rwa [word16_in _ h1] at this : Calls Try.prog 64 #[.int .i64 sp] W fun r w' => r = .returned (.string (w16 sp)) ∧ Below W.heap.size W w')
  have HWdp := Lib.hid fun W => (by have := spec_word16 dp W; rwa [word16_in _ h2] at this : Calls Try.prog 64 #[.int .i64 dp] W fun r w' => r = .returned (.string (w16 dp)) ∧ Below W.heap.size W w')
  have HW_q := Lib.hid fun W => (by have := spec_word32 q W; rwa [word32_in _ h3] at this : Calls Try.prog 65 #[.int .i64 q] W fun r w' => r = .returned (.string (w32 q)) ∧ Below W.heap.size W w')
  have HW_c := Lib.hid fun W => (by have := spec_word32 c W; rwa [word32_in _ h4] at this : Calls Try.prog 65 #[.int .i64 c] W fun r w' => r = .returned (.string (w32 c)) ∧ Below W.heap.size W w')
  have HWn := Lib.hid fun W => (by have := spec_word16 n W; rwa [word16_in _ h6] at this : Calls Try.prog 64 #[.int .i64 n] W fun r w' => r = .returned (.string (w16 n)) ∧ Below W.heap.size W w')
  have HW_0 := Lib.hid fun W => (by have := spec_word32 0 W; rwa [word32_in _ (by decide)] at this : Calls Try.prog 65 #[.int .i64 0] W fun r w' => r = .returned (.string (w32 0)) ∧ Below W.heap.size W w')
  have HC := Lib.hid fun g W => conv_two_at 5 80 (f % 256) (by decide) (by omega) g W
  have z8 : (two 80 (f % 256)).size ≤ 2 := Nat.le_refl _
  have z9 : (w32 q).size ≤ 4 := Nat.le_refl _
  have z10 : (w32 c).size ≤ 4 := Nat.le_refl _
  have z11 : (w16 n).size ≤ 2 := Nat.le_refl _
  have z12 : (w32 0).size ≤ 4 := Nat.le_refl _
  clear h3 h4 h5 h6
  have z1 : (w16 sp).size ≤ 2 := Nat.le_refl _
  have z2 : (w16 dp).size ≤ 2 := Nat.le_refl _
  have z3 : (w16 0).size ≤ 2 := Nat.le_refl _
  have z4 : (w16 (8 + (b.size : Int))).size ≤ 2 := Nat.le_refl _
  clear h1 h2
  go_enter Try.func46, Try.ntmps46
  go_wp2_with (go_at_call 41; refine (HV.out _).mono ?_; rintro e w1 ⟨rfl, hb1⟩)
  have hg1 : w.heap.size < w1.heap.size := by have := hb1.size; simp at this; omega
  have HB1 := Lib.hid ((Box.new w #[.int .i64 6, .int .i64 sp, .int .i64 dp, .int .i64 q, .int .i64 c, .int .i64 f, .int .i64 n, .string b] 28).below hb1 (by simp))
  have hb01 := below_comp (below_new _) hb1
  clear hb1
  refine wp_region_values (by kernel_rfl) (fun W => Below w1.heap.size w1 W) (Vals [.pointer (some ⟨w.heap.size, 1, none⟩), .int .i64 sp, .string (w16 sp), .pointer (some ⟨w.heap.size, 2, none⟩), .int .i64 dp, .string (w16 dp), .string ((w16 sp) ++ (w16 dp)), .string ((w16 sp) ++ (w16 dp))] [])
    88 rfl (by kernel_rfl) (by kernel_rfl) below_drew (eachOp_all ?_) ?_
  · refine ⟨?_, ?_, ?_, ?_, ?_, ?_, ?_, ?_, trivial⟩
    · intro a W hd hS hdep hfree
      have x5 : a.tmps.getD 5 undef = .pointer (some ⟨w.heap.size, 0, none⟩) := hfree 5 rfl
      clear hd hdep hfree
      simp only [Oper.wp, execOp]
      go_simp
      refine Nxt.mk _ rfl (fun _ _ => ?_) hS (fun _ _ h => h)
      rfl
    · intro a W hd hS hdep hfree
      have x16 : a.tmps.getD 16 undef = .pointer (some ⟨w.heap.size, 1, none⟩) := hdep 0 16 rfl rfl
      clear hd hdep hfree
      have c : W.cell? ⟨w.heap.size, 1, none⟩ = some (.int .i64 sp) := (HB1.out.below hS hg1).cell 1 (by simp)
      simp only [Oper.wp, execOp]
      go_simp
      refine Nxt.mk _ rfl (fun _ _ => ?_) hS (fun _ _ h => h)
      rfl
    · intro a W hd hS hdep hfree
      have x17 : a.tmps.getD 17 undef = .int .i64 sp := hdep 1 17 rfl rfl
      clear hd hdep hfree
      simp only [Oper.wp, execOp]
      go_simp
      refine (HWsp.out W).mono ?_
      rintro e W' ⟨rfl, hb⟩
      exact Nxt.mk _ rfl (fun _ _ => rfl) (below_comp hS hb) (fun j u h => Vals.below hb j u h)
    · intro a W hd hS hdep hfree
      have x5 : a.tmps.getD 5 undef = .pointer (some ⟨w.heap.size, 0, none⟩) := hfree 5 rfl
      clear hd hdep hfree
      simp only [Oper.wp, execOp]
      go_simp
      refine Nxt.mk _ rfl (fun _ _ => ?_) hS (fun _ _ h => h)
      rfl
    · intro a W hd hS hdep hfree
      have x19 : a.tmps.getD 19 undef = .pointer (some ⟨w.heap.size, 2, none⟩) := hdep 3 19 rfl rfl
      clear hd hdep hfree
      have c : W.cell? ⟨w.heap.size, 2, none⟩ = some (.int .i64 dp) := (HB1.out.below hS hg1).cell 2 (by simp)
      simp only [Oper.wp, execOp]
      go_simp
      refine Nxt.mk _ rfl (fun _ _ => ?_) hS (fun _ _ h => h)
      rfl
    · intro a W hd hS hdep hfree
      have x20 : a.tmps.getD 20 undef = .int .i64 dp := hdep 4 20 rfl rfl
      clear hd hdep hfree
      simp only [Oper.wp, execOp]
      go_simp
      refine (HWdp.out W).mono ?_
      rintro e W' ⟨rfl, hb⟩
      exact Nxt.mk _ rfl (fun _ _ => rfl) (below_comp hS hb) (fun j u h => Vals.below hb j u h)
    · intro a W hd hS hdep hfree
      have x18 : a.tmps.getD 18 undef = .string (w16 sp) := hdep 2 18 rfl rfl
      have x21 : a.tmps.getD 21 undef = .string (w16 dp) := hdep 5 21 rfl rfl
      clear hd hdep hfree
      have k : ¬ 9223372036854775807 < (w16 sp).size + (w16 dp).size := by (try simp only [ByteArray.size_append]); omega
      have k2 := k
      try simp only [ByteArray.size_append] at k2
      simp only [Oper.wp, execOp]
      go_simp
      refine Nxt.mk _ rfl (fun _ _ => ?_) hS (fun _ _ h => h)
      rfl
    · intro a W hd hS hdep hfree
      have x22 : a.tmps.getD 22 undef = .string ((w16 sp) ++ (w16 dp)) := hdep 6 22 rfl rfl
      clear hd hdep hfree
      simp only [Oper.wp, execOp]
      go_simp
      refine Nxt.mk _ rfl (fun _ _ => ?_) hS (fun _ _ h => h)
      rfl
  intro a W2 hs hd hS2 hdone hrest
  have ea := written_all [.pointer (some ⟨w.heap.size, 1, none⟩), .int .i64 sp, .string (w16 sp), .pointer (some ⟨w.heap.size, 2, none⟩), .int .i64 dp, .string (w16 dp), .string ((w16 sp) ++ (w16 dp)), .string ((w16 sp) ++ (w16 dp))] rfl hs hd hrest hdone
  clear hs hd hdone hrest
  subst ea
  simp only [written, List.map_cons, List.map_nil, List.zip_cons_cons, List.zip_nil_right, putAll]
  simp only [Exit.then, Act.put, List.setIfInBounds_toArray, List.set_cons_zero, List.set_cons_succ]
  have hg2 : w.heap.size < W2.heap.size := Nat.lt_of_lt_of_le hg1 hS2.size
  have HB2 := Lib.hid (HB1.out.below hS2 hg1)
  have hb02 := below_comp hb01 hS2
  have c0 : W2.cell? ⟨w.heap.size, 0, none⟩ = some (.int .i64 6) := HB2.out.cell 0 (by simp)
  clear hS2

  go_wp2_with fail
  clear c0
  refine wp_region_values (by kernel_rfl) (fun W => Below W2.heap.size W2 W) (Vals [.string ((w16 sp) ++ (w16 dp)), .pointer (some ⟨w.heap.size, 3, none⟩), .int .i64 q, .string (w32 q), .string (((w16 sp) ++ (w16 dp)) ++ (w32 q)), .pointer (some ⟨w.heap.size, 4, none⟩), .int .i64 c, .string (w32 c), .string ((((w16 sp) ++ (w16 dp)) ++ (w32 q)) ++ (w32 c)), .pointer (some ⟨w.heap.size, 5, none⟩), .int .i64 f, .int .u8 (f % 256), undef, .string (two 80 (f % 256)), .string (((((w16 sp) ++ (w16 dp)) ++ (w32 q)) ++ (w32 c)) ++ (two 80 (f % 256))), .pointer (some ⟨w.heap.size, 6, none⟩), .int .i64 n, .string (w16 n), .string ((((((w16 sp) ++ (w16 dp)) ++ (w32 q)) ++ (w32 c)) ++ (two 80 (f % 256))) ++ (w16 n)), .string (w32 0), .string (((((((w16 sp) ++ (w16 dp)) ++ (w32 q)) ++ (w32 c)) ++ (two 80 (f % 256))) ++ (w16 n)) ++ (w32 0)), .string (((((((w16 sp) ++ (w16 dp)) ++ (w32 q)) ++ (w32 c)) ++ (two 80 (f % 256))) ++ (w16 n)) ++ (w32 0))] [(12, #[.int .u8 80, .int .u8 (f % 256)], 5, 2)])
    88 rfl (by kernel_rfl) (by kernel_rfl) below_drew (eachOp_all ?_) ?_
  · refine ⟨?_, ?_, ?_, ?_, ?_, ?_, ?_, ?_, ?_, ?_, ?_, ?_, ?_, ?_, ?_, ?_, ?_, ?_, ?_, ?_, ?_, ?_, trivial⟩
    · intro a W hd hS hdep hfree
      have x8 : a.tmps.getD 8 undef = .string ((w16 sp) ++ (w16 dp)) := hfree 8 rfl
      clear hd hdep hfree
      simp only [Oper.wp, execOp]
      go_simp
      refine Nxt.mk _ rfl (fun _ _ => ?_) hS (fun _ _ h => h)
      rfl
    · intro a W hd hS hdep hfree
      have x5 : a.tmps.getD 5 undef = .pointer (some ⟨w.heap.size, 0, none⟩) := hfree 5 rfl
      clear hd hdep hfree
      simp only [Oper.wp, execOp]
      go_simp
      refine Nxt.mk _ rfl (fun _ _ => ?_) hS (fun _ _ h => h)
      rfl
    · intro a W hd hS hdep hfree
      have x27 : a.tmps.getD 27 undef = .pointer (some ⟨w.heap.size, 3, none⟩) := hdep 1 27 rfl rfl
      clear hd hdep hfree
      have c : W.cell? ⟨w.heap.size, 3, none⟩ = some (.int .i64 q) := (HB2.out.below hS hg2).cell 3 (by simp)
      simp only [Oper.wp, execOp]
      go_simp
      refine Nxt.mk _ rfl (fun _ _ => ?_) hS (fun _ _ h => h)
      rfl
    · intro a W hd hS hdep hfree
      have x28 : a.tmps.getD 28 undef = .int .i64 q := hdep 2 28 rfl rfl
      clear hd hdep hfree
      simp only [Oper.wp, execOp]
      go_simp
      refine (HW_q.out W).mono ?_
      rintro e W' ⟨rfl, hb⟩
      exact Nxt.mk _ rfl (fun _ _ => rfl) (below_comp hS hb) (fun j u h => Vals.below hb j u h)
    · intro a W hd hS hdep hfree
      have x26 : a.tmps.getD 26 undef = .string ((w16 sp) ++ (w16 dp)) := hdep 0 26 rfl rfl
      have x29 : a.tmps.getD 29 undef = .string (w32 q) := hdep 3 29 rfl rfl
      clear hd hdep hfree
      have k : ¬ 9223372036854775807 < ((w16 sp) ++ (w16 dp)).size + (w32 q).size := by (try simp only [ByteArray.size_append]); omega
      have k2 := k
      try simp only [ByteArray.size_append] at k2
      simp only [Oper.wp, execOp]
      go_simp
      refine Nxt.mk _ rfl (fun _ _ => ?_) hS (fun _ _ h => h)
      rfl
    · intro a W hd hS hdep hfree
      have x5 : a.tmps.getD 5 undef = .pointer (some ⟨w.heap.size, 0, none⟩) := hfree 5 rfl
      clear hd hdep hfree
      simp only [Oper.wp, execOp]
      go_simp
      refine Nxt.mk _ rfl (fun _ _ => ?_) hS (fun _ _ h => h)
      rfl
    · intro a W hd hS hdep hfree
      have x31 : a.tmps.getD 31 undef = .pointer (some ⟨w.heap.size, 4, none⟩) := hdep 5 31 rfl rfl
      clear hd hdep hfree
      have c : W.cell? ⟨w.heap.size, 4, none⟩ = some (.int .i64 c) := (HB2.out.below hS hg2).cell 4 (by simp)
      simp only [Oper.wp, execOp]
      go_simp
      refine Nxt.mk _ rfl (fun _ _ => ?_) hS (fun _ _ h => h)
      rfl
    · intro a W hd hS hdep hfree
      have x32 : a.tmps.getD 32 undef = .int .i64 c := hdep 6 32 rfl rfl
      clear hd hdep hfree
      simp only [Oper.wp, execOp]
      go_simp
      refine (HW_c.out W).mono ?_
      rintro e W' ⟨rfl, hb⟩
      exact Nxt.mk _ rfl (fun _ _ => rfl) (below_comp hS hb) (fun j u h => Vals.below hb j u h)
    · intro a W hd hS hdep hfree
      have x30 : a.tmps.getD 30 undef = .string (((w16 sp) ++ (w16 dp)) ++ (w32 q)) := hdep 4 30 rfl rfl
      have x33 : a.tmps.getD 33 undef = .string (w32 c) := hdep 7 33 rfl rfl
      clear hd hdep hfree
      have k : ¬ 9223372036854775807 < (((w16 sp) ++ (w16 dp)) ++ (w32 q)).size + (w32 c).size := by (try simp only [ByteArray.size_append]); omega
      have k2 := k
      try simp only [ByteArray.size_append] at k2
      simp only [Oper.wp, execOp]
      go_simp
      refine Nxt.mk _ rfl (fun _ _ => ?_) hS (fun _ _ h => h)
      rfl
    · intro a W hd hS hdep hfree
      have x5 : a.tmps.getD 5 undef = .pointer (some ⟨w.heap.size, 0, none⟩) := hfree 5 rfl
      clear hd hdep hfree
      simp only [Oper.wp, execOp]
      go_simp
      refine Nxt.mk _ rfl (fun _ _ => ?_) hS (fun _ _ h => h)
      rfl
    · intro a W hd hS hdep hfree
      have x35 : a.tmps.getD 35 undef = .pointer (some ⟨w.heap.size, 5, none⟩) := hdep 9 35 rfl rfl
      clear hd hdep hfree
      have c : W.cell? ⟨w.heap.size, 5, none⟩ = some (.int .i64 f) := (HB2.out.below hS hg2).cell 5 (by simp)
      simp only [Oper.wp, execOp]
      go_simp
      refine Nxt.mk _ rfl (fun _ _ => ?_) hS (fun _ _ h => h)
      rfl
    · intro a W hd hS hdep hfree
      have x36 : a.tmps.getD 36 undef = .int .i64 f := hdep 10 36 rfl rfl
      clear hd hdep hfree
      simp only [Oper.wp, execOp]
      go_simp
      refine Nxt.mk _ rfl (fun _ _ => ?_) hS (fun _ _ h => h)
      rfl
    · intro a W hd hS hdep hfree
      have x37 : a.tmps.getD 37 undef = .int .u8 (f % 256) := hdep 11 37 rfl rfl
      have y37 : a.tmps[37]?.getD undef = .int .u8 (f % 256) := by rw [← Array.getD_eq_getD_getElem?]; exact x37
      clear hd hdep hfree
      simp only [Oper.wp, execOp]
      go_simp
      exact Nxt.mk _ rfl (fun _ _ => ⟨W.heap.size, rfl, heap_alloc_new W _, by simp⟩) (below_comp hS (below_new _)) (fun j u h => Vals.below (below_new _) j u h)
    · intro a W hd hS hdep hfree
      obtain ⟨g38, x38, hx38, hl38⟩ : SliceAt W (a.tmps.getD 38 undef) #[.int .u8 80, .int .u8 (f % 256)] 5 2 := hdep 12 38 rfl rfl
      clear hd hdep hfree
      have hcv := HC.out g38 W hx38
      simp only [Oper.wp, execOp]
      go_simp
      refine Nxt.mk _ rfl (fun _ _ => ?_) hS (fun _ _ h => h)
      rfl
    · intro a W hd hS hdep hfree
      have x34 : a.tmps.getD 34 undef = .string ((((w16 sp) ++ (w16 dp)) ++ (w32 q)) ++ (w32 c)) := hdep 8 34 rfl rfl
      have x39 : a.tmps.getD 39 undef = .string (two 80 (f % 256)) := hdep 13 39 rfl rfl
      clear hd hdep hfree
      have k : ¬ 9223372036854775807 < ((((w16 sp) ++ (w16 dp)) ++ (w32 q)) ++ (w32 c)).size + (two 80 (f % 256)).size := by (try simp only [ByteArray.size_append]); omega
      have k2 := k
      try simp only [ByteArray.size_append] at k2
      simp only [Oper.wp, execOp]
      go_simp
      refine Nxt.mk _ rfl (fun _ _ => ?_) hS (fun _ _ h => h)
      rfl
    · intro a W hd hS hdep hfree
      have x5 : a.tmps.getD 5 undef = .pointer (some ⟨w.heap.size, 0, none⟩) := hfree 5 rfl
      clear hd hdep hfree
      simp only [Oper.wp, execOp]
      go_simp
      refine Nxt.mk _ rfl (fun _ _ => ?_) hS (fun _ _ h => h)
      rfl
    · intro a W hd hS hdep hfree
      have x41 : a.tmps.getD 41 undef = .pointer (some ⟨w.heap.size, 6, none⟩) := hdep 15 41 rfl rfl
      clear hd hdep hfree
      have c : W.cell? ⟨w.heap.size, 6, none⟩ = some (.int .i64 n) := (HB2.out.below hS hg2).cell 6 (by simp)
      simp only [Oper.wp, execOp]
      go_simp
      refine Nxt.mk _ rfl (fun _ _ => ?_) hS (fun _ _ h => h)
      rfl
    · intro a W hd hS hdep hfree
      have x42 : a.tmps.getD 42 undef = .int .i64 n := hdep 16 42 rfl rfl
      clear hd hdep hfree
      simp only [Oper.wp, execOp]
      go_simp
      refine (HWn.out W).mono ?_
      rintro e W' ⟨rfl, hb⟩
      exact Nxt.mk _ rfl (fun _ _ => rfl) (below_comp hS hb) (fun j u h => Vals.below hb j u h)
    · intro a W hd hS hdep hfree
      have x40 : a.tmps.getD 40 undef = .string (((((w16 sp) ++ (w16 dp)) ++ (w32 q)) ++ (w32 c)) ++ (two 80 (f % 256))) := hdep 14 40 rfl rfl
      have x43 : a.tmps.getD 43 undef = .string (w16 n) := hdep 17 43 rfl rfl
      clear hd hdep hfree
      have k : ¬ 9223372036854775807 < (((((w16 sp) ++ (w16 dp)) ++ (w32 q)) ++ (w32 c)) ++ (two 80 (f % 256))).size + (w16 n).size := by (try simp only [ByteArray.size_append]); omega
      have k2 := k
      try simp only [ByteArray.size_append] at k2
      simp only [Oper.wp, execOp]
      go_simp
      refine Nxt.mk _ rfl (fun _ _ => ?_) hS (fun _ _ h => h)
      rfl
    · intro a W hd hS hdep hfree
      clear hd hdep hfree
      simp only [Oper.wp, execOp]
      go_simp
      refine (HW_0.out W).mono ?_
      rintro e W' ⟨rfl, hb⟩
      exact Nxt.mk _ rfl (fun _ _ => rfl) (below_comp hS hb) (fun j u h => Vals.below hb j u h)
    · intro a W hd hS hdep hfree
      have x44 : a.tmps.getD 44 undef = .string ((((((w16 sp) ++ (w16 dp)) ++ (w32 q)) ++ (w32 c)) ++ (two 80 (f % 256))) ++ (w16 n)) := hdep 18 44 rfl rfl
      have x45 : a.tmps.getD 45 undef = .string (w32 0) := hdep 19 45 rfl rfl
      clear hd hdep hfree
      have k : ¬ 9223372036854775807 < ((((((w16 sp) ++ (w16 dp)) ++ (w32 q)) ++ (w32 c)) ++ (two 80 (f % 256))) ++ (w16 n)).size + (w32 0).size := by (try simp only [ByteArray.size_append]); omega
      have k2 := k
      try simp only [ByteArray.size_append] at k2
      simp only [Oper.wp, execOp]
      go_simp
      refine Nxt.mk _ rfl (fun _ _ => ?_) hS (fun _ _ h => h)
      rfl
    · intro a W hd hS hdep hfree
      have x46 : a.tmps.getD 46 undef = .string (((((((w16 sp) ++ (w16 dp)) ++ (w32 q)) ++ (w32 c)) ++ (two 80 (f % 256))) ++ (w16 n)) ++ (w32 0)) := hdep 20 46 rfl rfl
      clear hd hdep hfree
      simp only [Oper.wp, execOp]
      go_simp
      refine Nxt.mk _ rfl (fun _ _ => ?_) hS (fun _ _ h => h)
      rfl
  intro a W3 hs hd hS3 hdone hrest
  obtain ⟨u38, hu38⟩ : ∃ u, a.tmps.getD 38 undef = u := ⟨_, rfl⟩
  have ea := written_all [.string ((w16 sp) ++ (w16 dp)), .pointer (some ⟨w.heap.size, 3, none⟩), .int .i64 q, .string (w32 q), .string (((w16 sp) ++ (w16 dp)) ++ (w32 q)), .pointer (some ⟨w.heap.size, 4, none⟩), .int .i64 c, .string (w32 c), .string ((((w16 sp) ++ (w16 dp)) ++ (w32 q)) ++ (w32 c)), .pointer (some ⟨w.heap.size, 5, none⟩), .int .i64 f, .int .u8 (f % 256), u38, .string (two 80 (f % 256)), .string (((((w16 sp) ++ (w16 dp)) ++ (w32 q)) ++ (w32 c)) ++ (two 80 (f % 256))), .pointer (some ⟨w.heap.size, 6, none⟩), .int .i64 n, .string (w16 n), .string ((((((w16 sp) ++ (w16 dp)) ++ (w32 q)) ++ (w32 c)) ++ (two 80 (f % 256))) ++ (w16 n)), .string (w32 0), .string (((((((w16 sp) ++ (w16 dp)) ++ (w32 q)) ++ (w32 c)) ++ (two 80 (f % 256))) ++ (w16 n)) ++ (w32 0)), .string (((((((w16 sp) ++ (w16 dp)) ++ (w32 q)) ++ (w32 c)) ++ (two 80 (f % 256))) ++ (w16 n)) ++ (w32 0))] rfl hs hd hrest (fun j d hj => by
    have h := hdone j d hj
    match j, hj, h with
    | 0, _, h => exact h
    | 1, _, h => exact h
    | 2, _, h => exact h
    | 3, _, h => exact h
    | 4, _, h => exact h
    | 5, _, h => exact h
    | 6, _, h => exact h
    | 7, _, h => exact h
    | 8, _, h => exact h
    | 9, _, h => exact h
    | 10, _, h => exact h
    | 11, _, h => exact h
    | 12, hj, _ => exact (Option.some.inj hj) ▸ hu38
    | 13, _, h => exact h
    | 14, _, h => exact h
    | 15, _, h => exact h
    | 16, _, h => exact h
    | 17, _, h => exact h
    | 18, _, h => exact h
    | 19, _, h => exact h
    | 20, _, h => exact h
    | 21, _, h => exact h
    | n + 22, hj, _ => exact absurd (dstOf_lt hj) (by simp))
  clear hu38
  clear hs hd hdone hrest
  subst ea
  simp only [written, List.map_cons, List.map_nil, List.zip_cons_cons, List.zip_nil_right, putAll]
  simp only [Exit.then, Act.put, List.setIfInBounds_toArray, List.set_cons_zero, List.set_cons_succ]
  have hg3 : w.heap.size < W3.heap.size := Nat.lt_of_lt_of_le hg2 hS3.size
  have HB3 := Lib.hid (HB2.out.below hS3 hg2)
  have hb03 := below_comp hb02 hS3
  clear hS3
  obtain ⟨U, HU⟩ : ∃ U : ByteArray, Hid (U = ((((((w16 sp) ++ (w16 dp)) ++ (w32 q)) ++ (w32 c)) ++ (two 80 (f % 256))) ++ (w16 n)) ++ (w32 0)) := ⟨_, Lib.hid rfl⟩
  rw [← HU.out]
  obtain ⟨T, HT⟩ : ∃ T : ByteArray, Hid (U ++ b = T ∧ T = SegM.tcp ⟨6, sp, dp, q, c, f, n, b⟩ 0) := ⟨_, Lib.hid ⟨rfl, by rw [HU.out]; exact (tcp_zero ⟨6, sp, dp, q, c, f, n, b⟩)⟩⟩
  have hU : U.size ≤ 20 := by rw [HU.out]; simp only [ByteArray.size_append]; omega
  have HL : Hid (SegM.len ⟨6, sp, dp, q, c, f, n, b⟩ = (T.size : Int)) := Lib.hid (by rw [HT.out.2]; rfl)
  have hT : T.size ≤ 340 := by rw [HT.out.2, SegM.tcp_size]; show _ + b.size ≤ 340; omega
  have c0 : W3.cell? ⟨w.heap.size, 0, none⟩ = some (.int .i64 6) := HB3.out.cell 0 (by simp)
  have c7 : W3.cell? ⟨w.heap.size, 7, none⟩ = some (.string b) := HB3.out.cell 7 (by simp)
  have k1 : ¬ 9223372036854775807 < U.size + b.size := by omega
  go_wp2_with fail
  have hLe : (U.size : Int) + (b.size : Int) = (T.size : Int) := by rw [← HT.out.1, ByteArray.size_append]; omega
  rw [HT.out.1, hLe]
  clear hLe k1 hU

  refine (spec_pseudo_yes s d 6 (T.size : Int) _ (by rw [← HL.out]; exact HP.out)).mono ?_
  obtain ⟨P, HPP, hPs⟩ : ∃ P : ByteArray, Hid (pseudoB s d 6 (T.size : Int) = P) ∧ P.size ≤ 12 := ⟨_, Lib.hid rfl, by rw [pseudo_size]; omega⟩
  rw [HPP.out]
  rintro e w4 ⟨rfl, hb4⟩
  obtain ⟨hc, hf, _⟩ := bcell hb4
  have hg4 : w.heap.size < w4.heap.size := Nat.lt_of_lt_of_le hg3 hb4.size
  obtain ⟨X, HX⟩ : ∃ X : Int, Hid (65535 - sumW (P ++ T) = X) := ⟨_, Lib.hid rfl⟩
  have hX : 0 ≤ X ∧ X ≤ 65535 := by have := sumW_bd (P ++ T); rw [← HX.out]; omega
  have HCk := Lib.hid fun W => (by have := spec_checksum_any (P ++ T) W (by rw [ByteArray.size_append]; omega); rwa [HX.out] at this : Calls Try.prog 67 #[.string (P ++ T)] W fun r w' => r = .returned (.int .i64 X) ∧ Below W.heap.size W w')
  have HRaw : Hid (SegM.raw ⟨6, sp, dp, q, c, f, n, b⟩ s d = X) := Lib.hid (by unfold SegM.raw; rw [HL.out, ← HX.out, ← HPP.out]; show 65535 - sumW (_ ++ SegM.tcp _ 0) = _; rw [← HT.out.2])
  have k2 : ¬ 9223372036854775807 < P.size + T.size := by omega
  have HXb := Lib.hid hX
  rcases (show X = 0 ∨ X ≠ 0 by omega) with hx | hx
  case' inl =>
    obtain ⟨V, HVV, hV⟩ : ∃ V : Int, Hid (V = 0 ∧ SegM.check ⟨6, sp, dp, q, c, f, n, b⟩ s d = V) ∧ 0 ≤ V ∧ V ≤ 65535 := ⟨0, Lib.hid ⟨rfl, by unfold SegM.check; rw [HRaw.out, hx]; rfl⟩, by decide⟩
    subst hx
  case' inr =>
    have e0 : (X == 0) = false := by rw [beq_eq_false_iff_ne]; exact hx
    obtain ⟨V, HVV, hV⟩ : ∃ V : Int, Hid (V = X ∧ SegM.check ⟨6, sp, dp, q, c, f, n, b⟩ s d = V) ∧ 0 ≤ V ∧ V ≤ 65535 := ⟨X, Lib.hid ⟨rfl, by unfold SegM.check; rw [HRaw.out, if_neg (fun h => hx h.1)]⟩, hX⟩
    have hxi := Lib.hid hx
    clear hx
  all_goals
    have HWV := Lib.hid fun W => (by have := spec_word16 V W; rwa [word16_in _ hV] at this : Calls Try.prog 64 #[.int .i64 V] W fun r w' => r = .returned (.string (w16 V)) ∧ Below W.heap.size W w')
    have HPV := Lib.hid fun W => spec_put_any T 16 (w16 V) W (by omega) (by show 2 ≤ 4194304; decide) (by decide)
    have hzV : (w16 V).size ≤ 2 := Nat.le_refl _
    rw [HVV.out.1] at HWV HPV
    clear hV hX
    go_wp2_with (first
      | (go_at_call 67; refine (HCk.out _).mono ?_; rintro e w5 ⟨rfl, hb5⟩; obtain ⟨hc5, hf5, _⟩ := bcell hb5)
      | (go_at_call 64; refine (HWV.out _).mono ?_; rintro e w6 ⟨rfl, hb6⟩)
      | (go_at_call 68; refine (HPV.out _).mono ?_; rintro e w7 ⟨rfl, hb7⟩))
    go_ret2
    refine ⟨ret_str_bool ?_ rfl, below_comp (below_comp (below_comp (below_comp hb03 hb4) hb5) hb6) hb7⟩
    rw [HVV.out.2, ← HVV.out.1, HT.out.2]
    exact put_tcp _ _

set_option maxHeartbeats 4000000 in
set_option maxRecDepth 100000 in
theorem spec_seg_tcp_no (s d sp dp q c f n : Int) (b : ByteArray) (w : World) (hok : SegM.Ok ⟨6, sp, dp, q, c, f, n, b⟩) (hp : ¬ pseudoOk s d 6 (SegM.len ⟨6, sp, dp, q, c, f, n, b⟩)) :
    Calls Try.prog 46 #[.int .i64 s, .int .i64 d, .agg #[.int .i64 6, .int .i64 sp, .int .i64 dp, .int .i64 q, .int .i64 c, .int .i64 f, .int .i64 n, .string b]] w fun r w' => r = .returned (.tuple #[.string ⟨#[]⟩, .bool false]) ∧ Below w.heap.size w w' := by
  have HV : Hid (∀ w1, Calls Try.prog 41 #[.agg #[.int .i64 6, .int .i64 sp, .int .i64 dp, .int .i64 q, .int .i64 c, .int .i64 f, .int .i64 n, .string b]] w1 fun r w' => r = .returned (.bool true) ∧ Below w1.heap.size w1 w') := Lib.hid fun w1 => by have := spec_segmentok ⟨6, sp, dp, q, c, f, n, b⟩ w1; rwa [decide_eq_true hok] at this
  obtain ⟨h1, h2, h7, hk⟩ := hok
  dsimp only at h1 h2 h7 hk
  have HP := Lib.hid hp
  clear hp
  obtain ⟨h3, h4, h5, h6⟩ : (0 ≤ q ∧ q ≤ 4294967295) ∧ (0 ≤ c ∧ c ≤ 4294967295) ∧ (0 ≤ f ∧ f ≤ 31) ∧ (0 ≤ n ∧ n ≤ 65535) := by omega
  clear hk
  have HWsp := Lib.hid fun W => (by have := spec_word16 sp W; rwa [word16_in _ h1] at this : Calls Try.prog 64 #[.int .i64 sp] W fun r w' => r = .returned (.string (w16 sp)) ∧ Below W.heap.size W w')
  have HWdp := Lib.hid fun W => (by have := spec_word16 dp W; rwa [word16_in _ h2] at this : Calls Try.prog 64 #[.int .i64 dp] W fun r w' => r = .returned (.string (w16 dp)) ∧ Below W.heap.size W w')
  have HW_q := Lib.hid fun W => (by have := spec_word32 q W; rwa [word32_in _ h3] at this : Calls Try.prog 65 #[.int .i64 q] W fun r w' => r = .returned (.string (w32 q)) ∧ Below W.heap.size W w')
  have HW_c := Lib.hid fun W => (by have := spec_word32 c W; rwa [word32_in _ h4] at this : Calls Try.prog 65 #[.int .i64 c] W fun r w' => r = .returned (.string (w32 c)) ∧ Below W.heap.size W w')
  have HWn := Lib.hid fun W => (by have := spec_word16 n W; rwa [word16_in _ h6] at this : Calls Try.prog 64 #[.int .i64 n] W fun r w' => r = .returned (.string (w16 n)) ∧ Below W.heap.size W w')
  have HW_0 := Lib.hid fun W => (by have := spec_word32 0 W; rwa [word32_in _ (by decide)] at this : Calls Try.prog 65 #[.int .i64 0] W fun r w' => r = .returned (.string (w32 0)) ∧ Below W.heap.size W w')
  have HC := Lib.hid fun g W => conv_two_at 5 80 (f % 256) (by decide) (by omega) g W
  have z8 : (two 80 (f % 256)).size ≤ 2 := Nat.le_refl _
  have z9 : (w32 q).size ≤ 4 := Nat.le_refl _
  have z10 : (w32 c).size ≤ 4 := Nat.le_refl _
  have z11 : (w16 n).size ≤ 2 := Nat.le_refl _
  have z12 : (w32 0).size ≤ 4 := Nat.le_refl _
  clear h3 h4 h5 h6
  have z1 : (w16 sp).size ≤ 2 := Nat.le_refl _
  have z2 : (w16 dp).size ≤ 2 := Nat.le_refl _
  have z3 : (w16 0).size ≤ 2 := Nat.le_refl _
  have z4 : (w16 (8 + (b.size : Int))).size ≤ 2 := Nat.le_refl _
  clear h1 h2
  go_enter Try.func46, Try.ntmps46
  go_wp2_with (go_at_call 41; refine (HV.out _).mono ?_; rintro e w1 ⟨rfl, hb1⟩)
  have hg1 : w.heap.size < w1.heap.size := by have := hb1.size; simp at this; omega
  have HB1 := Lib.hid ((Box.new w #[.int .i64 6, .int .i64 sp, .int .i64 dp, .int .i64 q, .int .i64 c, .int .i64 f, .int .i64 n, .string b] 28).below hb1 (by simp))
  have hb01 := below_comp (below_new _) hb1
  clear hb1
  refine wp_region_values (by kernel_rfl) (fun W => Below w1.heap.size w1 W) (Vals [.pointer (some ⟨w.heap.size, 1, none⟩), .int .i64 sp, .string (w16 sp), .pointer (some ⟨w.heap.size, 2, none⟩), .int .i64 dp, .string (w16 dp), .string ((w16 sp) ++ (w16 dp)), .string ((w16 sp) ++ (w16 dp))] [])
    88 rfl (by kernel_rfl) (by kernel_rfl) below_drew (eachOp_all ?_) ?_
  · refine ⟨?_, ?_, ?_, ?_, ?_, ?_, ?_, ?_, trivial⟩
    · intro a W hd hS hdep hfree
      have x5 : a.tmps.getD 5 undef = .pointer (some ⟨w.heap.size, 0, none⟩) := hfree 5 rfl
      clear hd hdep hfree
      simp only [Oper.wp, execOp]
      go_simp
      refine Nxt.mk _ rfl (fun _ _ => ?_) hS (fun _ _ h => h)
      rfl
    · intro a W hd hS hdep hfree
      have x16 : a.tmps.getD 16 undef = .pointer (some ⟨w.heap.size, 1, none⟩) := hdep 0 16 rfl rfl
      clear hd hdep hfree
      have c : W.cell? ⟨w.heap.size, 1, none⟩ = some (.int .i64 sp) := (HB1.out.below hS hg1).cell 1 (by simp)
      simp only [Oper.wp, execOp]
      go_simp
      refine Nxt.mk _ rfl (fun _ _ => ?_) hS (fun _ _ h => h)
      rfl
    · intro a W hd hS hdep hfree
      have x17 : a.tmps.getD 17 undef = .int .i64 sp := hdep 1 17 rfl rfl
      clear hd hdep hfree
      simp only [Oper.wp, execOp]
      go_simp
      refine (HWsp.out W).mono ?_
      rintro e W' ⟨rfl, hb⟩
      exact Nxt.mk _ rfl (fun _ _ => rfl) (below_comp hS hb) (fun j u h => Vals.below hb j u h)
    · intro a W hd hS hdep hfree
      have x5 : a.tmps.getD 5 undef = .pointer (some ⟨w.heap.size, 0, none⟩) := hfree 5 rfl
      clear hd hdep hfree
      simp only [Oper.wp, execOp]
      go_simp
      refine Nxt.mk _ rfl (fun _ _ => ?_) hS (fun _ _ h => h)
      rfl
    · intro a W hd hS hdep hfree
      have x19 : a.tmps.getD 19 undef = .pointer (some ⟨w.heap.size, 2, none⟩) := hdep 3 19 rfl rfl
      clear hd hdep hfree
      have c : W.cell? ⟨w.heap.size, 2, none⟩ = some (.int .i64 dp) := (HB1.out.below hS hg1).cell 2 (by simp)
      simp only [Oper.wp, execOp]
      go_simp
      refine Nxt.mk _ rfl (fun _ _ => ?_) hS (fun _ _ h => h)
      rfl
    · intro a W hd hS hdep hfree
      have x20 : a.tmps.getD 20 undef = .int .i64 dp := hdep 4 20 rfl rfl
      clear hd hdep hfree
      simp only [Oper.wp, execOp]
      go_simp
      refine (HWdp.out W).mono ?_
      rintro e W' ⟨rfl, hb⟩
      exact Nxt.mk _ rfl (fun _ _ => rfl) (below_comp hS hb) (fun j u h => Vals.below hb j u h)
    · intro a W hd hS hdep hfree
      have x18 : a.tmps.getD 18 undef = .string (w16 sp) := hdep 2 18 rfl rfl
      have x21 : a.tmps.getD 21 undef = .string (w16 dp) := hdep 5 21 rfl rfl
      clear hd hdep hfree
      have k : ¬ 9223372036854775807 < (w16 sp).size + (w16 dp).size := by (try simp only [ByteArray.size_append]); omega
      have k2 := k
      try simp only [ByteArray.size_append] at k2
      simp only [Oper.wp, execOp]
      go_simp
      refine Nxt.mk _ rfl (fun _ _ => ?_) hS (fun _ _ h => h)
      rfl
    · intro a W hd hS hdep hfree
      have x22 : a.tmps.getD 22 undef = .string ((w16 sp) ++ (w16 dp)) := hdep 6 22 rfl rfl
      clear hd hdep hfree
      simp only [Oper.wp, execOp]
      go_simp
      refine Nxt.mk _ rfl (fun _ _ => ?_) hS (fun _ _ h => h)
      rfl
  intro a W2 hs hd hS2 hdone hrest
  have ea := written_all [.pointer (some ⟨w.heap.size, 1, none⟩), .int .i64 sp, .string (w16 sp), .pointer (some ⟨w.heap.size, 2, none⟩), .int .i64 dp, .string (w16 dp), .string ((w16 sp) ++ (w16 dp)), .string ((w16 sp) ++ (w16 dp))] rfl hs hd hrest hdone
  clear hs hd hdone hrest
  subst ea
  simp only [written, List.map_cons, List.map_nil, List.zip_cons_cons, List.zip_nil_right, putAll]
  simp only [Exit.then, Act.put, List.setIfInBounds_toArray, List.set_cons_zero, List.set_cons_succ]
  have hg2 : w.heap.size < W2.heap.size := Nat.lt_of_lt_of_le hg1 hS2.size
  have HB2 := Lib.hid (HB1.out.below hS2 hg1)
  have hb02 := below_comp hb01 hS2
  have c0 : W2.cell? ⟨w.heap.size, 0, none⟩ = some (.int .i64 6) := HB2.out.cell 0 (by simp)
  clear hS2

  go_wp2_with fail
  clear c0
  refine wp_region_values (by kernel_rfl) (fun W => Below W2.heap.size W2 W) (Vals [.string ((w16 sp) ++ (w16 dp)), .pointer (some ⟨w.heap.size, 3, none⟩), .int .i64 q, .string (w32 q), .string (((w16 sp) ++ (w16 dp)) ++ (w32 q)), .pointer (some ⟨w.heap.size, 4, none⟩), .int .i64 c, .string (w32 c), .string ((((w16 sp) ++ (w16 dp)) ++ (w32 q)) ++ (w32 c)), .pointer (some ⟨w.heap.size, 5, none⟩), .int .i64 f, .int .u8 (f % 256), undef, .string (two 80 (f % 256)), .string (((((w16 sp) ++ (w16 dp)) ++ (w32 q)) ++ (w32 c)) ++ (two 80 (f % 256))), .pointer (some ⟨w.heap.size, 6, none⟩), .int .i64 n, .string (w16 n), .string ((((((w16 sp) ++ (w16 dp)) ++ (w32 q)) ++ (w32 c)) ++ (two 80 (f % 256))) ++ (w16 n)), .string (w32 0), .string (((((((w16 sp) ++ (w16 dp)) ++ (w32 q)) ++ (w32 c)) ++ (two 80 (f % 256))) ++ (w16 n)) ++ (w32 0)), .string (((((((w16 sp) ++ (w16 dp)) ++ (w32 q)) ++ (w32 c)) ++ (two 80 (f % 256))) ++ (w16 n)) ++ (w32 0))] [(12, #[.int .u8 80, .int .u8 (f % 256)], 5, 2)])
    88 rfl (by kernel_rfl) (by kernel_rfl) below_drew (eachOp_all ?_) ?_
  · refine ⟨?_, ?_, ?_, ?_, ?_, ?_, ?_, ?_, ?_, ?_, ?_, ?_, ?_, ?_, ?_, ?_, ?_, ?_, ?_, ?_, ?_, ?_, trivial⟩
    · intro a W hd hS hdep hfree
      have x8 : a.tmps.getD 8 undef = .string ((w16 sp) ++ (w16 dp)) := hfree 8 rfl
      clear hd hdep hfree
      simp only [Oper.wp, execOp]
      go_simp
      refine Nxt.mk _ rfl (fun _ _ => ?_) hS (fun _ _ h => h)
      rfl
    · intro a W hd hS hdep hfree
      have x5 : a.tmps.getD 5 undef = .pointer (some ⟨w.heap.size, 0, none⟩) := hfree 5 rfl
      clear hd hdep hfree
      simp only [Oper.wp, execOp]
      go_simp
      refine Nxt.mk _ rfl (fun _ _ => ?_) hS (fun _ _ h => h)
      rfl
    · intro a W hd hS hdep hfree
      have x27 : a.tmps.getD 27 undef = .pointer (some ⟨w.heap.size, 3, none⟩) := hdep 1 27 rfl rfl
      clear hd hdep hfree
      have c : W.cell? ⟨w.heap.size, 3, none⟩ = some (.int .i64 q) := (HB2.out.below hS hg2).cell 3 (by simp)
      simp only [Oper.wp, execOp]
      go_simp
      refine Nxt.mk _ rfl (fun _ _ => ?_) hS (fun _ _ h => h)
      rfl
    · intro a W hd hS hdep hfree
      have x28 : a.tmps.getD 28 undef = .int .i64 q := hdep 2 28 rfl rfl
      clear hd hdep hfree
      simp only [Oper.wp, execOp]
      go_simp
      refine (HW_q.out W).mono ?_
      rintro e W' ⟨rfl, hb⟩
      exact Nxt.mk _ rfl (fun _ _ => rfl) (below_comp hS hb) (fun j u h => Vals.below hb j u h)
    · intro a W hd hS hdep hfree
      have x26 : a.tmps.getD 26 undef = .string ((w16 sp) ++ (w16 dp)) := hdep 0 26 rfl rfl
      have x29 : a.tmps.getD 29 undef = .string (w32 q) := hdep 3 29 rfl rfl
      clear hd hdep hfree
      have k : ¬ 9223372036854775807 < ((w16 sp) ++ (w16 dp)).size + (w32 q).size := by (try simp only [ByteArray.size_append]); omega
      have k2 := k
      try simp only [ByteArray.size_append] at k2
      simp only [Oper.wp, execOp]
      go_simp
      refine Nxt.mk _ rfl (fun _ _ => ?_) hS (fun _ _ h => h)
      rfl
    · intro a W hd hS hdep hfree
      have x5 : a.tmps.getD 5 undef = .pointer (some ⟨w.heap.size, 0, none⟩) := hfree 5 rfl
      clear hd hdep hfree
      simp only [Oper.wp, execOp]
      go_simp
      refine Nxt.mk _ rfl (fun _ _ => ?_) hS (fun _ _ h => h)
      rfl
    · intro a W hd hS hdep hfree
      have x31 : a.tmps.getD 31 undef = .pointer (some ⟨w.heap.size, 4, none⟩) := hdep 5 31 rfl rfl
      clear hd hdep hfree
      have c : W.cell? ⟨w.heap.size, 4, none⟩ = some (.int .i64 c) := (HB2.out.below hS hg2).cell 4 (by simp)
      simp only [Oper.wp, execOp]
      go_simp
      refine Nxt.mk _ rfl (fun _ _ => ?_) hS (fun _ _ h => h)
      rfl
    · intro a W hd hS hdep hfree
      have x32 : a.tmps.getD 32 undef = .int .i64 c := hdep 6 32 rfl rfl
      clear hd hdep hfree
      simp only [Oper.wp, execOp]
      go_simp
      refine (HW_c.out W).mono ?_
      rintro e W' ⟨rfl, hb⟩
      exact Nxt.mk _ rfl (fun _ _ => rfl) (below_comp hS hb) (fun j u h => Vals.below hb j u h)
    · intro a W hd hS hdep hfree
      have x30 : a.tmps.getD 30 undef = .string (((w16 sp) ++ (w16 dp)) ++ (w32 q)) := hdep 4 30 rfl rfl
      have x33 : a.tmps.getD 33 undef = .string (w32 c) := hdep 7 33 rfl rfl
      clear hd hdep hfree
      have k : ¬ 9223372036854775807 < (((w16 sp) ++ (w16 dp)) ++ (w32 q)).size + (w32 c).size := by (try simp only [ByteArray.size_append]); omega
      have k2 := k
      try simp only [ByteArray.size_append] at k2
      simp only [Oper.wp, execOp]
      go_simp
      refine Nxt.mk _ rfl (fun _ _ => ?_) hS (fun _ _ h => h)
      rfl
    · intro a W hd hS hdep hfree
      have x5 : a.tmps.getD 5 undef = .pointer (some ⟨w.heap.size, 0, none⟩) := hfree 5 rfl
      clear hd hdep hfree
      simp only [Oper.wp, execOp]
      go_simp
      refine Nxt.mk _ rfl (fun _ _ => ?_) hS (fun _ _ h => h)
      rfl
    · intro a W hd hS hdep hfree
      have x35 : a.tmps.getD 35 undef = .pointer (some ⟨w.heap.size, 5, none⟩) := hdep 9 35 rfl rfl
      clear hd hdep hfree
      have c : W.cell? ⟨w.heap.size, 5, none⟩ = some (.int .i64 f) := (HB2.out.below hS hg2).cell 5 (by simp)
      simp only [Oper.wp, execOp]
      go_simp
      refine Nxt.mk _ rfl (fun _ _ => ?_) hS (fun _ _ h => h)
      rfl
    · intro a W hd hS hdep hfree
      have x36 : a.tmps.getD 36 undef = .int .i64 f := hdep 10 36 rfl rfl
      clear hd hdep hfree
      simp only [Oper.wp, execOp]
      go_simp
      refine Nxt.mk _ rfl (fun _ _ => ?_) hS (fun _ _ h => h)
      rfl
    · intro a W hd hS hdep hfree
      have x37 : a.tmps.getD 37 undef = .int .u8 (f % 256) := hdep 11 37 rfl rfl
      have y37 : a.tmps[37]?.getD undef = .int .u8 (f % 256) := by rw [← Array.getD_eq_getD_getElem?]; exact x37
      clear hd hdep hfree
      simp only [Oper.wp, execOp]
      go_simp
      exact Nxt.mk _ rfl (fun _ _ => ⟨W.heap.size, rfl, heap_alloc_new W _, by simp⟩) (below_comp hS (below_new _)) (fun j u h => Vals.below (below_new _) j u h)
    · intro a W hd hS hdep hfree
      obtain ⟨g38, x38, hx38, hl38⟩ : SliceAt W (a.tmps.getD 38 undef) #[.int .u8 80, .int .u8 (f % 256)] 5 2 := hdep 12 38 rfl rfl
      clear hd hdep hfree
      have hcv := HC.out g38 W hx38
      simp only [Oper.wp, execOp]
      go_simp
      refine Nxt.mk _ rfl (fun _ _ => ?_) hS (fun _ _ h => h)
      rfl
    · intro a W hd hS hdep hfree
      have x34 : a.tmps.getD 34 undef = .string ((((w16 sp) ++ (w16 dp)) ++ (w32 q)) ++ (w32 c)) := hdep 8 34 rfl rfl
      have x39 : a.tmps.getD 39 undef = .string (two 80 (f % 256)) := hdep 13 39 rfl rfl
      clear hd hdep hfree
      have k : ¬ 9223372036854775807 < ((((w16 sp) ++ (w16 dp)) ++ (w32 q)) ++ (w32 c)).size + (two 80 (f % 256)).size := by (try simp only [ByteArray.size_append]); omega
      have k2 := k
      try simp only [ByteArray.size_append] at k2
      simp only [Oper.wp, execOp]
      go_simp
      refine Nxt.mk _ rfl (fun _ _ => ?_) hS (fun _ _ h => h)
      rfl
    · intro a W hd hS hdep hfree
      have x5 : a.tmps.getD 5 undef = .pointer (some ⟨w.heap.size, 0, none⟩) := hfree 5 rfl
      clear hd hdep hfree
      simp only [Oper.wp, execOp]
      go_simp
      refine Nxt.mk _ rfl (fun _ _ => ?_) hS (fun _ _ h => h)
      rfl
    · intro a W hd hS hdep hfree
      have x41 : a.tmps.getD 41 undef = .pointer (some ⟨w.heap.size, 6, none⟩) := hdep 15 41 rfl rfl
      clear hd hdep hfree
      have c : W.cell? ⟨w.heap.size, 6, none⟩ = some (.int .i64 n) := (HB2.out.below hS hg2).cell 6 (by simp)
      simp only [Oper.wp, execOp]
      go_simp
      refine Nxt.mk _ rfl (fun _ _ => ?_) hS (fun _ _ h => h)
      rfl
    · intro a W hd hS hdep hfree
      have x42 : a.tmps.getD 42 undef = .int .i64 n := hdep 16 42 rfl rfl
      clear hd hdep hfree
      simp only [Oper.wp, execOp]
      go_simp
      refine (HWn.out W).mono ?_
      rintro e W' ⟨rfl, hb⟩
      exact Nxt.mk _ rfl (fun _ _ => rfl) (below_comp hS hb) (fun j u h => Vals.below hb j u h)
    · intro a W hd hS hdep hfree
      have x40 : a.tmps.getD 40 undef = .string (((((w16 sp) ++ (w16 dp)) ++ (w32 q)) ++ (w32 c)) ++ (two 80 (f % 256))) := hdep 14 40 rfl rfl
      have x43 : a.tmps.getD 43 undef = .string (w16 n) := hdep 17 43 rfl rfl
      clear hd hdep hfree
      have k : ¬ 9223372036854775807 < (((((w16 sp) ++ (w16 dp)) ++ (w32 q)) ++ (w32 c)) ++ (two 80 (f % 256))).size + (w16 n).size := by (try simp only [ByteArray.size_append]); omega
      have k2 := k
      try simp only [ByteArray.size_append] at k2
      simp only [Oper.wp, execOp]
      go_simp
      refine Nxt.mk _ rfl (fun _ _ => ?_) hS (fun _ _ h => h)
      rfl
    · intro a W hd hS hdep hfree
      clear hd hdep hfree
      simp only [Oper.wp, execOp]
      go_simp
      refine (HW_0.out W).mono ?_
      rintro e W' ⟨rfl, hb⟩
      exact Nxt.mk _ rfl (fun _ _ => rfl) (below_comp hS hb) (fun j u h => Vals.below hb j u h)
    · intro a W hd hS hdep hfree
      have x44 : a.tmps.getD 44 undef = .string ((((((w16 sp) ++ (w16 dp)) ++ (w32 q)) ++ (w32 c)) ++ (two 80 (f % 256))) ++ (w16 n)) := hdep 18 44 rfl rfl
      have x45 : a.tmps.getD 45 undef = .string (w32 0) := hdep 19 45 rfl rfl
      clear hd hdep hfree
      have k : ¬ 9223372036854775807 < ((((((w16 sp) ++ (w16 dp)) ++ (w32 q)) ++ (w32 c)) ++ (two 80 (f % 256))) ++ (w16 n)).size + (w32 0).size := by (try simp only [ByteArray.size_append]); omega
      have k2 := k
      try simp only [ByteArray.size_append] at k2
      simp only [Oper.wp, execOp]
      go_simp
      refine Nxt.mk _ rfl (fun _ _ => ?_) hS (fun _ _ h => h)
      rfl
    · intro a W hd hS hdep hfree
      have x46 : a.tmps.getD 46 undef = .string (((((((w16 sp) ++ (w16 dp)) ++ (w32 q)) ++ (w32 c)) ++ (two 80 (f % 256))) ++ (w16 n)) ++ (w32 0)) := hdep 20 46 rfl rfl
      clear hd hdep hfree
      simp only [Oper.wp, execOp]
      go_simp
      refine Nxt.mk _ rfl (fun _ _ => ?_) hS (fun _ _ h => h)
      rfl
  intro a W3 hs hd hS3 hdone hrest
  obtain ⟨u38, hu38⟩ : ∃ u, a.tmps.getD 38 undef = u := ⟨_, rfl⟩
  have ea := written_all [.string ((w16 sp) ++ (w16 dp)), .pointer (some ⟨w.heap.size, 3, none⟩), .int .i64 q, .string (w32 q), .string (((w16 sp) ++ (w16 dp)) ++ (w32 q)), .pointer (some ⟨w.heap.size, 4, none⟩), .int .i64 c, .string (w32 c), .string ((((w16 sp) ++ (w16 dp)) ++ (w32 q)) ++ (w32 c)), .pointer (some ⟨w.heap.size, 5, none⟩), .int .i64 f, .int .u8 (f % 256), u38, .string (two 80 (f % 256)), .string (((((w16 sp) ++ (w16 dp)) ++ (w32 q)) ++ (w32 c)) ++ (two 80 (f % 256))), .pointer (some ⟨w.heap.size, 6, none⟩), .int .i64 n, .string (w16 n), .string ((((((w16 sp) ++ (w16 dp)) ++ (w32 q)) ++ (w32 c)) ++ (two 80 (f % 256))) ++ (w16 n)), .string (w32 0), .string (((((((w16 sp) ++ (w16 dp)) ++ (w32 q)) ++ (w32 c)) ++ (two 80 (f % 256))) ++ (w16 n)) ++ (w32 0)), .string (((((((w16 sp) ++ (w16 dp)) ++ (w32 q)) ++ (w32 c)) ++ (two 80 (f % 256))) ++ (w16 n)) ++ (w32 0))] rfl hs hd hrest (fun j d hj => by
    have h := hdone j d hj
    match j, hj, h with
    | 0, _, h => exact h
    | 1, _, h => exact h
    | 2, _, h => exact h
    | 3, _, h => exact h
    | 4, _, h => exact h
    | 5, _, h => exact h
    | 6, _, h => exact h
    | 7, _, h => exact h
    | 8, _, h => exact h
    | 9, _, h => exact h
    | 10, _, h => exact h
    | 11, _, h => exact h
    | 12, hj, _ => exact (Option.some.inj hj) ▸ hu38
    | 13, _, h => exact h
    | 14, _, h => exact h
    | 15, _, h => exact h
    | 16, _, h => exact h
    | 17, _, h => exact h
    | 18, _, h => exact h
    | 19, _, h => exact h
    | 20, _, h => exact h
    | 21, _, h => exact h
    | n + 22, hj, _ => exact absurd (dstOf_lt hj) (by simp))
  clear hu38
  clear hs hd hdone hrest
  subst ea
  simp only [written, List.map_cons, List.map_nil, List.zip_cons_cons, List.zip_nil_right, putAll]
  simp only [Exit.then, Act.put, List.setIfInBounds_toArray, List.set_cons_zero, List.set_cons_succ]
  have hg3 : w.heap.size < W3.heap.size := Nat.lt_of_lt_of_le hg2 hS3.size
  have HB3 := Lib.hid (HB2.out.below hS3 hg2)
  have hb03 := below_comp hb02 hS3
  clear hS3
  obtain ⟨U, HU⟩ : ∃ U : ByteArray, Hid (U = ((((((w16 sp) ++ (w16 dp)) ++ (w32 q)) ++ (w32 c)) ++ (two 80 (f % 256))) ++ (w16 n)) ++ (w32 0)) := ⟨_, Lib.hid rfl⟩
  rw [← HU.out]
  obtain ⟨T, HT⟩ : ∃ T : ByteArray, Hid (U ++ b = T ∧ T = SegM.tcp ⟨6, sp, dp, q, c, f, n, b⟩ 0) := ⟨_, Lib.hid ⟨rfl, by rw [HU.out]; exact (tcp_zero ⟨6, sp, dp, q, c, f, n, b⟩)⟩⟩
  have hU : U.size ≤ 20 := by rw [HU.out]; simp only [ByteArray.size_append]; omega
  have HL : Hid (SegM.len ⟨6, sp, dp, q, c, f, n, b⟩ = (T.size : Int)) := Lib.hid (by rw [HT.out.2]; rfl)
  have hT : T.size ≤ 340 := by rw [HT.out.2, SegM.tcp_size]; show _ + b.size ≤ 340; omega
  have c0 : W3.cell? ⟨w.heap.size, 0, none⟩ = some (.int .i64 6) := HB3.out.cell 0 (by simp)
  have c7 : W3.cell? ⟨w.heap.size, 7, none⟩ = some (.string b) := HB3.out.cell 7 (by simp)
  have k1 : ¬ 9223372036854775807 < U.size + b.size := by omega
  go_wp2_with fail
  have hLe : (U.size : Int) + (b.size : Int) = (T.size : Int) := by rw [← HT.out.1, ByteArray.size_append]; omega
  rw [HT.out.1, hLe]
  clear hLe k1 hU

  refine (spec_pseudo_no s d 6 (T.size : Int) _ (by rw [← HL.out]; exact HP.out)).mono ?_
  rintro e w4 ⟨rfl, hb4⟩
  go_wp2
  go_ret2
  exact ⟨rfl, below_comp hb03 hb4⟩

end Go.Proofs.Ytkknfcnajgolfaa
