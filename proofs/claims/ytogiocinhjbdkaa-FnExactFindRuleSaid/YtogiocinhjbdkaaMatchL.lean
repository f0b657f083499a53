/- RuleMatches of both sides. -/
import Derived.Test.YtogiocinhjbdkaaRuleOkB
import Derived.Test.YtogiocinhjbdkaaSuperOkB
import Derived.Test.YtogiocinhjbdkaaRegionS
import Derived.Deep.QuietTactic
import Derived.BigQuiet
import Derived.Deep.DeepCutAuto
namespace Go.Proofs.Ytogiocinhjbdkaa
open Go.RowKit
set_option linter.unusedSimpArgs false
set_option linter.unusedVariables false

/-- The highest bits are the same. -/
def same (a b n : Int) : Bool := a / 2 ^ (32 - n).toNat == b / 2 ^ (32 - n).toNat
set_option maxHeartbeats 4000000 in
set_option maxRecDepth 100000 in
theorem impl_samestart (a b n : Int) (w : World) (hn : 0 ≤ n ∧ n ≤ 32) :
    Calls Try.prog 146 #[.int .i64 a, .int .i64 b, .int .i64 n] w fun r w' => r = .returned (.bool (same a b n)) ∧ Below w.heap.size w w' := by
  go_enter Try.func146, Try.ntmps146
  go_wp2
  go_quiet (fail)
  go_wp2
  go_ret
  exact ⟨rfl, below_drewM _⟩
def RuleM.Fits (e : RuleM) (k v : Int) : Prop := (e.xKind = 0 ∨ e.xKind = k) ∧ (e.xVlan = -2 ∨ e.xVlan = v)
instance (e : RuleM) (k v : Int) : Decidable (e.Fits k v) := by unfold RuleM.Fits; infer_instance
set_option maxHeartbeats 4000000 in
set_option maxRecDepth 100000 in
theorem impl_fits (e : RuleM) (k v : Int) (w : World) :
    Calls Try.prog 147 #[e.val, .int .i64 k, .int .i64 v] w fun r w' => r = .returned (.bool (decide (e.Fits k v))) ∧ Below w.heap.size w w' := by
  obtain ⟨xPriority, xKind, xSrcIp, xSrcBits, xFirstPort, xLastPort, xVlan, xAction, xQueue⟩ := e
  unfold RuleM.val
  dsimp only
  obtain ⟨B, HB⟩ : ∃ B : Bool, Hid (B = decide (RuleM.Fits ⟨xPriority, xKind, xSrcIp, xSrcBits, xFirstPort, xLastPort, xVlan, xAction, xQueue⟩ k v) ∧ (B = true ↔ RuleM.Fits ⟨xPriority, xKind, xSrcIp, xSrcBits, xFirstPort, xLastPort, xVlan, xAction, xQueue⟩ k v)) := ⟨_, Lib.hid ⟨rfl, decide_eq_true_iff⟩⟩
  rw [← HB.out.1]
  go_enter Try.func147, Try.ntmps147
  go_wp2
  all_goals
    go_ret
    refine ⟨ret_bool ?_, by repeat (first | exact Below.refl _ _ | exact below_new _ | (refine below_comp ?_ (by assumption)) | (refine below_comp ?_ (below_new _)))⟩
    rw [Bool.eq_iff_iff, HB.out.2]
    unfold RuleM.Fits
    dsimp only
    simp only [Bool.and_eq_true, Bool.or_eq_true, decide_eq_true_eq, bne_iff_ne, beq_iff_eq, Bool.false_eq_true, ne_eq, false_iff, true_iff, true_and, and_true]
    first | omega | (simp only [Bool.not_eq_true', Bool.not_eq_false', decide_eq_false_iff_not, decide_eq_true_eq, beq_eq_false_iff_ne, beq_iff_eq, bne_iff_ne, bne_eq_false_iff_eq, ne_eq] at *; omega)


def inB (lo x hi : Int) : Bool := decide (lo ≤ x ∧ x ≤ hi)
def RuleM.Matches (r : RuleM) (p : PktM) : Bool := decide r.Ok && decide p.SuperOk && (same r.xSrcIp p.sip r.xSrcBits && inB r.xFirstPort p.seg.dport r.xLastPort && decide (r.Fits p.seg.kind p.vlan))

theorem sin_below (x lo hi : Int) (W : World) : Calls Try.prog 82 #[.int .i64 x, .int .i64 lo, .int .i64 hi] W fun r w' => r = .returned (.bool (inB lo x hi)) ∧ Below W.heap.size W w' := (spec_in x lo hi W).mono fun _ _ h => ⟨h.1, h.2 ▸ Below.refl _ _⟩
theorem iin_below (x lo hi : Int) (W : World) : Calls Try.prog 86 #[.int .i64 x, .int .i64 lo, .int .i64 hi] W fun r w' => r = .returned (.bool (inB lo x hi)) ∧ Below W.heap.size W w' := (impl_in x lo hi W).mono fun _ _ h => ⟨h.1, h.2 ▸ Below.refl _ _⟩

set_option maxHeartbeats 4000000 in
set_option maxRecDepth 100000 in
theorem spec_l14 (r : RuleM) (p : PktM) (w : World) (hbits : 0 ≤ r.xSrcBits ∧ r.xSrcBits ≤ 32) :
    Calls Try.prog 144 #[r.val, p.val] w fun e w' => e = .returned (.bool (same r.xSrcIp p.sip r.xSrcBits && inB r.xFirstPort p.seg.dport r.xLastPort && decide (r.Fits p.seg.kind p.vlan))) ∧ Below w.heap.size w w' := by
  obtain ⟨xPriorityA, xKindA, xSrcIpA, xSrcBitsA, xFirstPortA, xLastPortA, xVlanA, xActionA, xQueueA⟩ := r
  obtain ⟨y0, y1, y2, y3, y4, y5, y6, y7, ⟨y8, y9, y10, y11, y12, y13, y14, y15⟩⟩ := p
  dsimp only at hbits
  obtain ⟨B, HB⟩ : ∃ B : Bool, Hid (B = (same xSrcIpA y6 xSrcBitsA && inB xFirstPortA y10 xLastPortA && decide (RuleM.Fits ⟨xPriorityA, xKindA, xSrcIpA, xSrcBitsA, xFirstPortA, xLastPortA, xVlanA, xActionA, xQueueA⟩ y8 y2))) := ⟨_, Lib.hid rfl⟩
  show Calls _ _ _ _ fun e w' => e = .returned (.bool (same xSrcIpA y6 xSrcBitsA && inB xFirstPortA y10 xLastPortA && decide (RuleM.Fits ⟨xPriorityA, xKindA, xSrcIpA, xSrcBitsA, xFirstPortA, xLastPortA, xVlanA, xActionA, xQueueA⟩ y8 y2))) ∧ Below w.heap.size w w'
  rw [← HB.out]
  unfold RuleM.val PktM.val
  dsimp only
  go_enter Try.func144, Try.ntmps144
  go_upto_region 1 with fail
  obtain ⟨w1, hw1⟩ : ∃ w1, w1 = (w.alloc (.cells #[.int .i64 xPriorityA, .int .i64 xKindA, .int .i64 xSrcIpA, .int .i64 xSrcBitsA, .int .i64 xFirstPortA, .int .i64 xLastPortA, .int .i64 xVlanA, .int .i64 xActionA, .int .i64 xQueueA] 127)).alloc (.cells #[.int .i64 y0, .int .i64 y1, .int .i64 y2, .int .i64 y3, .int .i64 y4, .int .i64 y5, .int .i64 y6, .int .i64 y7, .int .i64 y8, .int .i64 y9, .int .i64 y10, .int .i64 y11, .int .i64 y12, .int .i64 y13, .int .i64 y14, .string y15] 45) := ⟨_, rfl⟩
  have hb1 : Below w.heap.size w w1 := hw1 ▸ below_comp (below_new _) (below_new _)
  have HB1 : Hid (Box w1 w.heap.size #[.int .i64 xPriorityA, .int .i64 xKindA, .int .i64 xSrcIpA, .int .i64 xSrcBitsA, .int .i64 xFirstPortA, .int .i64 xLastPortA, .int .i64 xVlanA, .int .i64 xActionA, .int .i64 xQueueA] 127) := Lib.hid (hw1 ▸ (Box.new w #[.int .i64 xPriorityA, .int .i64 xKindA, .int .i64 xSrcIpA, .int .i64 xSrcBitsA, .int .i64 xFirstPortA, .int .i64 xLastPortA, .int .i64 xVlanA, .int .i64 xActionA, .int .i64 xQueueA] 127).below (below_new _) (by simp))
  have HB2 : Hid (Box w1 (w.heap.size + 1) #[.int .i64 y0, .int .i64 y1, .int .i64 y2, .int .i64 y3, .int .i64 y4, .int .i64 y5, .int .i64 y6, .int .i64 y7, .int .i64 y8, .int .i64 y9, .int .i64 y10, .int .i64 y11, .int .i64 y12, .int .i64 y13, .int .i64 y14, .string y15] 45) := Lib.hid (by have := Box.new (w.alloc (.cells #[.int .i64 xPriorityA, .int .i64 xKindA, .int .i64 xSrcIpA, .int .i64 xSrcBitsA, .int .i64 xFirstPortA, .int .i64 xLastPortA, .int .i64 xVlanA, .int .i64 xActionA, .int .i64 xQueueA] 127)) #[.int .i64 y0, .int .i64 y1, .int .i64 y2, .int .i64 y3, .int .i64 y4, .int .i64 y5, .int .i64 y6, .int .i64 y7, .int .i64 y8, .int .i64 y9, .int .i64 y10, .int .i64 y11, .int .i64 y12, .int .i64 y13, .int .i64 y14, .string y15] 45; rw [← hw1] at this; simpa using this)
  have hg1 : w.heap.size < w1.heap.size := by have h := congrArg (fun x => x.heap.size) hw1; simp at h; omega
  have hg2 : w.heap.size + 1 < w1.heap.size := by have h := congrArg (fun x => x.heap.size) hw1; simp at h; omega
  rw [← hw1]
  clear hw1
  obtain ⟨V, hV⟩ : ∃ V, Hid (V = Vals ((.pointer (some ⟨w.heap.size, 1, none⟩) : Value) :: (.int .i64 xKindA : Value) :: (.bool (xKindA == 0) : Value) :: (.bool (xKindA == 0) : Value) :: onlyIf ((xKindA == 0) == false) (.pointer (some ⟨w.heap.size, 1, none⟩)) :: onlyIf ((xKindA == 0) == false) (.int .i64 xKindA) :: onlyIf ((xKindA == 0) == false) (.pointer (some ⟨w.heap.size + 1, 8, none⟩)) :: onlyIf ((xKindA == 0) == false) (.pointer (some ⟨w.heap.size + 1, 8, none⟩)) :: onlyIf ((xKindA == 0) == false) (.int .i64 y8) :: onlyIf ((xKindA == 0) == false) (.bool (xKindA == y8)) :: (.bool ((xKindA == 0) || (xKindA == y8)) : Value) :: (.bool ((xKindA == 0) || (xKindA == y8)) : Value) :: onlyIf (((xKindA == 0) || (xKindA == y8)) == true) (.pointer (some ⟨w.heap.size, 2, none⟩)) :: onlyIf (((xKindA == 0) || (xKindA == y8)) == true) (.int .i64 xSrcIpA) :: onlyIf (((xKindA == 0) || (xKindA == y8)) == true) (.pointer (some ⟨w.heap.size, 3, none⟩)) :: onlyIf (((xKindA == 0) || (xKindA == y8)) == true) (.int .i64 xSrcBitsA) :: onlyIf (((xKindA == 0) || (xKindA == y8)) == true) (.int .i64 (32 - xSrcBitsA)) :: onlyIf (((xKindA == 0) || (xKindA == y8)) == true) (.int .i64 (xSrcIpA / 2 ^ (32 - xSrcBitsA).toNat)) :: onlyIf (((xKindA == 0) || (xKindA == y8)) == true) (.pointer (some ⟨w.heap.size + 1, 6, none⟩)) :: onlyIf (((xKindA == 0) || (xKindA == y8)) == true) (.int .i64 y6) :: onlyIf (((xKindA == 0) || (xKindA == y8)) == true) (.pointer (some ⟨w.heap.size, 3, none⟩)) :: onlyIf (((xKindA == 0) || (xKindA == y8)) == true) (.int .i64 xSrcBitsA) :: onlyIf (((xKindA == 0) || (xKindA == y8)) == true) (.int .i64 (32 - xSrcBitsA)) :: onlyIf (((xKindA == 0) || (xKindA == y8)) == true) (.int .i64 (y6 / 2 ^ (32 - xSrcBitsA).toNat)) :: onlyIf (((xKindA == 0) || (xKindA == y8)) == true) (.bool (xSrcIpA / 2 ^ (32 - xSrcBitsA).toNat == y6 / 2 ^ (32 - xSrcBitsA).toNat)) :: (.bool (((xKindA == 0) || (xKindA == y8)) && (xSrcIpA / 2 ^ (32 - xSrcBitsA).toNat == y6 / 2 ^ (32 - xSrcBitsA).toNat)) : Value) :: (.bool (((xKindA == 0) || (xKindA == y8)) && (xSrcIpA / 2 ^ (32 - xSrcBitsA).toNat == y6 / 2 ^ (32 - xSrcBitsA).toNat)) : Value) :: onlyIf ((((xKindA == 0) || (xKindA == y8)) && (xSrcIpA / 2 ^ (32 - xSrcBitsA).toNat == y6 / 2 ^ (32 - xSrcBitsA).toNat)) == true) (.pointer (some ⟨w.heap.size + 1, 8, none⟩)) :: onlyIf ((((xKindA == 0) || (xKindA == y8)) && (xSrcIpA / 2 ^ (32 - xSrcBitsA).toNat == y6 / 2 ^ (32 - xSrcBitsA).toNat)) == true) (.pointer (some ⟨w.heap.size + 1, 10, none⟩)) :: onlyIf ((((xKindA == 0) || (xKindA == y8)) && (xSrcIpA / 2 ^ (32 - xSrcBitsA).toNat == y6 / 2 ^ (32 - xSrcBitsA).toNat)) == true) (.int .i64 y10) :: onlyIf ((((xKindA == 0) || (xKindA == y8)) && (xSrcIpA / 2 ^ (32 - xSrcBitsA).toNat == y6 / 2 ^ (32 - xSrcBitsA).toNat)) == true) (.pointer (some ⟨w.heap.size, 4, none⟩)) :: onlyIf ((((xKindA == 0) || (xKindA == y8)) && (xSrcIpA / 2 ^ (32 - xSrcBitsA).toNat == y6 / 2 ^ (32 - xSrcBitsA).toNat)) == true) (.int .i64 xFirstPortA) :: onlyIf ((((xKindA == 0) || (xKindA == y8)) && (xSrcIpA / 2 ^ (32 - xSrcBitsA).toNat == y6 / 2 ^ (32 - xSrcBitsA).toNat)) == true) (.pointer (some ⟨w.heap.size, 5, none⟩)) :: onlyIf ((((xKindA == 0) || (xKindA == y8)) && (xSrcIpA / 2 ^ (32 - xSrcBitsA).toNat == y6 / 2 ^ (32 - xSrcBitsA).toNat)) == true) (.int .i64 xLastPortA) :: onlyIf ((((xKindA == 0) || (xKindA == y8)) && (xSrcIpA / 2 ^ (32 - xSrcBitsA).toNat == y6 / 2 ^ (32 - xSrcBitsA).toNat)) == true) (.bool (inB xFirstPortA y10 xLastPortA)) :: (.bool ((((xKindA == 0) || (xKindA == y8)) && (xSrcIpA / 2 ^ (32 - xSrcBitsA).toNat == y6 / 2 ^ (32 - xSrcBitsA).toNat)) && (inB xFirstPortA y10 xLastPortA)) : Value) :: (.bool ((((xKindA == 0) || (xKindA == y8)) && (xSrcIpA / 2 ^ (32 - xSrcBitsA).toNat == y6 / 2 ^ (32 - xSrcBitsA).toNat)) && (inB xFirstPortA y10 xLastPortA)) : Value) :: onlyIf (((((xKindA == 0) || (xKindA == y8)) && (xSrcIpA / 2 ^ (32 - xSrcBitsA).toNat == y6 / 2 ^ (32 - xSrcBitsA).toNat)) && (inB xFirstPortA y10 xLastPortA)) == true) (.pointer (some ⟨w.heap.size, 6, none⟩)) :: onlyIf (((((xKindA == 0) || (xKindA == y8)) && (xSrcIpA / 2 ^ (32 - xSrcBitsA).toNat == y6 / 2 ^ (32 - xSrcBitsA).toNat)) && (inB xFirstPortA y10 xLastPortA)) == true) (.int .i64 xVlanA) :: onlyIf (((((xKindA == 0) || (xKindA == y8)) && (xSrcIpA / 2 ^ (32 - xSrcBitsA).toNat == y6 / 2 ^ (32 - xSrcBitsA).toNat)) && (inB xFirstPortA y10 xLastPortA)) == true) (.bool (xVlanA == (-2))) :: onlyIf (((((xKindA == 0) || (xKindA == y8)) && (xSrcIpA / 2 ^ (32 - xSrcBitsA).toNat == y6 / 2 ^ (32 - xSrcBitsA).toNat)) && (inB xFirstPortA y10 xLastPortA)) == true) (.bool (xVlanA == (-2))) :: onlyIf ((((((xKindA == 0) || (xKindA == y8)) && (xSrcIpA / 2 ^ (32 - xSrcBitsA).toNat == y6 / 2 ^ (32 - xSrcBitsA).toNat)) && (inB xFirstPortA y10 xLastPortA)) == true) && ((xVlanA == (-2)) == false)) (.pointer (some ⟨w.heap.size, 6, none⟩)) :: onlyIf ((((((xKindA == 0) || (xKindA == y8)) && (xSrcIpA / 2 ^ (32 - xSrcBitsA).toNat == y6 / 2 ^ (32 - xSrcBitsA).toNat)) && (inB xFirstPortA y10 xLastPortA)) == true) && ((xVlanA == (-2)) == false)) (.int .i64 xVlanA) :: onlyIf ((((((xKindA == 0) || (xKindA == y8)) && (xSrcIpA / 2 ^ (32 - xSrcBitsA).toNat == y6 / 2 ^ (32 - xSrcBitsA).toNat)) && (inB xFirstPortA y10 xLastPortA)) == true) && ((xVlanA == (-2)) == false)) (.pointer (some ⟨w.heap.size + 1, 2, none⟩)) :: onlyIf ((((((xKindA == 0) || (xKindA == y8)) && (xSrcIpA / 2 ^ (32 - xSrcBitsA).toNat == y6 / 2 ^ (32 - xSrcBitsA).toNat)) && (inB xFirstPortA y10 xLastPortA)) == true) && ((xVlanA == (-2)) == false)) (.int .i64 y2) :: onlyIf ((((((xKindA == 0) || (xKindA == y8)) && (xSrcIpA / 2 ^ (32 - xSrcBitsA).toNat == y6 / 2 ^ (32 - xSrcBitsA).toNat)) && (inB xFirstPortA y10 xLastPortA)) == true) && ((xVlanA == (-2)) == false)) (.bool (xVlanA == y2)) :: onlyIf (((((xKindA == 0) || (xKindA == y8)) && (xSrcIpA / 2 ^ (32 - xSrcBitsA).toNat == y6 / 2 ^ (32 - xSrcBitsA).toNat)) && (inB xFirstPortA y10 xLastPortA)) == true) (.bool ((xVlanA == (-2)) || (xVlanA == y2))) :: (.bool (((((xKindA == 0) || (xKindA == y8)) && (xSrcIpA / 2 ^ (32 - xSrcBitsA).toNat == y6 / 2 ^ (32 - xSrcBitsA).toNat)) && (inB xFirstPortA y10 xLastPortA)) && ((xVlanA == (-2)) || (xVlanA == y2))) : Value) :: (.bool (((((xKindA == 0) || (xKindA == y8)) && (xSrcIpA / 2 ^ (32 - xSrcBitsA).toNat == y6 / 2 ^ (32 - xSrcBitsA).toNat)) && (inB xFirstPortA y10 xLastPortA)) && ((xVlanA == (-2)) || (xVlanA == y2))) : Value) :: ([] : List Value)) []) := ⟨_, Lib.hid rfl⟩
  refine wp_region_valuesG (by kernel_rfl) (fun W => Below w1.heap.size w1 W) V
    53 rfl (by kernel_rfl) (by kernel_rfl) below_drew (eachOp_all ?_) ?_
  · refine ⟨?_, ?_, ?_, ?_, ?_, ?_, ?_, ?_, ?_, ?_, ?_, ?_, ?_, ?_, ?_, ?_, ?_, ?_, ?_, ?_, ?_, ?_, ?_, ?_, ?_, ?_, ?_, ?_, ?_, ?_, ?_, ?_, ?_, ?_, ?_, ?_, ?_, ?_, ?_, ?_, ?_, ?_, ?_, ?_, ?_, ?_, ?_, ?_, ?_, trivial⟩
    · intro a W hd hS hdep hfree
      have x2 : a.tmps.getD 2 undef = .pointer (some ⟨w.heap.size, 0, none⟩) := hfree 2 (by kernel_rfl)
      clear hd hdep hfree
      refine .inl ⟨wanted_free rfl, ?_⟩
      simp only [Oper.wp, execOp]
      go_simp
      refine Nxt.mk _ rfl (fun _ _ => ?_) hS (fun _ _ h => h)
      (rw [hV.out]; rfl)
    · intro a W hd hS hdep hfree
      have x5 : a.tmps.getD 5 undef = .pointer (some ⟨w.heap.size, 1, none⟩) := by have h := hdep 0 5 (by kernel_rfl) rfl; rw [hV.out] at h; exact h
      clear hd hdep hfree
      refine .inl ⟨wanted_free rfl, ?_⟩
      have c0 : W.cell? ⟨w.heap.size, 1, none⟩ = some (.int .i64 xKindA) := (HB1.out.below hS hg1).cell 1 (by simp)
      simp only [Oper.wp, execOp]
      go_simp
      refine Nxt.mk _ rfl (fun _ _ => ?_) hS (fun _ _ h => h)
      (rw [hV.out]; rfl)
    · intro a W hd hS hdep hfree
      have x6 : a.tmps.getD 6 undef = .int .i64 xKindA := by have h := hdep 1 6 (by kernel_rfl) rfl; rw [hV.out] at h; exact h
      clear hd hdep hfree
      refine .inl ⟨wanted_free rfl, ?_⟩
      simp only [Oper.wp, execOp]
      go_simp
      refine Nxt.mk _ rfl (fun _ _ => ?_) hS (fun _ _ h => h)
      rw [hV.out]; first | rfl | (show (_ : Value) = _; simp)
    · intro a W hd hS hdep hfree
      have x7 : a.tmps.getD 7 undef = .bool (xKindA == 0) := by have h := hdep 2 7 (by kernel_rfl) rfl; rw [hV.out] at h; exact h
      clear hd hdep hfree
      refine .inl ⟨wanted_free rfl, ?_⟩
      simp only [Oper.wp, execOp]
      go_simp
      refine Nxt.mk _ rfl (fun _ _ => ?_) hS (fun _ _ h => h)
      (rw [hV.out]; rfl)
    · intro a W hd hS hdep hfree
      have x8 : a.tmps.getD 8 undef = .bool (xKindA == 0) := by have h := hdep 3 8 (by kernel_rfl) rfl; rw [hV.out] at h; exact h
      have x2 : a.tmps.getD 2 undef = .pointer (some ⟨w.heap.size, 0, none⟩) := hfree 2 (by kernel_rfl)
      clear hd hdep hfree
      rcases (Bool.eq_false_or_eq_true (((xKindA == 0) == false))).symm with hE | hE
      · exact .inr ⟨(wanted_sym rfl rfl x8).trans hE, fun _ _ => by rw [hV.out]; exact (onlyIf_neg hE).symm⟩
      refine .inl ⟨(wanted_sym rfl rfl x8).trans hE, ?_⟩
      have hG0 := eq_of_beq hE
      have HE := Lib.hid hE
      clear hE hG0
      simp only [Oper.wp, execOp]
      go_simp
      refine Nxt.mk _ rfl (fun _ _ => ?_) hS (fun _ _ h => h)
      (rw [hV.out]; exact (onlyIf_pos HE.out).symm)
    · intro a W hd hS hdep hfree
      have x8 : a.tmps.getD 8 undef = .bool (xKindA == 0) := by have h := hdep 3 8 (by kernel_rfl) rfl; rw [hV.out] at h; exact h
      have x9 : a.tmps.getD 9 undef = onlyIf ((xKindA == 0) == false) (.pointer (some ⟨w.heap.size, 1, none⟩)) := by have h := hdep 4 9 (by kernel_rfl) rfl; rw [hV.out] at h; exact h
      clear hd hdep hfree
      rcases (Bool.eq_false_or_eq_true (((xKindA == 0) == false))).symm with hE | hE
      · exact .inr ⟨(wanted_sym rfl rfl x8).trans hE, fun _ _ => by rw [hV.out]; exact (onlyIf_neg hE).symm⟩
      refine .inl ⟨(wanted_sym rfl rfl x8).trans hE, ?_⟩
      replace x9 := x9.trans (onlyIf_pos hE)
      have hG0 := eq_of_beq hE
      have HE := Lib.hid hE
      clear hE hG0
      have c0 : W.cell? ⟨w.heap.size, 1, none⟩ = some (.int .i64 xKindA) := (HB1.out.below hS hg1).cell 1 (by simp)
      simp only [Oper.wp, execOp]
      go_simp
      refine Nxt.mk _ rfl (fun _ _ => ?_) hS (fun _ _ h => h)
      (rw [hV.out]; exact (onlyIf_pos HE.out).symm)
    · intro a W hd hS hdep hfree
      have x8 : a.tmps.getD 8 undef = .bool (xKindA == 0) := by have h := hdep 3 8 (by kernel_rfl) rfl; rw [hV.out] at h; exact h
      have x3 : a.tmps.getD 3 undef = .pointer (some ⟨w.heap.size + 1, 0, none⟩) := hfree 3 (by kernel_rfl)
      clear hd hdep hfree
      rcases (Bool.eq_false_or_eq_true (((xKindA == 0) == false))).symm with hE | hE
      · exact .inr ⟨(wanted_sym rfl rfl x8).trans hE, fun _ _ => by rw [hV.out]; exact (onlyIf_neg hE).symm⟩
      refine .inl ⟨(wanted_sym rfl rfl x8).trans hE, ?_⟩
      have hG0 := eq_of_beq hE
      have HE := Lib.hid hE
      clear hE hG0
      simp only [Oper.wp, execOp]
      go_simp
      refine Nxt.mk _ rfl (fun _ _ => ?_) hS (fun _ _ h => h)
      (rw [hV.out]; exact (onlyIf_pos HE.out).symm)
    · intro a W hd hS hdep hfree
      have x8 : a.tmps.getD 8 undef = .bool (xKindA == 0) := by have h := hdep 3 8 (by kernel_rfl) rfl; rw [hV.out] at h; exact h
      have x11 : a.tmps.getD 11 undef = onlyIf ((xKindA == 0) == false) (.pointer (some ⟨w.heap.size + 1, 8, none⟩)) := by have h := hdep 6 11 (by kernel_rfl) rfl; rw [hV.out] at h; exact h
      clear hd hdep hfree
      rcases (Bool.eq_false_or_eq_true (((xKindA == 0) == false))).symm with hE | hE
      · exact .inr ⟨(wanted_sym rfl rfl x8).trans hE, fun _ _ => by rw [hV.out]; exact (onlyIf_neg hE).symm⟩
      refine .inl ⟨(wanted_sym rfl rfl x8).trans hE, ?_⟩
      replace x11 := x11.trans (onlyIf_pos hE)
      have hG0 := eq_of_beq hE
      have HE := Lib.hid hE
      clear hE hG0
      simp only [Oper.wp, execOp]
      go_simp
      refine Nxt.mk _ rfl (fun _ _ => ?_) hS (fun _ _ h => h)
      (rw [hV.out]; exact (onlyIf_pos HE.out).symm)
    · intro a W hd hS hdep hfree
      have x8 : a.tmps.getD 8 undef = .bool (xKindA == 0) := by have h := hdep 3 8 (by kernel_rfl) rfl; rw [hV.out] at h; exact h
      have x12 : a.tmps.getD 12 undef = onlyIf ((xKindA == 0) == false) (.pointer (some ⟨w.heap.size + 1, 8, none⟩)) := by have h := hdep 7 12 (by kernel_rfl) rfl; rw [hV.out] at h; exact h
      clear hd hdep hfree
      rcases (Bool.eq_false_or_eq_true (((xKindA == 0) == false))).symm with hE | hE
      · exact .inr ⟨(wanted_sym rfl rfl x8).trans hE, fun _ _ => by rw [hV.out]; exact (onlyIf_neg hE).symm⟩
      refine .inl ⟨(wanted_sym rfl rfl x8).trans hE, ?_⟩
      replace x12 := x12.trans (onlyIf_pos hE)
      have hG0 := eq_of_beq hE
      have HE := Lib.hid hE
      clear hE hG0
      have c0 : W.cell? ⟨w.heap.size + 1, 8, none⟩ = some (.int .i64 y8) := (HB2.out.below hS hg2).cell 8 (by simp)
      simp only [Oper.wp, execOp]
      go_simp
      refine Nxt.mk _ rfl (fun _ _ => ?_) hS (fun _ _ h => h)
      (rw [hV.out]; exact (onlyIf_pos HE.out).symm)
    · intro a W hd hS hdep hfree
      have x8 : a.tmps.getD 8 undef = .bool (xKindA == 0) := by have h := hdep 3 8 (by kernel_rfl) rfl; rw [hV.out] at h; exact h
      have x10 : a.tmps.getD 10 undef = onlyIf ((xKindA == 0) == false) (.int .i64 xKindA) := by have h := hdep 5 10 (by kernel_rfl) rfl; rw [hV.out] at h; exact h
      have x13 : a.tmps.getD 13 undef = onlyIf ((xKindA == 0) == false) (.int .i64 y8) := by have h := hdep 8 13 (by kernel_rfl) rfl; rw [hV.out] at h; exact h
      clear hd hdep hfree
      rcases (Bool.eq_false_or_eq_true (((xKindA == 0) == false))).symm with hE | hE
      · exact .inr ⟨(wanted_sym rfl rfl x8).trans hE, fun _ _ => by rw [hV.out]; exact (onlyIf_neg hE).symm⟩
      refine .inl ⟨(wanted_sym rfl rfl x8).trans hE, ?_⟩
      replace x10 := x10.trans (onlyIf_pos hE)
      replace x13 := x13.trans (onlyIf_pos hE)
      have hG0 := eq_of_beq hE
      have HE := Lib.hid hE
      clear hE hG0
      simp only [Oper.wp, execOp]
      go_simp
      refine Nxt.mk _ rfl (fun _ _ => ?_) hS (fun _ _ h => h)
      rw [hV.out]; first | exact (onlyIf_pos HE.out).symm | (show (_ : Value) = onlyIf _ _; rw [onlyIf_pos HE.out]; simp)
    · intro a W hd hS hdep hfree
      have x8 : a.tmps.getD 8 undef = .bool (xKindA == 0) := by have h := hdep 3 8 (by kernel_rfl) rfl; rw [hV.out] at h; exact h
      have x14 : a.tmps.getD 14 undef = onlyIf ((xKindA == 0) == false) (.bool (xKindA == y8)) := by have h := hdep 9 14 (by kernel_rfl) rfl; rw [hV.out] at h; exact h
      clear hd hdep hfree
      refine .inl ⟨wanted_free rfl, ?_⟩
      rcases (Bool.eq_false_or_eq_true ((xKindA == 0))).symm with hX | hX
      · have hp : ((xKindA == 0) == false) = true := by simp [hX]
        replace x14 := x14.trans (onlyIf_pos hp)
        rw [hX] at x8
        replace hX := Lib.hid hX
        simp only [Oper.wp, execOp]
        go_simp
        refine Nxt.mk _ rfl (fun _ _ => ?_) hS (fun _ _ h => h)
        rw [hV.out]; show (_ : Value) = .bool _; rw [hX.out]; rfl
      · rw [hX] at x8
        replace hX := Lib.hid hX
        simp only [Oper.wp, execOp]
        go_simp
        refine Nxt.mk _ rfl (fun _ _ => ?_) hS (fun _ _ h => h)
        rw [hV.out]; show (_ : Value) = .bool _; rw [hX.out]; rfl
    · intro a W hd hS hdep hfree
      have x15 : a.tmps.getD 15 undef = .bool ((xKindA == 0) || (xKindA == y8)) := by have h := hdep 10 15 (by kernel_rfl) rfl; rw [hV.out] at h; exact h
      clear hd hdep hfree
      refine .inl ⟨wanted_free rfl, ?_⟩
      simp only [Oper.wp, execOp]
      go_simp
      refine Nxt.mk _ rfl (fun _ _ => ?_) hS (fun _ _ h => h)
      (rw [hV.out]; rfl)
    · intro a W hd hS hdep hfree
      have x16 : a.tmps.getD 16 undef = .bool ((xKindA == 0) || (xKindA == y8)) := by have h := hdep 11 16 (by kernel_rfl) rfl; rw [hV.out] at h; exact h
      have x2 : a.tmps.getD 2 undef = .pointer (some ⟨w.heap.size, 0, none⟩) := hfree 2 (by kernel_rfl)
      clear hd hdep hfree
      rcases (Bool.eq_false_or_eq_true ((((xKindA == 0) || (xKindA == y8)) == true))).symm with hE | hE
      · exact .inr ⟨(wanted_sym rfl rfl x16).trans hE, fun _ _ => by rw [hV.out]; exact (onlyIf_neg hE).symm⟩
      refine .inl ⟨(wanted_sym rfl rfl x16).trans hE, ?_⟩
      have hG0 := eq_of_beq hE
      have HE := Lib.hid hE
      clear hE hG0
      simp only [Oper.wp, execOp]
      go_simp
      refine Nxt.mk _ rfl (fun _ _ => ?_) hS (fun _ _ h => h)
      (rw [hV.out]; exact (onlyIf_pos HE.out).symm)
    · intro a W hd hS hdep hfree
      have x16 : a.tmps.getD 16 undef = .bool ((xKindA == 0) || (xKindA == y8)) := by have h := hdep 11 16 (by kernel_rfl) rfl; rw [hV.out] at h; exact h
      have x17 : a.tmps.getD 17 undef = onlyIf (((xKindA == 0) || (xKindA == y8)) == true) (.pointer (some ⟨w.heap.size, 2, none⟩)) := by have h := hdep 12 17 (by kernel_rfl) rfl; rw [hV.out] at h; exact h
      clear hd hdep hfree
      rcases (Bool.eq_false_or_eq_true ((((xKindA == 0) || (xKindA == y8)) == true))).symm with hE | hE
      · exact .inr ⟨(wanted_sym rfl rfl x16).trans hE, fun _ _ => by rw [hV.out]; exact (onlyIf_neg hE).symm⟩
      refine .inl ⟨(wanted_sym rfl rfl x16).trans hE, ?_⟩
      replace x17 := x17.trans (onlyIf_pos hE)
      have hG0 := eq_of_beq hE
      have HE := Lib.hid hE
      clear hE hG0
      have c0 : W.cell? ⟨w.heap.size, 2, none⟩ = some (.int .i64 xSrcIpA) := (HB1.out.below hS hg1).cell 2 (by simp)
      simp only [Oper.wp, execOp]
      go_simp
      refine Nxt.mk _ rfl (fun _ _ => ?_) hS (fun _ _ h => h)
      (rw [hV.out]; exact (onlyIf_pos HE.out).symm)
    · intro a W hd hS hdep hfree
      have x16 : a.tmps.getD 16 undef = .bool ((xKindA == 0) || (xKindA == y8)) := by have h := hdep 11 16 (by kernel_rfl) rfl; rw [hV.out] at h; exact h
      have x2 : a.tmps.getD 2 undef = .pointer (some ⟨w.heap.size, 0, none⟩) := hfree 2 (by kernel_rfl)
      clear hd hdep hfree
      rcases (Bool.eq_false_or_eq_true ((((xKindA == 0) || (xKindA == y8)) == true))).symm with hE | hE
      · exact .inr ⟨(wanted_sym rfl rfl x16).trans hE, fun _ _ => by rw [hV.out]; exact (onlyIf_neg hE).symm⟩
      refine .inl ⟨(wanted_sym rfl rfl x16).trans hE, ?_⟩
      have hG0 := eq_of_beq hE
      have HE := Lib.hid hE
      clear hE hG0
      simp only [Oper.wp, execOp]
      go_simp
      refine Nxt.mk _ rfl (fun _ _ => ?_) hS (fun _ _ h => h)
      (rw [hV.out]; exact (onlyIf_pos HE.out).symm)
    · intro a W hd hS hdep hfree
      have x16 : a.tmps.getD 16 undef = .bool ((xKindA == 0) || (xKindA == y8)) := by have h := hdep 11 16 (by kernel_rfl) rfl; rw [hV.out] at h; exact h
      have x19 : a.tmps.getD 19 undef = onlyIf (((xKindA == 0) || (xKindA == y8)) == true) (.pointer (some ⟨w.heap.size, 3, none⟩)) := by have h := hdep 14 19 (by kernel_rfl) rfl; rw [hV.out] at h; exact h
      clear hd hdep hfree
      rcases (Bool.eq_false_or_eq_true ((((xKindA == 0) || (xKindA == y8)) == true))).symm with hE | hE
      · exact .inr ⟨(wanted_sym rfl rfl x16).trans hE, fun _ _ => by rw [hV.out]; exact (onlyIf_neg hE).symm⟩
      refine .inl ⟨(wanted_sym rfl rfl x16).trans hE, ?_⟩
      replace x19 := x19.trans (onlyIf_pos hE)
      have hG0 := eq_of_beq hE
      have HE := Lib.hid hE
      clear hE hG0
      have c0 : W.cell? ⟨w.heap.size, 3, none⟩ = some (.int .i64 xSrcBitsA) := (HB1.out.below hS hg1).cell 3 (by simp)
      simp only [Oper.wp, execOp]
      go_simp
      refine Nxt.mk _ rfl (fun _ _ => ?_) hS (fun _ _ h => h)
      (rw [hV.out]; exact (onlyIf_pos HE.out).symm)
    · intro a W hd hS hdep hfree
      have x16 : a.tmps.getD 16 undef = .bool ((xKindA == 0) || (xKindA == y8)) := by have h := hdep 11 16 (by kernel_rfl) rfl; rw [hV.out] at h; exact h
      have x20 : a.tmps.getD 20 undef = onlyIf (((xKindA == 0) || (xKindA == y8)) == true) (.int .i64 xSrcBitsA) := by have h := hdep 15 20 (by kernel_rfl) rfl; rw [hV.out] at h; exact h
      clear hd hdep hfree
      rcases (Bool.eq_false_or_eq_true ((((xKindA == 0) || (xKindA == y8)) == true))).symm with hE | hE
      · exact .inr ⟨(wanted_sym rfl rfl x16).trans hE, fun _ _ => by rw [hV.out]; exact (onlyIf_neg hE).symm⟩
      refine .inl ⟨(wanted_sym rfl rfl x16).trans hE, ?_⟩
      replace x20 := x20.trans (onlyIf_pos hE)
      have hG0 := eq_of_beq hE
      have HE := Lib.hid hE
      clear hE hG0
      have k : IntKind.i64.wrap (32 - xSrcBitsA) = 32 - xSrcBitsA := wrap_in _ (by omega) (by omega)
      simp only [Oper.wp, execOp]
      go_simp
      refine Nxt.mk _ rfl (fun _ _ => ?_) hS (fun _ _ h => h)
      (rw [hV.out]; exact (onlyIf_pos HE.out).symm)
    · intro a W hd hS hdep hfree
      have x16 : a.tmps.getD 16 undef = .bool ((xKindA == 0) || (xKindA == y8)) := by have h := hdep 11 16 (by kernel_rfl) rfl; rw [hV.out] at h; exact h
      have x18 : a.tmps.getD 18 undef = onlyIf (((xKindA == 0) || (xKindA == y8)) == true) (.int .i64 xSrcIpA) := by have h := hdep 13 18 (by kernel_rfl) rfl; rw [hV.out] at h; exact h
      have x21 : a.tmps.getD 21 undef = onlyIf (((xKindA == 0) || (xKindA == y8)) == true) (.int .i64 (32 - xSrcBitsA)) := by have h := hdep 16 21 (by kernel_rfl) rfl; rw [hV.out] at h; exact h
      clear hd hdep hfree
      rcases (Bool.eq_false_or_eq_true ((((xKindA == 0) || (xKindA == y8)) == true))).symm with hE | hE
      · exact .inr ⟨(wanted_sym rfl rfl x16).trans hE, fun _ _ => by rw [hV.out]; exact (onlyIf_neg hE).symm⟩
      refine .inl ⟨(wanted_sym rfl rfl x16).trans hE, ?_⟩
      replace x18 := x18.trans (onlyIf_pos hE)
      replace x21 := x21.trans (onlyIf_pos hE)
      have hG0 := eq_of_beq hE
      have HE := Lib.hid hE
      clear hE hG0
      simp only [Oper.wp, execOp]
      go_simp
      refine Nxt.mk _ rfl (fun _ _ => ?_) hS (fun _ _ h => h)
      (rw [hV.out]; exact (onlyIf_pos HE.out).symm)
    · intro a W hd hS hdep hfree
      have x16 : a.tmps.getD 16 undef = .bool ((xKindA == 0) || (xKindA == y8)) := by have h := hdep 11 16 (by kernel_rfl) rfl; rw [hV.out] at h; exact h
      have x3 : a.tmps.getD 3 undef = .pointer (some ⟨w.heap.size + 1, 0, none⟩) := hfree 3 (by kernel_rfl)
      clear hd hdep hfree
      rcases (Bool.eq_false_or_eq_true ((((xKindA == 0) || (xKindA == y8)) == true))).symm with hE | hE
      · exact .inr ⟨(wanted_sym rfl rfl x16).trans hE, fun _ _ => by rw [hV.out]; exact (onlyIf_neg hE).symm⟩
      refine .inl ⟨(wanted_sym rfl rfl x16).trans hE, ?_⟩
      have hG0 := eq_of_beq hE
      have HE := Lib.hid hE
      clear hE hG0
      simp only [Oper.wp, execOp]
      go_simp
      refine Nxt.mk _ rfl (fun _ _ => ?_) hS (fun _ _ h => h)
      (rw [hV.out]; exact (onlyIf_pos HE.out).symm)
    · intro a W hd hS hdep hfree
      have x16 : a.tmps.getD 16 undef = .bool ((xKindA == 0) || (xKindA == y8)) := by have h := hdep 11 16 (by kernel_rfl) rfl; rw [hV.out] at h; exact h
      have x23 : a.tmps.getD 23 undef = onlyIf (((xKindA == 0) || (xKindA == y8)) == true) (.pointer (some ⟨w.heap.size + 1, 6, none⟩)) := by have h := hdep 18 23 (by kernel_rfl) rfl; rw [hV.out] at h; exact h
      clear hd hdep hfree
      rcases (Bool.eq_false_or_eq_true ((((xKindA == 0) || (xKindA == y8)) == true))).symm with hE | hE
      · exact .inr ⟨(wanted_sym rfl rfl x16).trans hE, fun _ _ => by rw [hV.out]; exact (onlyIf_neg hE).symm⟩
      refine .inl ⟨(wanted_sym rfl rfl x16).trans hE, ?_⟩
      replace x23 := x23.trans (onlyIf_pos hE)
      have hG0 := eq_of_beq hE
      have HE := Lib.hid hE
      clear hE hG0
      have c0 : W.cell? ⟨w.heap.size + 1, 6, none⟩ = some (.int .i64 y6) := (HB2.out.below hS hg2).cell 6 (by simp)
      simp only [Oper.wp, execOp]
      go_simp
      refine Nxt.mk _ rfl (fun _ _ => ?_) hS (fun _ _ h => h)
      (rw [hV.out]; exact (onlyIf_pos HE.out).symm)
    · intro a W hd hS hdep hfree
      have x16 : a.tmps.getD 16 undef = .bool ((xKindA == 0) || (xKindA == y8)) := by have h := hdep 11 16 (by kernel_rfl) rfl; rw [hV.out] at h; exact h
      have x2 : a.tmps.getD 2 undef = .pointer (some ⟨w.heap.size, 0, none⟩) := hfree 2 (by kernel_rfl)
      clear hd hdep hfree
      rcases (Bool.eq_false_or_eq_true ((((xKindA == 0) || (xKindA == y8)) == true))).symm with hE | hE
      · exact .inr ⟨(wanted_sym rfl rfl x16).trans hE, fun _ _ => by rw [hV.out]; exact (onlyIf_neg hE).symm⟩
      refine .inl ⟨(wanted_sym rfl rfl x16).trans hE, ?_⟩
      have hG0 := eq_of_beq hE
      have HE := Lib.hid hE
      clear hE hG0
      simp only [Oper.wp, execOp]
      go_simp
      refine Nxt.mk _ rfl (fun _ _ => ?_) hS (fun _ _ h => h)
      (rw [hV.out]; exact (onlyIf_pos HE.out).symm)
    · intro a W hd hS hdep hfree
      have x16 : a.tmps.getD 16 undef = .bool ((xKindA == 0) || (xKindA == y8)) := by have h := hdep 11 16 (by kernel_rfl) rfl; rw [hV.out] at h; exact h
      have x25 : a.tmps.getD 25 undef = onlyIf (((xKindA == 0) || (xKindA == y8)) == true) (.pointer (some ⟨w.heap.size, 3, none⟩)) := by have h := hdep 20 25 (by kernel_rfl) rfl; rw [hV.out] at h; exact h
      clear hd hdep hfree
      rcases (Bool.eq_false_or_eq_true ((((xKindA == 0) || (xKindA == y8)) == true))).symm with hE | hE
      · exact .inr ⟨(wanted_sym rfl rfl x16).trans hE, fun _ _ => by rw [hV.out]; exact (onlyIf_neg hE).symm⟩
      refine .inl ⟨(wanted_sym rfl rfl x16).trans hE, ?_⟩
      replace x25 := x25.trans (onlyIf_pos hE)
      have hG0 := eq_of_beq hE
      have HE := Lib.hid hE
      clear hE hG0
      have c0 : W.cell? ⟨w.heap.size, 3, none⟩ = some (.int .i64 xSrcBitsA) := (HB1.out.below hS hg1).cell 3 (by simp)
      simp only [Oper.wp, execOp]
      go_simp
      refine Nxt.mk _ rfl (fun _ _ => ?_) hS (fun _ _ h => h)
      (rw [hV.out]; exact (onlyIf_pos HE.out).symm)
    · intro a W hd hS hdep hfree
      have x16 : a.tmps.getD 16 undef = .bool ((xKindA == 0) || (xKindA == y8)) := by have h := hdep 11 16 (by kernel_rfl) rfl; rw [hV.out] at h; exact h
      have x26 : a.tmps.getD 26 undef = onlyIf (((xKindA == 0) || (xKindA == y8)) == true) (.int .i64 xSrcBitsA) := by have h := hdep 21 26 (by kernel_rfl) rfl; rw [hV.out] at h; exact h
      clear hd hdep hfree
      rcases (Bool.eq_false_or_eq_true ((((xKindA == 0) || (xKindA == y8)) == true))).symm with hE | hE
      · exact .inr ⟨(wanted_sym rfl rfl x16).trans hE, fun _ _ => by rw [hV.out]; exact (onlyIf_neg hE).symm⟩
      refine .inl ⟨(wanted_sym rfl rfl x16).trans hE, ?_⟩
      replace x26 := x26.trans (onlyIf_pos hE)
      have hG0 := eq_of_beq hE
      have HE := Lib.hid hE
      clear hE hG0
      have k : IntKind.i64.wrap (32 - xSrcBitsA) = 32 - xSrcBitsA := wrap_in _ (by omega) (by omega)
      simp only [Oper.wp, execOp]
      go_simp
      refine Nxt.mk _ rfl (fun _ _ => ?_) hS (fun _ _ h => h)
      (rw [hV.out]; exact (onlyIf_pos HE.out).symm)
    · intro a W hd hS hdep hfree
      have x16 : a.tmps.getD 16 undef = .bool ((xKindA == 0) || (xKindA == y8)) := by have h := hdep 11 16 (by kernel_rfl) rfl; rw [hV.out] at h; exact h
      have x24 : a.tmps.getD 24 undef = onlyIf (((xKindA == 0) || (xKindA == y8)) == true) (.int .i64 y6) := by have h := hdep 19 24 (by kernel_rfl) rfl; rw [hV.out] at h; exact h
      have x27 : a.tmps.getD 27 undef = onlyIf (((xKindA == 0) || (xKindA == y8)) == true) (.int .i64 (32 - xSrcBitsA)) := by have h := hdep 22 27 (by kernel_rfl) rfl; rw [hV.out] at h; exact h
      clear hd hdep hfree
      rcases (Bool.eq_false_or_eq_true ((((xKindA == 0) || (xKindA == y8)) == true))).symm with hE | hE
      · exact .inr ⟨(wanted_sym rfl rfl x16).trans hE, fun _ _ => by rw [hV.out]; exact (onlyIf_neg hE).symm⟩
      refine .inl ⟨(wanted_sym rfl rfl x16).trans hE, ?_⟩
      replace x24 := x24.trans (onlyIf_pos hE)
      replace x27 := x27.trans (onlyIf_pos hE)
      have hG0 := eq_of_beq hE
      have HE := Lib.hid hE
      clear hE hG0
      simp only [Oper.wp, execOp]
      go_simp
      refine Nxt.mk _ rfl (fun _ _ => ?_) hS (fun _ _ h => h)
      (rw [hV.out]; exact (onlyIf_pos HE.out).symm)
    · intro a W hd hS hdep hfree
      have x16 : a.tmps.getD 16 undef = .bool ((xKindA == 0) || (xKindA == y8)) := by have h := hdep 11 16 (by kernel_rfl) rfl; rw [hV.out] at h; exact h
      have x22 : a.tmps.getD 22 undef = onlyIf (((xKindA == 0) || (xKindA == y8)) == true) (.int .i64 (xSrcIpA / 2 ^ (32 - xSrcBitsA).toNat)) := by have h := hdep 17 22 (by kernel_rfl) rfl; rw [hV.out] at h; exact h
      have x28 : a.tmps.getD 28 undef = onlyIf (((xKindA == 0) || (xKindA == y8)) == true) (.int .i64 (y6 / 2 ^ (32 - xSrcBitsA).toNat)) := by have h := hdep 23 28 (by kernel_rfl) rfl; rw [hV.out] at h; exact h
      clear hd hdep hfree
      rcases (Bool.eq_false_or_eq_true ((((xKindA == 0) || (xKindA == y8)) == true))).symm with hE | hE
      · exact .inr ⟨(wanted_sym rfl rfl x16).trans hE, fun _ _ => by rw [hV.out]; exact (onlyIf_neg hE).symm⟩
      refine .inl ⟨(wanted_sym rfl rfl x16).trans hE, ?_⟩
      replace x22 := x22.trans (onlyIf_pos hE)
      replace x28 := x28.trans (onlyIf_pos hE)
      have hG0 := eq_of_beq hE
      have HE := Lib.hid hE
      clear hE hG0
      simp only [Oper.wp, execOp]
      go_simp
      refine Nxt.mk _ rfl (fun _ _ => ?_) hS (fun _ _ h => h)
      rw [hV.out]; first | exact (onlyIf_pos HE.out).symm | (show (_ : Value) = onlyIf _ _; rw [onlyIf_pos HE.out]; simp)
    · intro a W hd hS hdep hfree
      have x16 : a.tmps.getD 16 undef = .bool ((xKindA == 0) || (xKindA == y8)) := by have h := hdep 11 16 (by kernel_rfl) rfl; rw [hV.out] at h; exact h
      have x29 : a.tmps.getD 29 undef = onlyIf (((xKindA == 0) || (xKindA == y8)) == true) (.bool (xSrcIpA / 2 ^ (32 - xSrcBitsA).toNat == y6 / 2 ^ (32 - xSrcBitsA).toNat)) := by have h := hdep 24 29 (by kernel_rfl) rfl; rw [hV.out] at h; exact h
      clear hd hdep hfree
      refine .inl ⟨wanted_free rfl, ?_⟩
      rcases (Bool.eq_false_or_eq_true (((xKindA == 0) || (xKindA == y8)))).symm with hX | hX
      · rw [hX] at x16
        replace hX := Lib.hid hX
        simp only [Oper.wp, execOp]
        go_simp
        refine Nxt.mk _ rfl (fun _ _ => ?_) hS (fun _ _ h => h)
        rw [hV.out]; show (_ : Value) = .bool _; rw [hX.out]; rfl
      · have hp : (((xKindA == 0) || (xKindA == y8)) == true) = true := by simp [hX]
        replace x29 := x29.trans (onlyIf_pos hp)
        rw [hX] at x16
        replace hX := Lib.hid hX
        simp only [Oper.wp, execOp]
        go_simp
        refine Nxt.mk _ rfl (fun _ _ => ?_) hS (fun _ _ h => h)
        rw [hV.out]; show (_ : Value) = .bool _; rw [hX.out]; rfl
    · intro a W hd hS hdep hfree
      have x30 : a.tmps.getD 30 undef = .bool (((xKindA == 0) || (xKindA == y8)) && (xSrcIpA / 2 ^ (32 - xSrcBitsA).toNat == y6 / 2 ^ (32 - xSrcBitsA).toNat)) := by have h := hdep 25 30 (by kernel_rfl) rfl; rw [hV.out] at h; exact h
      clear hd hdep hfree
      refine .inl ⟨wanted_free rfl, ?_⟩
      simp only [Oper.wp, execOp]
      go_simp
      refine Nxt.mk _ rfl (fun _ _ => ?_) hS (fun _ _ h => h)
      (rw [hV.out]; rfl)
    · intro a W hd hS hdep hfree
      have x31 : a.tmps.getD 31 undef = .bool (((xKindA == 0) || (xKindA == y8)) && (xSrcIpA / 2 ^ (32 - xSrcBitsA).toNat == y6 / 2 ^ (32 - xSrcBitsA).toNat)) := by have h := hdep 26 31 (by kernel_rfl) rfl; rw [hV.out] at h; exact h
      have x3 : a.tmps.getD 3 undef = .pointer (some ⟨w.heap.size + 1, 0, none⟩) := hfree 3 (by kernel_rfl)
      clear hd hdep hfree
      rcases (Bool.eq_false_or_eq_true (((((xKindA == 0) || (xKindA == y8)) && (xSrcIpA / 2 ^ (32 - xSrcBitsA).toNat == y6 / 2 ^ (32 - xSrcBitsA).toNat)) == true))).symm with hE | hE
      · exact .inr ⟨(wanted_sym rfl rfl x31).trans hE, fun _ _ => by rw [hV.out]; exact (onlyIf_neg hE).symm⟩
      refine .inl ⟨(wanted_sym rfl rfl x31).trans hE, ?_⟩
      have hG0 := eq_of_beq hE
      have HE := Lib.hid hE
      clear hE hG0
      simp only [Oper.wp, execOp]
      go_simp
      refine Nxt.mk _ rfl (fun _ _ => ?_) hS (fun _ _ h => h)
      (rw [hV.out]; exact (onlyIf_pos HE.out).symm)
    · intro a W hd hS hdep hfree
      have x31 : a.tmps.getD 31 undef = .bool (((xKindA == 0) || (xKindA == y8)) && (xSrcIpA / 2 ^ (32 - xSrcBitsA).toNat == y6 / 2 ^ (32 - xSrcBitsA).toNat)) := by have h := hdep 26 31 (by kernel_rfl) rfl; rw [hV.out] at h; exact h
      have x32 : a.tmps.getD 32 undef = onlyIf ((((xKindA == 0) || (xKindA == y8)) && (xSrcIpA / 2 ^ (32 - xSrcBitsA).toNat == y6 / 2 ^ (32 - xSrcBitsA).toNat)) == true) (.pointer (some ⟨w.heap.size + 1, 8, none⟩)) := by have h := hdep 27 32 (by kernel_rfl) rfl; rw [hV.out] at h; exact h
      clear hd hdep hfree
      rcases (Bool.eq_false_or_eq_true (((((xKindA == 0) || (xKindA == y8)) && (xSrcIpA / 2 ^ (32 - xSrcBitsA).toNat == y6 / 2 ^ (32 - xSrcBitsA).toNat)) == true))).symm with hE | hE
      · exact .inr ⟨(wanted_sym rfl rfl x31).trans hE, fun _ _ => by rw [hV.out]; exact (onlyIf_neg hE).symm⟩
      refine .inl ⟨(wanted_sym rfl rfl x31).trans hE, ?_⟩
      replace x32 := x32.trans (onlyIf_pos hE)
      have hG0 := eq_of_beq hE
      have HE := Lib.hid hE
      clear hE hG0
      simp only [Oper.wp, execOp]
      go_simp
      refine Nxt.mk _ rfl (fun _ _ => ?_) hS (fun _ _ h => h)
      (rw [hV.out]; exact (onlyIf_pos HE.out).symm)
    · intro a W hd hS hdep hfree
      have x31 : a.tmps.getD 31 undef = .bool (((xKindA == 0) || (xKindA == y8)) && (xSrcIpA / 2 ^ (32 - xSrcBitsA).toNat == y6 / 2 ^ (32 - xSrcBitsA).toNat)) := by have h := hdep 26 31 (by kernel_rfl) rfl; rw [hV.out] at h; exact h
      have x33 : a.tmps.getD 33 undef = onlyIf ((((xKindA == 0) || (xKindA == y8)) && (xSrcIpA / 2 ^ (32 - xSrcBitsA).toNat == y6 / 2 ^ (32 - xSrcBitsA).toNat)) == true) (.pointer (some ⟨w.heap.size + 1, 10, none⟩)) := by have h := hdep 28 33 (by kernel_rfl) rfl; rw [hV.out] at h; exact h
      clear hd hdep hfree
      rcases (Bool.eq_false_or_eq_true (((((xKindA == 0) || (xKindA == y8)) && (xSrcIpA / 2 ^ (32 - xSrcBitsA).toNat == y6 / 2 ^ (32 - xSrcBitsA).toNat)) == true))).symm with hE | hE
      · exact .inr ⟨(wanted_sym rfl rfl x31).trans hE, fun _ _ => by rw [hV.out]; exact (onlyIf_neg hE).symm⟩
      refine .inl ⟨(wanted_sym rfl rfl x31).trans hE, ?_⟩
      replace x33 := x33.trans (onlyIf_pos hE)
      have hG0 := eq_of_beq hE
      have HE := Lib.hid hE
      clear hE hG0
      have c0 : W.cell? ⟨w.heap.size + 1, 10, none⟩ = some (.int .i64 y10) := (HB2.out.below hS hg2).cell 10 (by simp)
      simp only [Oper.wp, execOp]
      go_simp
      refine Nxt.mk _ rfl (fun _ _ => ?_) hS (fun _ _ h => h)
      (rw [hV.out]; exact (onlyIf_pos HE.out).symm)
    · intro a W hd hS hdep hfree
      have x31 : a.tmps.getD 31 undef = .bool (((xKindA == 0) || (xKindA == y8)) && (xSrcIpA / 2 ^ (32 - xSrcBitsA).toNat == y6 / 2 ^ (32 - xSrcBitsA).toNat)) := by have h := hdep 26 31 (by kernel_rfl) rfl; rw [hV.out] at h; exact h
      have x2 : a.tmps.getD 2 undef = .pointer (some ⟨w.heap.size, 0, none⟩) := hfree 2 (by kernel_rfl)
      clear hd hdep hfree
      rcases (Bool.eq_false_or_eq_true (((((xKindA == 0) || (xKindA == y8)) && (xSrcIpA / 2 ^ (32 - xSrcBitsA).toNat == y6 / 2 ^ (32 - xSrcBitsA).toNat)) == true))).symm with hE | hE
      · exact .inr ⟨(wanted_sym rfl rfl x31).trans hE, fun _ _ => by rw [hV.out]; exact (onlyIf_neg hE).symm⟩
      refine .inl ⟨(wanted_sym rfl rfl x31).trans hE, ?_⟩
      have hG0 := eq_of_beq hE
      have HE := Lib.hid hE
      clear hE hG0
      simp only [Oper.wp, execOp]
      go_simp
      refine Nxt.mk _ rfl (fun _ _ => ?_) hS (fun _ _ h => h)
      (rw [hV.out]; exact (onlyIf_pos HE.out).symm)
    · intro a W hd hS hdep hfree
      have x31 : a.tmps.getD 31 undef = .bool (((xKindA == 0) || (xKindA == y8)) && (xSrcIpA / 2 ^ (32 - xSrcBitsA).toNat == y6 / 2 ^ (32 - xSrcBitsA).toNat)) := by have h := hdep 26 31 (by kernel_rfl) rfl; rw [hV.out] at h; exact h
      have x35 : a.tmps.getD 35 undef = onlyIf ((((xKindA == 0) || (xKindA == y8)) && (xSrcIpA / 2 ^ (32 - xSrcBitsA).toNat == y6 / 2 ^ (32 - xSrcBitsA).toNat)) == true) (.pointer (some ⟨w.heap.size, 4, none⟩)) := by have h := hdep 30 35 (by kernel_rfl) rfl; rw [hV.out] at h; exact h
      clear hd hdep hfree
      rcases (Bool.eq_false_or_eq_true (((((xKindA == 0) || (xKindA == y8)) && (xSrcIpA / 2 ^ (32 - xSrcBitsA).toNat == y6 / 2 ^ (32 - xSrcBitsA).toNat)) == true))).symm with hE | hE
      · exact .inr ⟨(wanted_sym rfl rfl x31).trans hE, fun _ _ => by rw [hV.out]; exact (onlyIf_neg hE).symm⟩
      refine .inl ⟨(wanted_sym rfl rfl x31).trans hE, ?_⟩
      replace x35 := x35.trans (onlyIf_pos hE)
      have hG0 := eq_of_beq hE
      have HE := Lib.hid hE
      clear hE hG0
      have c0 : W.cell? ⟨w.heap.size, 4, none⟩ = some (.int .i64 xFirstPortA) := (HB1.out.below hS hg1).cell 4 (by simp)
      simp only [Oper.wp, execOp]
      go_simp
      refine Nxt.mk _ rfl (fun _ _ => ?_) hS (fun _ _ h => h)
      (rw [hV.out]; exact (onlyIf_pos HE.out).symm)
    · intro a W hd hS hdep hfree
      have x31 : a.tmps.getD 31 undef = .bool (((xKindA == 0) || (xKindA == y8)) && (xSrcIpA / 2 ^ (32 - xSrcBitsA).toNat == y6 / 2 ^ (32 - xSrcBitsA).toNat)) := by have h := hdep 26 31 (by kernel_rfl) rfl; rw [hV.out] at h; exact h
      have x2 : a.tmps.getD 2 undef = .pointer (some ⟨w.heap.size, 0, none⟩) := hfree 2 (by kernel_rfl)
      clear hd hdep hfree
      rcases (Bool.eq_false_or_eq_true (((((xKindA == 0) || (xKindA == y8)) && (xSrcIpA / 2 ^ (32 - xSrcBitsA).toNat == y6 / 2 ^ (32 - xSrcBitsA).toNat)) == true))).symm with hE | hE
      · exact .inr ⟨(wanted_sym rfl rfl x31).trans hE, fun _ _ => by rw [hV.out]; exact (onlyIf_neg hE).symm⟩
      refine .inl ⟨(wanted_sym rfl rfl x31).trans hE, ?_⟩
      have hG0 := eq_of_beq hE
      have HE := Lib.hid hE
      clear hE hG0
      simp only [Oper.wp, execOp]
      go_simp
      refine Nxt.mk _ rfl (fun _ _ => ?_) hS (fun _ _ h => h)
      (rw [hV.out]; exact (onlyIf_pos HE.out).symm)
    · intro a W hd hS hdep hfree
      have x31 : a.tmps.getD 31 undef = .bool (((xKindA == 0) || (xKindA == y8)) && (xSrcIpA / 2 ^ (32 - xSrcBitsA).toNat == y6 / 2 ^ (32 - xSrcBitsA).toNat)) := by have h := hdep 26 31 (by kernel_rfl) rfl; rw [hV.out] at h; exact h
      have x37 : a.tmps.getD 37 undef = onlyIf ((((xKindA == 0) || (xKindA == y8)) && (xSrcIpA / 2 ^ (32 - xSrcBitsA).toNat == y6 / 2 ^ (32 - xSrcBitsA).toNat)) == true) (.pointer (some ⟨w.heap.size, 5, none⟩)) := by have h := hdep 32 37 (by kernel_rfl) rfl; rw [hV.out] at h; exact h
      clear hd hdep hfree
      rcases (Bool.eq_false_or_eq_true (((((xKindA == 0) || (xKindA == y8)) && (xSrcIpA / 2 ^ (32 - xSrcBitsA).toNat == y6 / 2 ^ (32 - xSrcBitsA).toNat)) == true))).symm with hE | hE
      · exact .inr ⟨(wanted_sym rfl rfl x31).trans hE, fun _ _ => by rw [hV.out]; exact (onlyIf_neg hE).symm⟩
      refine .inl ⟨(wanted_sym rfl rfl x31).trans hE, ?_⟩
      replace x37 := x37.trans (onlyIf_pos hE)
      have hG0 := eq_of_beq hE
      have HE := Lib.hid hE
      clear hE hG0
      have c0 : W.cell? ⟨w.heap.size, 5, none⟩ = some (.int .i64 xLastPortA) := (HB1.out.below hS hg1).cell 5 (by simp)
      simp only [Oper.wp, execOp]
      go_simp
      refine Nxt.mk _ rfl (fun _ _ => ?_) hS (fun _ _ h => h)
      (rw [hV.out]; exact (onlyIf_pos HE.out).symm)
    · intro a W hd hS hdep hfree
      have x31 : a.tmps.getD 31 undef = .bool (((xKindA == 0) || (xKindA == y8)) && (xSrcIpA / 2 ^ (32 - xSrcBitsA).toNat == y6 / 2 ^ (32 - xSrcBitsA).toNat)) := by have h := hdep 26 31 (by kernel_rfl) rfl; rw [hV.out] at h; exact h
      have x34 : a.tmps.getD 34 undef = onlyIf ((((xKindA == 0) || (xKindA == y8)) && (xSrcIpA / 2 ^ (32 - xSrcBitsA).toNat == y6 / 2 ^ (32 - xSrcBitsA).toNat)) == true) (.int .i64 y10) := by have h := hdep 29 34 (by kernel_rfl) rfl; rw [hV.out] at h; exact h
      have x36 : a.tmps.getD 36 undef = onlyIf ((((xKindA == 0) || (xKindA == y8)) && (xSrcIpA / 2 ^ (32 - xSrcBitsA).toNat == y6 / 2 ^ (32 - xSrcBitsA).toNat)) == true) (.int .i64 xFirstPortA) := by have h := hdep 31 36 (by kernel_rfl) rfl; rw [hV.out] at h; exact h
      have x38 : a.tmps.getD 38 undef = onlyIf ((((xKindA == 0) || (xKindA == y8)) && (xSrcIpA / 2 ^ (32 - xSrcBitsA).toNat == y6 / 2 ^ (32 - xSrcBitsA).toNat)) == true) (.int .i64 xLastPortA) := by have h := hdep 33 38 (by kernel_rfl) rfl; rw [hV.out] at h; exact h
      clear hd hdep hfree
      rcases (Bool.eq_false_or_eq_true (((((xKindA == 0) || (xKindA == y8)) && (xSrcIpA / 2 ^ (32 - xSrcBitsA).toNat == y6 / 2 ^ (32 - xSrcBitsA).toNat)) == true))).symm with hE | hE
      · exact .inr ⟨(wanted_sym rfl rfl x31).trans hE, fun _ _ => by rw [hV.out]; exact (onlyIf_neg hE).symm⟩
      refine .inl ⟨(wanted_sym rfl rfl x31).trans hE, ?_⟩
      replace x34 := x34.trans (onlyIf_pos hE)
      replace x36 := x36.trans (onlyIf_pos hE)
      replace x38 := x38.trans (onlyIf_pos hE)
      have hG0 := eq_of_beq hE
      have HE := Lib.hid hE
      clear hE hG0
      simp only [Oper.wp, execOp]
      go_simp
      refine ((sin_below y10 xFirstPortA xLastPortA W)).mono ?_
      rintro e W' ⟨rfl, hb⟩
      exact Nxt.mk _ rfl (fun _ _ => by (rw [hV.out]; exact (onlyIf_pos HE.out).symm)) (below_comp hS hb) (fun j u h => by rw [hV.out] at h ⊢; exact Vals.below hb j u h)
    · intro a W hd hS hdep hfree
      have x31 : a.tmps.getD 31 undef = .bool (((xKindA == 0) || (xKindA == y8)) && (xSrcIpA / 2 ^ (32 - xSrcBitsA).toNat == y6 / 2 ^ (32 - xSrcBitsA).toNat)) := by have h := hdep 26 31 (by kernel_rfl) rfl; rw [hV.out] at h; exact h
      have x39 : a.tmps.getD 39 undef = onlyIf ((((xKindA == 0) || (xKindA == y8)) && (xSrcIpA / 2 ^ (32 - xSrcBitsA).toNat == y6 / 2 ^ (32 - xSrcBitsA).toNat)) == true) (.bool (inB xFirstPortA y10 xLastPortA)) := by have h := hdep 34 39 (by kernel_rfl) rfl; rw [hV.out] at h; exact h
      clear hd hdep hfree
      refine .inl ⟨wanted_free rfl, ?_⟩
      rcases (Bool.eq_false_or_eq_true ((((xKindA == 0) || (xKindA == y8)) && (xSrcIpA / 2 ^ (32 - xSrcBitsA).toNat == y6 / 2 ^ (32 - xSrcBitsA).toNat)))).symm with hX | hX
      · rw [hX] at x31
        replace hX := Lib.hid hX
        simp only [Oper.wp, execOp]
        go_simp
        refine Nxt.mk _ rfl (fun _ _ => ?_) hS (fun _ _ h => h)
        rw [hV.out]; show (_ : Value) = .bool _; rw [hX.out]; rfl
      · have hp : ((((xKindA == 0) || (xKindA == y8)) && (xSrcIpA / 2 ^ (32 - xSrcBitsA).toNat == y6 / 2 ^ (32 - xSrcBitsA).toNat)) == true) = true := by simp [hX]
        replace x39 := x39.trans (onlyIf_pos hp)
        rw [hX] at x31
        replace hX := Lib.hid hX
        simp only [Oper.wp, execOp]
        go_simp
        refine Nxt.mk _ rfl (fun _ _ => ?_) hS (fun _ _ h => h)
        rw [hV.out]; show (_ : Value) = .bool _; rw [hX.out]; rfl
    · intro a W hd hS hdep hfree
      have x40 : a.tmps.getD 40 undef = .bool ((((xKindA == 0) || (xKindA == y8)) && (xSrcIpA / 2 ^ (32 - xSrcBitsA).toNat == y6 / 2 ^ (32 - xSrcBitsA).toNat)) && (inB xFirstPortA y10 xLastPortA)) := by have h := hdep 35 40 (by kernel_rfl) rfl; rw [hV.out] at h; exact h
      clear hd hdep hfree
      refine .inl ⟨wanted_free rfl, ?_⟩
      simp only [Oper.wp, execOp]
      go_simp
      refine Nxt.mk _ rfl (fun _ _ => ?_) hS (fun _ _ h => h)
      (rw [hV.out]; rfl)
    · intro a W hd hS hdep hfree
      have x41 : a.tmps.getD 41 undef = .bool ((((xKindA == 0) || (xKindA == y8)) && (xSrcIpA / 2 ^ (32 - xSrcBitsA).toNat == y6 / 2 ^ (32 - xSrcBitsA).toNat)) && (inB xFirstPortA y10 xLastPortA)) := by have h := hdep 36 41 (by kernel_rfl) rfl; rw [hV.out] at h; exact h
      have x2 : a.tmps.getD 2 undef = .pointer (some ⟨w.heap.size, 0, none⟩) := hfree 2 (by kernel_rfl)
      clear hd hdep hfree
      rcases (Bool.eq_false_or_eq_true ((((((xKindA == 0) || (xKindA == y8)) && (xSrcIpA / 2 ^ (32 - xSrcBitsA).toNat == y6 / 2 ^ (32 - xSrcBitsA).toNat)) && (inB xFirstPortA y10 xLastPortA)) == true))).symm with hE | hE
      · exact .inr ⟨(wanted_sym rfl rfl x41).trans hE, fun _ _ => by rw [hV.out]; exact (onlyIf_neg hE).symm⟩
      refine .inl ⟨(wanted_sym rfl rfl x41).trans hE, ?_⟩
      have hG0 := eq_of_beq hE
      have HE := Lib.hid hE
      clear hE hG0
      simp only [Oper.wp, execOp]
      go_simp
      refine Nxt.mk _ rfl (fun _ _ => ?_) hS (fun _ _ h => h)
      (rw [hV.out]; exact (onlyIf_pos HE.out).symm)
    · intro a W hd hS hdep hfree
      have x41 : a.tmps.getD 41 undef = .bool ((((xKindA == 0) || (xKindA == y8)) && (xSrcIpA / 2 ^ (32 - xSrcBitsA).toNat == y6 / 2 ^ (32 - xSrcBitsA).toNat)) && (inB xFirstPortA y10 xLastPortA)) := by have h := hdep 36 41 (by kernel_rfl) rfl; rw [hV.out] at h; exact h
      have x42 : a.tmps.getD 42 undef = onlyIf (((((xKindA == 0) || (xKindA == y8)) && (xSrcIpA / 2 ^ (32 - xSrcBitsA).toNat == y6 / 2 ^ (32 - xSrcBitsA).toNat)) && (inB xFirstPortA y10 xLastPortA)) == true) (.pointer (some ⟨w.heap.size, 6, none⟩)) := by have h := hdep 37 42 (by kernel_rfl) rfl; rw [hV.out] at h; exact h
      clear hd hdep hfree
      rcases (Bool.eq_false_or_eq_true ((((((xKindA == 0) || (xKindA == y8)) && (xSrcIpA / 2 ^ (32 - xSrcBitsA).toNat == y6 / 2 ^ (32 - xSrcBitsA).toNat)) && (inB xFirstPortA y10 xLastPortA)) == true))).symm with hE | hE
      · exact .inr ⟨(wanted_sym rfl rfl x41).trans hE, fun _ _ => by rw [hV.out]; exact (onlyIf_neg hE).symm⟩
      refine .inl ⟨(wanted_sym rfl rfl x41).trans hE, ?_⟩
      replace x42 := x42.trans (onlyIf_pos hE)
      have hG0 := eq_of_beq hE
      have HE := Lib.hid hE
      clear hE hG0
      have c0 : W.cell? ⟨w.heap.size, 6, none⟩ = some (.int .i64 xVlanA) := (HB1.out.below hS hg1).cell 6 (by simp)
      simp only [Oper.wp, execOp]
      go_simp
      refine Nxt.mk _ rfl (fun _ _ => ?_) hS (fun _ _ h => h)
      (rw [hV.out]; exact (onlyIf_pos HE.out).symm)
    · intro a W hd hS hdep hfree
      have x41 : a.tmps.getD 41 undef = .bool ((((xKindA == 0) || (xKindA == y8)) && (xSrcIpA / 2 ^ (32 - xSrcBitsA).toNat == y6 / 2 ^ (32 - xSrcBitsA).toNat)) && (inB xFirstPortA y10 xLastPortA)) := by have h := hdep 36 41 (by kernel_rfl) rfl; rw [hV.out] at h; exact h
      have x43 : a.tmps.getD 43 undef = onlyIf (((((xKindA == 0) || (xKindA == y8)) && (xSrcIpA / 2 ^ (32 - xSrcBitsA).toNat == y6 / 2 ^ (32 - xSrcBitsA).toNat)) && (inB xFirstPortA y10 xLastPortA)) == true) (.int .i64 xVlanA) := by have h := hdep 38 43 (by kernel_rfl) rfl; rw [hV.out] at h; exact h
      clear hd hdep hfree
      rcases (Bool.eq_false_or_eq_true ((((((xKindA == 0) || (xKindA == y8)) && (xSrcIpA / 2 ^ (32 - xSrcBitsA).toNat == y6 / 2 ^ (32 - xSrcBitsA).toNat)) && (inB xFirstPortA y10 xLastPortA)) == true))).symm with hE | hE
      · exact .inr ⟨(wanted_sym rfl rfl x41).trans hE, fun _ _ => by rw [hV.out]; exact (onlyIf_neg hE).symm⟩
      refine .inl ⟨(wanted_sym rfl rfl x41).trans hE, ?_⟩
      replace x43 := x43.trans (onlyIf_pos hE)
      have hG0 := eq_of_beq hE
      have HE := Lib.hid hE
      clear hE hG0
      simp only [Oper.wp, execOp]
      go_simp
      refine Nxt.mk _ rfl (fun _ _ => ?_) hS (fun _ _ h => h)
      rw [hV.out]; first | exact (onlyIf_pos HE.out).symm | (show (_ : Value) = onlyIf _ _; rw [onlyIf_pos HE.out]; simp)
    · intro a W hd hS hdep hfree
      have x41 : a.tmps.getD 41 undef = .bool ((((xKindA == 0) || (xKindA == y8)) && (xSrcIpA / 2 ^ (32 - xSrcBitsA).toNat == y6 / 2 ^ (32 - xSrcBitsA).toNat)) && (inB xFirstPortA y10 xLastPortA)) := by have h := hdep 36 41 (by kernel_rfl) rfl; rw [hV.out] at h; exact h
      have x44 : a.tmps.getD 44 undef = onlyIf (((((xKindA == 0) || (xKindA == y8)) && (xSrcIpA / 2 ^ (32 - xSrcBitsA).toNat == y6 / 2 ^ (32 - xSrcBitsA).toNat)) && (inB xFirstPortA y10 xLastPortA)) == true) (.bool (xVlanA == (-2))) := by have h := hdep 39 44 (by kernel_rfl) rfl; rw [hV.out] at h; exact h
      clear hd hdep hfree
      rcases (Bool.eq_false_or_eq_true ((((((xKindA == 0) || (xKindA == y8)) && (xSrcIpA / 2 ^ (32 - xSrcBitsA).toNat == y6 / 2 ^ (32 - xSrcBitsA).toNat)) && (inB xFirstPortA y10 xLastPortA)) == true))).symm with hE | hE
      · exact .inr ⟨(wanted_sym rfl rfl x41).trans hE, fun _ _ => by rw [hV.out]; exact (onlyIf_neg hE).symm⟩
      refine .inl ⟨(wanted_sym rfl rfl x41).trans hE, ?_⟩
      replace x44 := x44.trans (onlyIf_pos hE)
      have hG0 := eq_of_beq hE
      have HE := Lib.hid hE
      clear hE hG0
      simp only [Oper.wp, execOp]
      go_simp
      refine Nxt.mk _ rfl (fun _ _ => ?_) hS (fun _ _ h => h)
      (rw [hV.out]; exact (onlyIf_pos HE.out).symm)
    · intro a W hd hS hdep hfree
      have x45 : a.tmps.getD 45 undef = onlyIf (((((xKindA == 0) || (xKindA == y8)) && (xSrcIpA / 2 ^ (32 - xSrcBitsA).toNat == y6 / 2 ^ (32 - xSrcBitsA).toNat)) && (inB xFirstPortA y10 xLastPortA)) == true) (.bool (xVlanA == (-2))) := by have h := hdep 40 45 (by kernel_rfl) rfl; rw [hV.out] at h; exact h
      have x2 : a.tmps.getD 2 undef = .pointer (some ⟨w.heap.size, 0, none⟩) := hfree 2 (by kernel_rfl)
      clear hd hdep hfree
      rcases (Bool.eq_false_or_eq_true (((((((xKindA == 0) || (xKindA == y8)) && (xSrcIpA / 2 ^ (32 - xSrcBitsA).toNat == y6 / 2 ^ (32 - xSrcBitsA).toNat)) && (inB xFirstPortA y10 xLastPortA)) == true) && ((xVlanA == (-2)) == false)))).symm with hE | hE
      · exact .inr ⟨(wanted_cond rfl rfl x45).trans hE, fun _ _ => by rw [hV.out]; exact (onlyIf_neg hE).symm⟩
      refine .inl ⟨(wanted_cond rfl rfl x45).trans hE, ?_⟩
      have hC1 : (((((xKindA == 0) || (xKindA == y8)) && (xSrcIpA / 2 ^ (32 - xSrcBitsA).toNat == y6 / 2 ^ (32 - xSrcBitsA).toNat)) && (inB xFirstPortA y10 xLastPortA)) == true) = true := and_l hE
      replace x45 := x45.trans (onlyIf_pos hC1)
      have hG0 := eq_of_beq hC1
      have hG1 := eq_of_beq (and_r hE)
      have HE := Lib.hid hE
      clear hE hC1 hG0 hG1
      simp only [Oper.wp, execOp]
      go_simp
      refine Nxt.mk _ rfl (fun _ _ => ?_) hS (fun _ _ h => h)
      (rw [hV.out]; exact (onlyIf_pos HE.out).symm)
    · intro a W hd hS hdep hfree
      have x45 : a.tmps.getD 45 undef = onlyIf (((((xKindA == 0) || (xKindA == y8)) && (xSrcIpA / 2 ^ (32 - xSrcBitsA).toNat == y6 / 2 ^ (32 - xSrcBitsA).toNat)) && (inB xFirstPortA y10 xLastPortA)) == true) (.bool (xVlanA == (-2))) := by have h := hdep 40 45 (by kernel_rfl) rfl; rw [hV.out] at h; exact h
      have x46 : a.tmps.getD 46 undef = onlyIf ((((((xKindA == 0) || (xKindA == y8)) && (xSrcIpA / 2 ^ (32 - xSrcBitsA).toNat == y6 / 2 ^ (32 - xSrcBitsA).toNat)) && (inB xFirstPortA y10 xLastPortA)) == true) && ((xVlanA == (-2)) == false)) (.pointer (some ⟨w.heap.size, 6, none⟩)) := by have h := hdep 41 46 (by kernel_rfl) rfl; rw [hV.out] at h; exact h
      clear hd hdep hfree
      rcases (Bool.eq_false_or_eq_true (((((((xKindA == 0) || (xKindA == y8)) && (xSrcIpA / 2 ^ (32 - xSrcBitsA).toNat == y6 / 2 ^ (32 - xSrcBitsA).toNat)) && (inB xFirstPortA y10 xLastPortA)) == true) && ((xVlanA == (-2)) == false)))).symm with hE | hE
      · exact .inr ⟨(wanted_cond rfl rfl x45).trans hE, fun _ _ => by rw [hV.out]; exact (onlyIf_neg hE).symm⟩
      refine .inl ⟨(wanted_cond rfl rfl x45).trans hE, ?_⟩
      have hC1 : (((((xKindA == 0) || (xKindA == y8)) && (xSrcIpA / 2 ^ (32 - xSrcBitsA).toNat == y6 / 2 ^ (32 - xSrcBitsA).toNat)) && (inB xFirstPortA y10 xLastPortA)) == true) = true := and_l hE
      replace x45 := x45.trans (onlyIf_pos hC1)
      replace x46 := x46.trans (onlyIf_pos hE)
      have hG0 := eq_of_beq hC1
      have hG1 := eq_of_beq (and_r hE)
      have HE := Lib.hid hE
      clear hE hC1 hG0 hG1
      have c0 : W.cell? ⟨w.heap.size, 6, none⟩ = some (.int .i64 xVlanA) := (HB1.out.below hS hg1).cell 6 (by simp)
      simp only [Oper.wp, execOp]
      go_simp
      refine Nxt.mk _ rfl (fun _ _ => ?_) hS (fun _ _ h => h)
      (rw [hV.out]; exact (onlyIf_pos HE.out).symm)
    · intro a W hd hS hdep hfree
      have x45 : a.tmps.getD 45 undef = onlyIf (((((xKindA == 0) || (xKindA == y8)) && (xSrcIpA / 2 ^ (32 - xSrcBitsA).toNat == y6 / 2 ^ (32 - xSrcBitsA).toNat)) && (inB xFirstPortA y10 xLastPortA)) == true) (.bool (xVlanA == (-2))) := by have h := hdep 40 45 (by kernel_rfl) rfl; rw [hV.out] at h; exact h
      have x3 : a.tmps.getD 3 undef = .pointer (some ⟨w.heap.size + 1, 0, none⟩) := hfree 3 (by kernel_rfl)
      clear hd hdep hfree
      rcases (Bool.eq_false_or_eq_true (((((((xKindA == 0) || (xKindA == y8)) && (xSrcIpA / 2 ^ (32 - xSrcBitsA).toNat == y6 / 2 ^ (32 - xSrcBitsA).toNat)) && (inB xFirstPortA y10 xLastPortA)) == true) && ((xVlanA == (-2)) == false)))).symm with hE | hE
      · exact .inr ⟨(wanted_cond rfl rfl x45).trans hE, fun _ _ => by rw [hV.out]; exact (onlyIf_neg hE).symm⟩
      refine .inl ⟨(wanted_cond rfl rfl x45).trans hE, ?_⟩
      have hC1 : (((((xKindA == 0) || (xKindA == y8)) && (xSrcIpA / 2 ^ (32 - xSrcBitsA).toNat == y6 / 2 ^ (32 - xSrcBitsA).toNat)) && (inB xFirstPortA y10 xLastPortA)) == true) = true := and_l hE
      replace x45 := x45.trans (onlyIf_pos hC1)
      have hG0 := eq_of_beq hC1
      have hG1 := eq_of_beq (and_r hE)
      have HE := Lib.hid hE
      clear hE hC1 hG0 hG1
      simp only [Oper.wp, execOp]
      go_simp
      refine Nxt.mk _ rfl (fun _ _ => ?_) hS (fun _ _ h => h)
      (rw [hV.out]; exact (onlyIf_pos HE.out).symm)
    · intro a W hd hS hdep hfree
      have x45 : a.tmps.getD 45 undef = onlyIf (((((xKindA == 0) || (xKindA == y8)) && (xSrcIpA / 2 ^ (32 - xSrcBitsA).toNat == y6 / 2 ^ (32 - xSrcBitsA).toNat)) && (inB xFirstPortA y10 xLastPortA)) == true) (.bool (xVlanA == (-2))) := by have h := hdep 40 45 (by kernel_rfl) rfl; rw [hV.out] at h; exact h
      have x48 : a.tmps.getD 48 undef = onlyIf ((((((xKindA == 0) || (xKindA == y8)) && (xSrcIpA / 2 ^ (32 - xSrcBitsA).toNat == y6 / 2 ^ (32 - xSrcBitsA).toNat)) && (inB xFirstPortA y10 xLastPortA)) == true) && ((xVlanA == (-2)) == false)) (.pointer (some ⟨w.heap.size + 1, 2, none⟩)) := by have h := hdep 43 48 (by kernel_rfl) rfl; rw [hV.out] at h; exact h
      clear hd hdep hfree
      rcases (Bool.eq_false_or_eq_true (((((((xKindA == 0) || (xKindA == y8)) && (xSrcIpA / 2 ^ (32 - xSrcBitsA).toNat == y6 / 2 ^ (32 - xSrcBitsA).toNat)) && (inB xFirstPortA y10 xLastPortA)) == true) && ((xVlanA == (-2)) == false)))).symm with hE | hE
      · exact .inr ⟨(wanted_cond rfl rfl x45).trans hE, fun _ _ => by rw [hV.out]; exact (onlyIf_neg hE).symm⟩
      refine .inl ⟨(wanted_cond rfl rfl x45).trans hE, ?_⟩
      have hC1 : (((((xKindA == 0) || (xKindA == y8)) && (xSrcIpA / 2 ^ (32 - xSrcBitsA).toNat == y6 / 2 ^ (32 - xSrcBitsA).toNat)) && (inB xFirstPortA y10 xLastPortA)) == true) = true := and_l hE
      replace x45 := x45.trans (onlyIf_pos hC1)
      replace x48 := x48.trans (onlyIf_pos hE)
      have hG0 := eq_of_beq hC1
      have hG1 := eq_of_beq (and_r hE)
      have HE := Lib.hid hE
      clear hE hC1 hG0 hG1
      have c0 : W.cell? ⟨w.heap.size + 1, 2, none⟩ = some (.int .i64 y2) := (HB2.out.below hS hg2).cell 2 (by simp)
      simp only [Oper.wp, execOp]
      go_simp
      refine Nxt.mk _ rfl (fun _ _ => ?_) hS (fun _ _ h => h)
      (rw [hV.out]; exact (onlyIf_pos HE.out).symm)
    · intro a W hd hS hdep hfree
      have x45 : a.tmps.getD 45 undef = onlyIf (((((xKindA == 0) || (xKindA == y8)) && (xSrcIpA / 2 ^ (32 - xSrcBitsA).toNat == y6 / 2 ^ (32 - xSrcBitsA).toNat)) && (inB xFirstPortA y10 xLastPortA)) == true) (.bool (xVlanA == (-2))) := by have h := hdep 40 45 (by kernel_rfl) rfl; rw [hV.out] at h; exact h
      have x47 : a.tmps.getD 47 undef = onlyIf ((((((xKindA == 0) || (xKindA == y8)) && (xSrcIpA / 2 ^ (32 - xSrcBitsA).toNat == y6 / 2 ^ (32 - xSrcBitsA).toNat)) && (inB xFirstPortA y10 xLastPortA)) == true) && ((xVlanA == (-2)) == false)) (.int .i64 xVlanA) := by have h := hdep 42 47 (by kernel_rfl) rfl; rw [hV.out] at h; exact h
      have x49 : a.tmps.getD 49 undef = onlyIf ((((((xKindA == 0) || (xKindA == y8)) && (xSrcIpA / 2 ^ (32 - xSrcBitsA).toNat == y6 / 2 ^ (32 - xSrcBitsA).toNat)) && (inB xFirstPortA y10 xLastPortA)) == true) && ((xVlanA == (-2)) == false)) (.int .i64 y2) := by have h := hdep 44 49 (by kernel_rfl) rfl; rw [hV.out] at h; exact h
      clear hd hdep hfree
      rcases (Bool.eq_false_or_eq_true (((((((xKindA == 0) || (xKindA == y8)) && (xSrcIpA / 2 ^ (32 - xSrcBitsA).toNat == y6 / 2 ^ (32 - xSrcBitsA).toNat)) && (inB xFirstPortA y10 xLastPortA)) == true) && ((xVlanA == (-2)) == false)))).symm with hE | hE
      · exact .inr ⟨(wanted_cond rfl rfl x45).trans hE, fun _ _ => by rw [hV.out]; exact (onlyIf_neg hE).symm⟩
      refine .inl ⟨(wanted_cond rfl rfl x45).trans hE, ?_⟩
      have hC1 : (((((xKindA == 0) || (xKindA == y8)) && (xSrcIpA / 2 ^ (32 - xSrcBitsA).toNat == y6 / 2 ^ (32 - xSrcBitsA).toNat)) && (inB xFirstPortA y10 xLastPortA)) == true) = true := and_l hE
      replace x45 := x45.trans (onlyIf_pos hC1)
      replace x47 := x47.trans (onlyIf_pos hE)
      replace x49 := x49.trans (onlyIf_pos hE)
      have hG0 := eq_of_beq hC1
      have hG1 := eq_of_beq (and_r hE)
      have HE := Lib.hid hE
      clear hE hC1 hG0 hG1
      simp only [Oper.wp, execOp]
      go_simp
      refine Nxt.mk _ rfl (fun _ _ => ?_) hS (fun _ _ h => h)
      rw [hV.out]; first | exact (onlyIf_pos HE.out).symm | (show (_ : Value) = onlyIf _ _; rw [onlyIf_pos HE.out]; simp)
    · intro a W hd hS hdep hfree
      have x41 : a.tmps.getD 41 undef = .bool ((((xKindA == 0) || (xKindA == y8)) && (xSrcIpA / 2 ^ (32 - xSrcBitsA).toNat == y6 / 2 ^ (32 - xSrcBitsA).toNat)) && (inB xFirstPortA y10 xLastPortA)) := by have h := hdep 36 41 (by kernel_rfl) rfl; rw [hV.out] at h; exact h
      have x45 : a.tmps.getD 45 undef = onlyIf (((((xKindA == 0) || (xKindA == y8)) && (xSrcIpA / 2 ^ (32 - xSrcBitsA).toNat == y6 / 2 ^ (32 - xSrcBitsA).toNat)) && (inB xFirstPortA y10 xLastPortA)) == true) (.bool (xVlanA == (-2))) := by have h := hdep 40 45 (by kernel_rfl) rfl; rw [hV.out] at h; exact h
      have x50 : a.tmps.getD 50 undef = onlyIf ((((((xKindA == 0) || (xKindA == y8)) && (xSrcIpA / 2 ^ (32 - xSrcBitsA).toNat == y6 / 2 ^ (32 - xSrcBitsA).toNat)) && (inB xFirstPortA y10 xLastPortA)) == true) && ((xVlanA == (-2)) == false)) (.bool (xVlanA == y2)) := by have h := hdep 45 50 (by kernel_rfl) rfl; rw [hV.out] at h; exact h
      clear hd hdep hfree
      rcases (Bool.eq_false_or_eq_true ((((((xKindA == 0) || (xKindA == y8)) && (xSrcIpA / 2 ^ (32 - xSrcBitsA).toNat == y6 / 2 ^ (32 - xSrcBitsA).toNat)) && (inB xFirstPortA y10 xLastPortA)) == true))).symm with hE | hE
      · exact .inr ⟨(wanted_sym rfl rfl x41).trans hE, fun _ _ => by rw [hV.out]; exact (onlyIf_neg hE).symm⟩
      refine .inl ⟨(wanted_sym rfl rfl x41).trans hE, ?_⟩
      replace x45 := x45.trans (onlyIf_pos hE)
      have hG0 := eq_of_beq hE
      have HE := Lib.hid hE
      clear hE hG0
      rcases (Bool.eq_false_or_eq_true ((xVlanA == (-2)))).symm with hX | hX
      · have hp : ((((((xKindA == 0) || (xKindA == y8)) && (xSrcIpA / 2 ^ (32 - xSrcBitsA).toNat == y6 / 2 ^ (32 - xSrcBitsA).toNat)) && (inB xFirstPortA y10 xLastPortA)) == true) && ((xVlanA == (-2)) == false)) = true := by have hE := HE.out; first | simp [hX, hE] | (rw [hE, hX]; rfl) | simp_all
        replace x50 := x50.trans (onlyIf_pos hp)
        rw [hX] at x45
        replace hX := Lib.hid hX
        simp only [Oper.wp, execOp]
        go_simp
        refine Nxt.mk _ rfl (fun _ _ => ?_) hS (fun _ _ h => h)
        rw [hV.out]; show (_ : Value) = onlyIf _ _; rw [onlyIf_pos HE.out, hX.out]; rfl
      · rw [hX] at x45
        replace hX := Lib.hid hX
        simp only [Oper.wp, execOp]
        go_simp
        refine Nxt.mk _ rfl (fun _ _ => ?_) hS (fun _ _ h => h)
        rw [hV.out]; show (_ : Value) = onlyIf _ _; rw [onlyIf_pos HE.out, hX.out]; rfl
    · intro a W hd hS hdep hfree
      have x41 : a.tmps.getD 41 undef = .bool ((((xKindA == 0) || (xKindA == y8)) && (xSrcIpA / 2 ^ (32 - xSrcBitsA).toNat == y6 / 2 ^ (32 - xSrcBitsA).toNat)) && (inB xFirstPortA y10 xLastPortA)) := by have h := hdep 36 41 (by kernel_rfl) rfl; rw [hV.out] at h; exact h
      have x51 : a.tmps.getD 51 undef = onlyIf (((((xKindA == 0) || (xKindA == y8)) && (xSrcIpA / 2 ^ (32 - xSrcBitsA).toNat == y6 / 2 ^ (32 - xSrcBitsA).toNat)) && (inB xFirstPortA y10 xLastPortA)) == true) (.bool ((xVlanA == (-2)) || (xVlanA == y2))) := by have h := hdep 46 51 (by kernel_rfl) rfl; rw [hV.out] at h; exact h
      clear hd hdep hfree
      refine .inl ⟨wanted_free rfl, ?_⟩
      rcases (Bool.eq_false_or_eq_true (((((xKindA == 0) || (xKindA == y8)) && (xSrcIpA / 2 ^ (32 - xSrcBitsA).toNat == y6 / 2 ^ (32 - xSrcBitsA).toNat)) && (inB xFirstPortA y10 xLastPortA)))).symm with hX | hX
      · rw [hX] at x41
        replace hX := Lib.hid hX
        simp only [Oper.wp, execOp]
        go_simp
        refine Nxt.mk _ rfl (fun _ _ => ?_) hS (fun _ _ h => h)
        rw [hV.out]; show (_ : Value) = .bool _; rw [hX.out]; rfl
      · have hp : (((((xKindA == 0) || (xKindA == y8)) && (xSrcIpA / 2 ^ (32 - xSrcBitsA).toNat == y6 / 2 ^ (32 - xSrcBitsA).toNat)) && (inB xFirstPortA y10 xLastPortA)) == true) = true := by simp [hX]
        replace x51 := x51.trans (onlyIf_pos hp)
        rw [hX] at x41
        replace hX := Lib.hid hX
        simp only [Oper.wp, execOp]
        go_simp
        refine Nxt.mk _ rfl (fun _ _ => ?_) hS (fun _ _ h => h)
        rw [hV.out]; show (_ : Value) = .bool _; rw [hX.out]; rfl
    · intro a W hd hS hdep hfree
      have x52 : a.tmps.getD 52 undef = .bool (((((xKindA == 0) || (xKindA == y8)) && (xSrcIpA / 2 ^ (32 - xSrcBitsA).toNat == y6 / 2 ^ (32 - xSrcBitsA).toNat)) && (inB xFirstPortA y10 xLastPortA)) && ((xVlanA == (-2)) || (xVlanA == y2))) := by have h := hdep 47 52 (by kernel_rfl) rfl; rw [hV.out] at h; exact h
      clear hd hdep hfree
      refine .inl ⟨wanted_free rfl, ?_⟩
      simp only [Oper.wp, execOp]
      go_simp
      refine Nxt.mk _ rfl (fun _ _ => ?_) hS (fun _ _ h => h)
      (rw [hV.out]; rfl)
  intro a W2 hs hd hS2 hdone hrest
  have ea := written_all ((.pointer (some ⟨w.heap.size, 1, none⟩) : Value) :: (.int .i64 xKindA : Value) :: (.bool (xKindA == 0) : Value) :: (.bool (xKindA == 0) : Value) :: onlyIf ((xKindA == 0) == false) (.pointer (some ⟨w.heap.size, 1, none⟩)) :: onlyIf ((xKindA == 0) == false) (.int .i64 xKindA) :: onlyIf ((xKindA == 0) == false) (.pointer (some ⟨w.heap.size + 1, 8, none⟩)) :: onlyIf ((xKindA == 0) == false) (.pointer (some ⟨w.heap.size + 1, 8, none⟩)) :: onlyIf ((xKindA == 0) == false) (.int .i64 y8) :: onlyIf ((xKindA == 0) == false) (.bool (xKindA == y8)) :: (.bool ((xKindA == 0) || (xKindA == y8)) : Value) :: (.bool ((xKindA == 0) || (xKindA == y8)) : Value) :: onlyIf (((xKindA == 0) || (xKindA == y8)) == true) (.pointer (some ⟨w.heap.size, 2, none⟩)) :: onlyIf (((xKindA == 0) || (xKindA == y8)) == true) (.int .i64 xSrcIpA) :: onlyIf (((xKindA == 0) || (xKindA == y8)) == true) (.pointer (some ⟨w.heap.size, 3, none⟩)) :: onlyIf (((xKindA == 0) || (xKindA == y8)) == true) (.int .i64 xSrcBitsA) :: onlyIf (((xKindA == 0) || (xKindA == y8)) == true) (.int .i64 (32 - xSrcBitsA)) :: onlyIf (((xKindA == 0) || (xKindA == y8)) == true) (.int .i64 (xSrcIpA / 2 ^ (32 - xSrcBitsA).toNat)) :: onlyIf (((xKindA == 0) || (xKindA == y8)) == true) (.pointer (some ⟨w.heap.size + 1, 6, none⟩)) :: onlyIf (((xKindA == 0) || (xKindA == y8)) == true) (.int .i64 y6) :: onlyIf (((xKindA == 0) || (xKindA == y8)) == true) (.pointer (some ⟨w.heap.size, 3, none⟩)) :: onlyIf (((xKindA == 0) || (xKindA == y8)) == true) (.int .i64 xSrcBitsA) :: onlyIf (((xKindA == 0) || (xKindA == y8)) == true) (.int .i64 (32 - xSrcBitsA)) :: onlyIf (((xKindA == 0) || (xKindA == y8)) == true) (.int .i64 (y6 / 2 ^ (32 - xSrcBitsA).toNat)) :: onlyIf (((xKindA == 0) || (xKindA == y8)) == true) (.bool (xSrcIpA / 2 ^ (32 - xSrcBitsA).toNat == y6 / 2 ^ (32 - xSrcBitsA).toNat)) :: (.bool (((xKindA == 0) || (xKindA == y8)) && (xSrcIpA / 2 ^ (32 - xSrcBitsA).toNat == y6 / 2 ^ (32 - xSrcBitsA).toNat)) : Value) :: (.bool (((xKindA == 0) || (xKindA == y8)) && (xSrcIpA / 2 ^ (32 - xSrcBitsA).toNat == y6 / 2 ^ (32 - xSrcBitsA).toNat)) : Value) :: onlyIf ((((xKindA == 0) || (xKindA == y8)) && (xSrcIpA / 2 ^ (32 - xSrcBitsA).toNat == y6 / 2 ^ (32 - xSrcBitsA).toNat)) == true) (.pointer (some ⟨w.heap.size + 1, 8, none⟩)) :: onlyIf ((((xKindA == 0) || (xKindA == y8)) && (xSrcIpA / 2 ^ (32 - xSrcBitsA).toNat == y6 / 2 ^ (32 - xSrcBitsA).toNat)) == true) (.pointer (some ⟨w.heap.size + 1, 10, none⟩)) :: onlyIf ((((xKindA == 0) || (xKindA == y8)) && (xSrcIpA / 2 ^ (32 - xSrcBitsA).toNat == y6 / 2 ^ (32 - xSrcBitsA).toNat)) == true) (.int .i64 y10) :: onlyIf ((((xKindA == 0) || (xKindA == y8)) && (xSrcIpA / 2 ^ (32 - xSrcBitsA).toNat == y6 / 2 ^ (32 - xSrcBitsA).toNat)) == true) (.pointer (some ⟨w.heap.size, 4, none⟩)) :: onlyIf ((((xKindA == 0) || (xKindA == y8)) && (xSrcIpA / 2 ^ (32 - xSrcBitsA).toNat == y6 / 2 ^ (32 - xSrcBitsA).toNat)) == true) (.int .i64 xFirstPortA) :: onlyIf ((((xKindA == 0) || (xKindA == y8)) && (xSrcIpA / 2 ^ (32 - xSrcBitsA).toNat == y6 / 2 ^ (32 - xSrcBitsA).toNat)) == true) (.pointer (some ⟨w.heap.size, 5, none⟩)) :: onlyIf ((((xKindA == 0) || (xKindA == y8)) && (xSrcIpA / 2 ^ (32 - xSrcBitsA).toNat == y6 / 2 ^ (32 - xSrcBitsA).toNat)) == true) (.int .i64 xLastPortA) :: onlyIf ((((xKindA == 0) || (xKindA == y8)) && (xSrcIpA / 2 ^ (32 - xSrcBitsA).toNat == y6 / 2 ^ (32 - xSrcBitsA).toNat)) == true) (.bool (inB xFirstPortA y10 xLastPortA)) :: (.bool ((((xKindA == 0) || (xKindA == y8)) && (xSrcIpA / 2 ^ (32 - xSrcBitsA).toNat == y6 / 2 ^ (32 - xSrcBitsA).toNat)) && (inB xFirstPortA y10 xLastPortA)) : Value) :: (.bool ((((xKindA == 0) || (xKindA == y8)) && (xSrcIpA / 2 ^ (32 - xSrcBitsA).toNat == y6 / 2 ^ (32 - xSrcBitsA).toNat)) && (inB xFirstPortA y10 xLastPortA)) : Value) :: onlyIf (((((xKindA == 0) || (xKindA == y8)) && (xSrcIpA / 2 ^ (32 - xSrcBitsA).toNat == y6 / 2 ^ (32 - xSrcBitsA).toNat)) && (inB xFirstPortA y10 xLastPortA)) == true) (.pointer (some ⟨w.heap.size, 6, none⟩)) :: onlyIf (((((xKindA == 0) || (xKindA == y8)) && (xSrcIpA / 2 ^ (32 - xSrcBitsA).toNat == y6 / 2 ^ (32 - xSrcBitsA).toNat)) && (inB xFirstPortA y10 xLastPortA)) == true) (.int .i64 xVlanA) :: onlyIf (((((xKindA == 0) || (xKindA == y8)) && (xSrcIpA / 2 ^ (32 - xSrcBitsA).toNat == y6 / 2 ^ (32 - xSrcBitsA).toNat)) && (inB xFirstPortA y10 xLastPortA)) == true) (.bool (xVlanA == (-2))) :: onlyIf (((((xKindA == 0) || (xKindA == y8)) && (xSrcIpA / 2 ^ (32 - xSrcBitsA).toNat == y6 / 2 ^ (32 - xSrcBitsA).toNat)) && (inB xFirstPortA y10 xLastPortA)) == true) (.bool (xVlanA == (-2))) :: onlyIf ((((((xKindA == 0) || (xKindA == y8)) && (xSrcIpA / 2 ^ (32 - xSrcBitsA).toNat == y6 / 2 ^ (32 - xSrcBitsA).toNat)) && (inB xFirstPortA y10 xLastPortA)) == true) && ((xVlanA == (-2)) == false)) (.pointer (some ⟨w.heap.size, 6, none⟩)) :: onlyIf ((((((xKindA == 0) || (xKindA == y8)) && (xSrcIpA / 2 ^ (32 - xSrcBitsA).toNat == y6 / 2 ^ (32 - xSrcBitsA).toNat)) && (inB xFirstPortA y10 xLastPortA)) == true) && ((xVlanA == (-2)) == false)) (.int .i64 xVlanA) :: onlyIf ((((((xKindA == 0) || (xKindA == y8)) && (xSrcIpA / 2 ^ (32 - xSrcBitsA).toNat == y6 / 2 ^ (32 - xSrcBitsA).toNat)) && (inB xFirstPortA y10 xLastPortA)) == true) && ((xVlanA == (-2)) == false)) (.pointer (some ⟨w.heap.size + 1, 2, none⟩)) :: onlyIf ((((((xKindA == 0) || (xKindA == y8)) && (xSrcIpA / 2 ^ (32 - xSrcBitsA).toNat == y6 / 2 ^ (32 - xSrcBitsA).toNat)) && (inB xFirstPortA y10 xLastPortA)) == true) && ((xVlanA == (-2)) == false)) (.int .i64 y2) :: onlyIf ((((((xKindA == 0) || (xKindA == y8)) && (xSrcIpA / 2 ^ (32 - xSrcBitsA).toNat == y6 / 2 ^ (32 - xSrcBitsA).toNat)) && (inB xFirstPortA y10 xLastPortA)) == true) && ((xVlanA == (-2)) == false)) (.bool (xVlanA == y2)) :: onlyIf (((((xKindA == 0) || (xKindA == y8)) && (xSrcIpA / 2 ^ (32 - xSrcBitsA).toNat == y6 / 2 ^ (32 - xSrcBitsA).toNat)) && (inB xFirstPortA y10 xLastPortA)) == true) (.bool ((xVlanA == (-2)) || (xVlanA == y2))) :: (.bool (((((xKindA == 0) || (xKindA == y8)) && (xSrcIpA / 2 ^ (32 - xSrcBitsA).toNat == y6 / 2 ^ (32 - xSrcBitsA).toNat)) && (inB xFirstPortA y10 xLastPortA)) && ((xVlanA == (-2)) || (xVlanA == y2))) : Value) :: (.bool (((((xKindA == 0) || (xKindA == y8)) && (xSrcIpA / 2 ^ (32 - xSrcBitsA).toNat == y6 / 2 ^ (32 - xSrcBitsA).toNat)) && (inB xFirstPortA y10 xLastPortA)) && ((xVlanA == (-2)) || (xVlanA == y2))) : Value) :: ([] : List Value)) rfl hs hd hrest (fun j d hj => by have h := hdone j d hj; rw [hV.out] at h; exact h)
  clear hs hd hdone hrest hV V
  subst ea
  simp only [written, List.append_eq, Array.toList_append, List.append_toArray, List.map_append, List.cons_append, List.nil_append, List.map_cons, List.map_nil, List.zip_cons_cons, List.zip_nil_right, putAll]
  simp only [Exit.then, Act.put, List.setIfInBounds_toArray, List.set_cons_zero, List.set_cons_succ]
  have HF : Hid (((((((xKindA == 0) || (xKindA == y8)) && (xSrcIpA / 2 ^ (32 - xSrcBitsA).toNat == y6 / 2 ^ (32 - xSrcBitsA).toNat)) && (inB xFirstPortA y10 xLastPortA)) && ((xVlanA == (-2)) || (xVlanA == y2)))) = B) := Lib.hid (by
    rw [HB.out]
    unfold same RuleM.Fits inB
    dsimp only
    rw [Bool.eq_iff_iff]
    simp only [Bool.and_eq_true, Bool.or_eq_true, decide_eq_true_eq, beq_iff_eq]
    grind)
  rw [HF.out]
  go_wp2
  go_ret
  exact ⟨rfl, below_comp hb1 hS2⟩

end Go.Proofs.Ytogiocinhjbdkaa
