/- RuleCovers of both sides. -/
import Derived.Test.YtfbnjemmmgobkaaRuleOkB
import Derived.Test.YtfbnjemmmgobkaaRegionS
import Derived.Deep.QuietTactic
import Derived.BigQuiet
import Derived.Deep.DeepCutAuto
namespace Go.Proofs.Ytfbnjemmmgobkaa
open Go.RowKit
set_option linter.unusedSimpArgs false
set_option linter.unusedVariables false

/-- The highest bits are the same. -/
def same (a b n : Int) : Bool := a / 2 ^ (32 - n).toNat == b / 2 ^ (32 - n).toNat
set_option maxHeartbeats 4000000 in
set_option maxRecDepth 100000 in
theorem impl_samestart (a b n : Int) (w : World) (hn : 0 ≤ n ∧ n ≤ 32) :
    Calls Try.prog 173 #[.int .i64 a, .int .i64 b, .int .i64 n] w fun r w' => r = .returned (.bool (same a b n)) ∧ Below w.heap.size w w' := by
  go_enter Try.func173, Try.ntmps173
  go_wp2
  go_quiet (fail)
  go_wp2
  go_ret
  exact ⟨rfl, below_drewM _⟩
def RuleM.Fits (e : RuleM) (k v : Int) : Prop := (e.xKind = 0 ∨ e.xKind = k) ∧ (e.xVlan = -2 ∨ e.xVlan = v)
instance (e : RuleM) (k v : Int) : Decidable (e.Fits k v) := by unfold RuleM.Fits; infer_instance
set_option maxHeartbeats 4000000 in
set_option maxRecDepth 100000 in
theorem impl_fits (e : RuleM) (k v : Int) (w : World) :
    Calls Try.prog 174 #[e.val, .int .i64 k, .int .i64 v] w fun r w' => r = .returned (.bool (decide (e.Fits k v))) ∧ Below w.heap.size w w' := by
  obtain ⟨xPriority, xKind, xSrcIp, xSrcBits, xFirstPort, xLastPort, xVlan, xAction, xQueue⟩ := e
  unfold RuleM.val
  dsimp only
  obtain ⟨B, HB⟩ : ∃ B : Bool, Hid (B = decide (RuleM.Fits ⟨xPriority, xKind, xSrcIp, xSrcBits, xFirstPort, xLastPort, xVlan, xAction, xQueue⟩ k v) ∧ (B = true ↔ RuleM.Fits ⟨xPriority, xKind, xSrcIp, xSrcBits, xFirstPort, xLastPort, xVlan, xAction, xQueue⟩ k v)) := ⟨_, Lib.hid ⟨rfl, decide_eq_true_iff⟩⟩
  rw [← HB.out.1]
  go_enter Try.func174, Try.ntmps174
  go_wp2
  all_goals
    go_ret
    refine ⟨ret_bool ?_, by repeat (first | exact Below.refl _ _ | exact below_new _ | (refine below_comp ?_ (by assumption)) | (refine below_comp ?_ (below_new _)))⟩
    rw [Bool.eq_iff_iff, HB.out.2]
    unfold RuleM.Fits
    dsimp only
    simp only [Bool.and_eq_true, Bool.or_eq_true, decide_eq_true_eq, bne_iff_ne, beq_iff_eq, Bool.false_eq_true, ne_eq, false_iff, true_iff, true_and, and_true]
    first | omega | (simp only [Bool.not_eq_true', Bool.not_eq_false', decide_eq_false_iff_not, decide_eq_true_eq, beq_eq_false_iff_ne, beq_iff_eq, bne_iff_ne, bne_eq_false_iff_eq, ne_eq] at *; omega)

def RuleM.Covers (a b : RuleM) : Prop := a.Ok ∧ b.Ok ∧ a.xSrcBits ≤ b.xSrcBits ∧ same a.xSrcIp b.xSrcIp a.xSrcBits = true ∧ a.xFirstPort ≤ b.xFirstPort ∧ b.xLastPort ≤ a.xLastPort ∧ a.Fits b.xKind b.xVlan
instance (a b : RuleM) : Decidable (a.Covers b) := by unfold RuleM.Covers; infer_instance

theorem spec_cov_eq (xPriorityA xKindA xSrcIpA xSrcBitsA xFirstPortA xLastPortA xVlanA xActionA xQueueA xPriorityB xKindB xSrcIpB xSrcBitsB xFirstPortB xLastPortB xVlanB xActionB xQueueB : Int) (GA GB : Bool) (h1 : GA = decide (RuleM.Ok ⟨xPriorityA, xKindA, xSrcIpA, xSrcBitsA, xFirstPortA, xLastPortA, xVlanA, xActionA, xQueueA⟩)) (h2 : GB = decide (RuleM.Ok ⟨xPriorityB, xKindB, xSrcIpB, xSrcBitsB, xFirstPortB, xLastPortB, xVlanB, xActionB, xQueueB⟩)) : ((((((((GA && GB) && ((xKindA == 0) || (xKindA == xKindB))) && (decide (xSrcBitsA ≤ xSrcBitsB))) && (xSrcIpA / 2 ^ (32 - xSrcBitsA).toNat == xSrcIpB / 2 ^ (32 - xSrcBitsA).toNat)) && (decide (xFirstPortA ≤ xFirstPortB))) && (decide (xLastPortB ≤ xLastPortA))) && ((xVlanA == (-2)) || (xVlanA == xVlanB)))) = decide (RuleM.Covers ⟨xPriorityA, xKindA, xSrcIpA, xSrcBitsA, xFirstPortA, xLastPortA, xVlanA, xActionA, xQueueA⟩ ⟨xPriorityB, xKindB, xSrcIpB, xSrcBitsB, xFirstPortB, xLastPortB, xVlanB, xActionB, xQueueB⟩) := by
  rw [Bool.eq_iff_iff, decide_eq_true_iff]
  unfold RuleM.Covers
  rw [← @decide_eq_true_iff (RuleM.Ok ⟨xPriorityA, xKindA, xSrcIpA, xSrcBitsA, xFirstPortA, xLastPortA, xVlanA, xActionA, xQueueA⟩), ← @decide_eq_true_iff (RuleM.Ok ⟨xPriorityB, xKindB, xSrcIpB, xSrcBitsB, xFirstPortB, xLastPortB, xVlanB, xActionB, xQueueB⟩), ← h1, ← h2]
  clear h1 h2
  unfold RuleM.Fits same
  dsimp only
  simp only [Bool.and_eq_true, Bool.or_eq_true, decide_eq_true_eq, beq_iff_eq]
  grind

set_option maxHeartbeats 4000000 in
set_option maxRecDepth 100000 in
theorem spec_rulecovers (a b : RuleM) (w : World) :
    Calls Try.prog 92 #[a.val, b.val] w fun r w' => r = .returned (.bool (decide (a.Covers b))) ∧ Below w.heap.size w w' := by
  obtain ⟨xPriorityA, xKindA, xSrcIpA, xSrcBitsA, xFirstPortA, xLastPortA, xVlanA, xActionA, xQueueA⟩ := a
  obtain ⟨xPriorityB, xKindB, xSrcIpB, xSrcBitsB, xFirstPortB, xLastPortB, xVlanB, xActionB, xQueueB⟩ := b
  have YA : Hid (∀ W, Calls Try.prog 143 #[.agg #[.int .i64 xPriorityA, .int .i64 xKindA, .int .i64 xSrcIpA, .int .i64 xSrcBitsA, .int .i64 xFirstPortA, .int .i64 xLastPortA, .int .i64 xVlanA, .int .i64 xActionA, .int .i64 xQueueA]] W fun r w' => r = .returned (.bool (decide (RuleM.Ok ⟨xPriorityA, xKindA, xSrcIpA, xSrcBitsA, xFirstPortA, xLastPortA, xVlanA, xActionA, xQueueA⟩))) ∧ Below W.heap.size W w') := Lib.hid fun W => spec_ruleok ⟨xPriorityA, xKindA, xSrcIpA, xSrcBitsA, xFirstPortA, xLastPortA, xVlanA, xActionA, xQueueA⟩ W
  have YB : Hid (∀ W, Calls Try.prog 143 #[.agg #[.int .i64 xPriorityB, .int .i64 xKindB, .int .i64 xSrcIpB, .int .i64 xSrcBitsB, .int .i64 xFirstPortB, .int .i64 xLastPortB, .int .i64 xVlanB, .int .i64 xActionB, .int .i64 xQueueB]] W fun r w' => r = .returned (.bool (decide (RuleM.Ok ⟨xPriorityB, xKindB, xSrcIpB, xSrcBitsB, xFirstPortB, xLastPortB, xVlanB, xActionB, xQueueB⟩))) ∧ Below W.heap.size W w') := Lib.hid fun W => spec_ruleok ⟨xPriorityB, xKindB, xSrcIpB, xSrcBitsB, xFirstPortB, xLastPortB, xVlanB, xActionB, xQueueB⟩ W
  obtain ⟨GA, hGA⟩ : ∃ G : Bool, Hid (G = decide (RuleM.Ok ⟨xPriorityA, xKindA, xSrcIpA, xSrcBitsA, xFirstPortA, xLastPortA, xVlanA, xActionA, xQueueA⟩)) := ⟨_, Lib.hid rfl⟩
  obtain ⟨GB, hGB⟩ : ∃ G : Bool, Hid (G = decide (RuleM.Ok ⟨xPriorityB, xKindB, xSrcIpB, xSrcBitsB, xFirstPortB, xLastPortB, xVlanB, xActionB, xQueueB⟩)) := ⟨_, Lib.hid rfl⟩
  rw [← hGA.out] at YA
  rw [← hGB.out] at YB
  have HBT : Hid (GA = true → 0 ≤ xSrcBitsA ∧ xSrcBitsA ≤ 32) := Lib.hid fun h => (of_decide_eq_true (hGA.out.symm.trans h) : RuleM.Ok ⟨xPriorityA, xKindA, xSrcIpA, xSrcBitsA, xFirstPortA, xLastPortA, xVlanA, xActionA, xQueueA⟩).2.2.2.1
  obtain ⟨B, HB⟩ : ∃ B : Bool, Hid (B = decide (RuleM.Covers ⟨xPriorityA, xKindA, xSrcIpA, xSrcBitsA, xFirstPortA, xLastPortA, xVlanA, xActionA, xQueueA⟩ ⟨xPriorityB, xKindB, xSrcIpB, xSrcBitsB, xFirstPortB, xLastPortB, xVlanB, xActionB, xQueueB⟩)) := ⟨_, Lib.hid rfl⟩
  rw [← HB.out]
  unfold RuleM.val
  dsimp only
  go_enter Try.func92, Try.ntmps92
  go_upto_region 1 with fail
  obtain ⟨w1, hw1⟩ : ∃ w1, w1 = (w.alloc (.cells #[.int .i64 xPriorityA, .int .i64 xKindA, .int .i64 xSrcIpA, .int .i64 xSrcBitsA, .int .i64 xFirstPortA, .int .i64 xLastPortA, .int .i64 xVlanA, .int .i64 xActionA, .int .i64 xQueueA] 144)).alloc (.cells #[.int .i64 xPriorityB, .int .i64 xKindB, .int .i64 xSrcIpB, .int .i64 xSrcBitsB, .int .i64 xFirstPortB, .int .i64 xLastPortB, .int .i64 xVlanB, .int .i64 xActionB, .int .i64 xQueueB] 144) := ⟨_, rfl⟩
  have hb1 : Below w.heap.size w w1 := hw1 ▸ below_comp (below_new _) (below_new _)
  have HB1 : Hid (Box w1 w.heap.size #[.int .i64 xPriorityA, .int .i64 xKindA, .int .i64 xSrcIpA, .int .i64 xSrcBitsA, .int .i64 xFirstPortA, .int .i64 xLastPortA, .int .i64 xVlanA, .int .i64 xActionA, .int .i64 xQueueA] 144) := Lib.hid (hw1 ▸ (Box.new w #[.int .i64 xPriorityA, .int .i64 xKindA, .int .i64 xSrcIpA, .int .i64 xSrcBitsA, .int .i64 xFirstPortA, .int .i64 xLastPortA, .int .i64 xVlanA, .int .i64 xActionA, .int .i64 xQueueA] 144).below (below_new _) (by simp))
  have HB2 : Hid (Box w1 (w.heap.size + 1) #[.int .i64 xPriorityB, .int .i64 xKindB, .int .i64 xSrcIpB, .int .i64 xSrcBitsB, .int .i64 xFirstPortB, .int .i64 xLastPortB, .int .i64 xVlanB, .int .i64 xActionB, .int .i64 xQueueB] 144) := Lib.hid (by have := Box.new (w.alloc (.cells #[.int .i64 xPriorityA, .int .i64 xKindA, .int .i64 xSrcIpA, .int .i64 xSrcBitsA, .int .i64 xFirstPortA, .int .i64 xLastPortA, .int .i64 xVlanA, .int .i64 xActionA, .int .i64 xQueueA] 144)) #[.int .i64 xPriorityB, .int .i64 xKindB, .int .i64 xSrcIpB, .int .i64 xSrcBitsB, .int .i64 xFirstPortB, .int .i64 xLastPortB, .int .i64 xVlanB, .int .i64 xActionB, .int .i64 xQueueB] 144; rw [← hw1] at this; simpa using this)
  have hg1 : w.heap.size < w1.heap.size := by have h := congrArg (fun x => x.heap.size) hw1; simp at h; omega
  have hg2 : w.heap.size + 1 < w1.heap.size := by have h := congrArg (fun x => x.heap.size) hw1; simp at h; omega
  rw [← hw1]
  clear hw1
  obtain ⟨V, hV⟩ : ∃ V, Hid (V = Vals ((.agg #[.int .i64 xPriorityA, .int .i64 xKindA, .int .i64 xSrcIpA, .int .i64 xSrcBitsA, .int .i64 xFirstPortA, .int .i64 xLastPortA, .int .i64 xVlanA, .int .i64 xActionA, .int .i64 xQueueA] : Value) :: (.bool GA : Value) :: (.bool GA : Value) :: onlyIf (GA == true) (.agg #[.int .i64 xPriorityB, .int .i64 xKindB, .int .i64 xSrcIpB, .int .i64 xSrcBitsB, .int .i64 xFirstPortB, .int .i64 xLastPortB, .int .i64 xVlanB, .int .i64 xActionB, .int .i64 xQueueB]) :: onlyIf (GA == true) (.bool GB) :: (.bool (GA && GB) : Value) :: (.bool (GA && GB) : Value) :: onlyIf ((GA && GB) == true) (.pointer (some ⟨w.heap.size, 1, none⟩)) :: onlyIf ((GA && GB) == true) (.int .i64 xKindA) :: onlyIf ((GA && GB) == true) (.bool (xKindA == 0)) :: onlyIf ((GA && GB) == true) (.bool (xKindA == 0)) :: onlyIf (((GA && GB) == true) && ((xKindA == 0) == false)) (.pointer (some ⟨w.heap.size, 1, none⟩)) :: onlyIf (((GA && GB) == true) && ((xKindA == 0) == false)) (.int .i64 xKindA) :: onlyIf (((GA && GB) == true) && ((xKindA == 0) == false)) (.pointer (some ⟨w.heap.size + 1, 1, none⟩)) :: onlyIf (((GA && GB) == true) && ((xKindA == 0) == false)) (.int .i64 xKindB) :: onlyIf (((GA && GB) == true) && ((xKindA == 0) == false)) (.bool (xKindA == xKindB)) :: onlyIf ((GA && GB) == true) (.bool ((xKindA == 0) || (xKindA == xKindB))) :: (.bool ((GA && GB) && ((xKindA == 0) || (xKindA == xKindB))) : Value) :: (.bool ((GA && GB) && ((xKindA == 0) || (xKindA == xKindB))) : Value) :: onlyIf (((GA && GB) && ((xKindA == 0) || (xKindA == xKindB))) == true) (.pointer (some ⟨w.heap.size, 3, none⟩)) :: onlyIf (((GA && GB) && ((xKindA == 0) || (xKindA == xKindB))) == true) (.int .i64 xSrcBitsA) :: onlyIf (((GA && GB) && ((xKindA == 0) || (xKindA == xKindB))) == true) (.pointer (some ⟨w.heap.size + 1, 3, none⟩)) :: onlyIf (((GA && GB) && ((xKindA == 0) || (xKindA == xKindB))) == true) (.int .i64 xSrcBitsB) :: onlyIf (((GA && GB) && ((xKindA == 0) || (xKindA == xKindB))) == true) (.bool (decide (xSrcBitsA ≤ xSrcBitsB))) :: (.bool (((GA && GB) && ((xKindA == 0) || (xKindA == xKindB))) && (decide (xSrcBitsA ≤ xSrcBitsB))) : Value) :: (.bool (((GA && GB) && ((xKindA == 0) || (xKindA == xKindB))) && (decide (xSrcBitsA ≤ xSrcBitsB))) : Value) :: onlyIf ((((GA && GB) && ((xKindA == 0) || (xKindA == xKindB))) && (decide (xSrcBitsA ≤ xSrcBitsB))) == true) (.pointer (some ⟨w.heap.size, 2, none⟩)) :: onlyIf ((((GA && GB) && ((xKindA == 0) || (xKindA == xKindB))) && (decide (xSrcBitsA ≤ xSrcBitsB))) == true) (.int .i64 xSrcIpA) :: onlyIf ((((GA && GB) && ((xKindA == 0) || (xKindA == xKindB))) && (decide (xSrcBitsA ≤ xSrcBitsB))) == true) (.pointer (some ⟨w.heap.size, 3, none⟩)) :: onlyIf ((((GA && GB) && ((xKindA == 0) || (xKindA == xKindB))) && (decide (xSrcBitsA ≤ xSrcBitsB))) == true) (.int .i64 xSrcBitsA) :: onlyIf ((((GA && GB) && ((xKindA == 0) || (xKindA == xKindB))) && (decide (xSrcBitsA ≤ xSrcBitsB))) == true) (.int .i64 (32 - xSrcBitsA)) :: onlyIf ((((GA && GB) && ((xKindA == 0) || (xKindA == xKindB))) && (decide (xSrcBitsA ≤ xSrcBitsB))) == true) (.int .i64 (xSrcIpA / 2 ^ (32 - xSrcBitsA).toNat)) :: onlyIf ((((GA && GB) && ((xKindA == 0) || (xKindA == xKindB))) && (decide (xSrcBitsA ≤ xSrcBitsB))) == true) (.pointer (some ⟨w.heap.size + 1, 2, none⟩)) :: onlyIf ((((GA && GB) && ((xKindA == 0) || (xKindA == xKindB))) && (decide (xSrcBitsA ≤ xSrcBitsB))) == true) (.int .i64 xSrcIpB) :: onlyIf ((((GA && GB) && ((xKindA == 0) || (xKindA == xKindB))) && (decide (xSrcBitsA ≤ xSrcBitsB))) == true) (.pointer (some ⟨w.heap.size, 3, none⟩)) :: onlyIf ((((GA && GB) && ((xKindA == 0) || (xKindA == xKindB))) && (decide (xSrcBitsA ≤ xSrcBitsB))) == true) (.int .i64 xSrcBitsA) :: onlyIf ((((GA && GB) && ((xKindA == 0) || (xKindA == xKindB))) && (decide (xSrcBitsA ≤ xSrcBitsB))) == true) (.int .i64 (32 - xSrcBitsA)) :: onlyIf ((((GA && GB) && ((xKindA == 0) || (xKindA == xKindB))) && (decide (xSrcBitsA ≤ xSrcBitsB))) == true) (.int .i64 (xSrcIpB / 2 ^ (32 - xSrcBitsA).toNat)) :: onlyIf ((((GA && GB) && ((xKindA == 0) || (xKindA == xKindB))) && (decide (xSrcBitsA ≤ xSrcBitsB))) == true) (.bool (xSrcIpA / 2 ^ (32 - xSrcBitsA).toNat == xSrcIpB / 2 ^ (32 - xSrcBitsA).toNat)) :: (.bool ((((GA && GB) && ((xKindA == 0) || (xKindA == xKindB))) && (decide (xSrcBitsA ≤ xSrcBitsB))) && (xSrcIpA / 2 ^ (32 - xSrcBitsA).toNat == xSrcIpB / 2 ^ (32 - xSrcBitsA).toNat)) : Value) :: (.bool ((((GA && GB) && ((xKindA == 0) || (xKindA == xKindB))) && (decide (xSrcBitsA ≤ xSrcBitsB))) && (xSrcIpA / 2 ^ (32 - xSrcBitsA).toNat == xSrcIpB / 2 ^ (32 - xSrcBitsA).toNat)) : Value) :: onlyIf (((((GA && GB) && ((xKindA == 0) || (xKindA == xKindB))) && (decide (xSrcBitsA ≤ xSrcBitsB))) && (xSrcIpA / 2 ^ (32 - xSrcBitsA).toNat == xSrcIpB / 2 ^ (32 - xSrcBitsA).toNat)) == true) (.pointer (some ⟨w.heap.size, 4, none⟩)) :: onlyIf (((((GA && GB) && ((xKindA == 0) || (xKindA == xKindB))) && (decide (xSrcBitsA ≤ xSrcBitsB))) && (xSrcIpA / 2 ^ (32 - xSrcBitsA).toNat == xSrcIpB / 2 ^ (32 - xSrcBitsA).toNat)) == true) (.int .i64 xFirstPortA) :: onlyIf (((((GA && GB) && ((xKindA == 0) || (xKindA == xKindB))) && (decide (xSrcBitsA ≤ xSrcBitsB))) && (xSrcIpA / 2 ^ (32 - xSrcBitsA).toNat == xSrcIpB / 2 ^ (32 - xSrcBitsA).toNat)) == true) (.pointer (some ⟨w.heap.size + 1, 4, none⟩)) :: onlyIf (((((GA && GB) && ((xKindA == 0) || (xKindA == xKindB))) && (decide (xSrcBitsA ≤ xSrcBitsB))) && (xSrcIpA / 2 ^ (32 - xSrcBitsA).toNat == xSrcIpB / 2 ^ (32 - xSrcBitsA).toNat)) == true) (.int .i64 xFirstPortB) :: onlyIf (((((GA && GB) && ((xKindA == 0) || (xKindA == xKindB))) && (decide (xSrcBitsA ≤ xSrcBitsB))) && (xSrcIpA / 2 ^ (32 - xSrcBitsA).toNat == xSrcIpB / 2 ^ (32 - xSrcBitsA).toNat)) == true) (.bool (decide (xFirstPortA ≤ xFirstPortB))) :: (.bool (((((GA && GB) && ((xKindA == 0) || (xKindA == xKindB))) && (decide (xSrcBitsA ≤ xSrcBitsB))) && (xSrcIpA / 2 ^ (32 - xSrcBitsA).toNat == xSrcIpB / 2 ^ (32 - xSrcBitsA).toNat)) && (decide (xFirstPortA ≤ xFirstPortB))) : Value) :: (.bool (((((GA && GB) && ((xKindA == 0) || (xKindA == xKindB))) && (decide (xSrcBitsA ≤ xSrcBitsB))) && (xSrcIpA / 2 ^ (32 - xSrcBitsA).toNat == xSrcIpB / 2 ^ (32 - xSrcBitsA).toNat)) && (decide (xFirstPortA ≤ xFirstPortB))) : Value) :: onlyIf ((((((GA && GB) && ((xKindA == 0) || (xKindA == xKindB))) && (decide (xSrcBitsA ≤ xSrcBitsB))) && (xSrcIpA / 2 ^ (32 - xSrcBitsA).toNat == xSrcIpB / 2 ^ (32 - xSrcBitsA).toNat)) && (decide (xFirstPortA ≤ xFirstPortB))) == true) (.pointer (some ⟨w.heap.size + 1, 5, none⟩)) :: onlyIf ((((((GA && GB) && ((xKindA == 0) || (xKindA == xKindB))) && (decide (xSrcBitsA ≤ xSrcBitsB))) && (xSrcIpA / 2 ^ (32 - xSrcBitsA).toNat == xSrcIpB / 2 ^ (32 - xSrcBitsA).toNat)) && (decide (xFirstPortA ≤ xFirstPortB))) == true) (.int .i64 xLastPortB) :: onlyIf ((((((GA && GB) && ((xKindA == 0) || (xKindA == xKindB))) && (decide (xSrcBitsA ≤ xSrcBitsB))) && (xSrcIpA / 2 ^ (32 - xSrcBitsA).toNat == xSrcIpB / 2 ^ (32 - xSrcBitsA).toNat)) && (decide (xFirstPortA ≤ xFirstPortB))) == true) (.pointer (some ⟨w.heap.size, 5, none⟩)) :: onlyIf ((((((GA && GB) && ((xKindA == 0) || (xKindA == xKindB))) && (decide (xSrcBitsA ≤ xSrcBitsB))) && (xSrcIpA / 2 ^ (32 - xSrcBitsA).toNat == xSrcIpB / 2 ^ (32 - xSrcBitsA).toNat)) && (decide (xFirstPortA ≤ xFirstPortB))) == true) (.int .i64 xLastPortA) :: onlyIf ((((((GA && GB) && ((xKindA == 0) || (xKindA == xKindB))) && (decide (xSrcBitsA ≤ xSrcBitsB))) && (xSrcIpA / 2 ^ (32 - xSrcBitsA).toNat == xSrcIpB / 2 ^ (32 - xSrcBitsA).toNat)) && (decide (xFirstPortA ≤ xFirstPortB))) == true) (.bool (decide (xLastPortB ≤ xLastPortA))) :: (.bool ((((((GA && GB) && ((xKindA == 0) || (xKindA == xKindB))) && (decide (xSrcBitsA ≤ xSrcBitsB))) && (xSrcIpA / 2 ^ (32 - xSrcBitsA).toNat == xSrcIpB / 2 ^ (32 - xSrcBitsA).toNat)) && (decide (xFirstPortA ≤ xFirstPortB))) && (decide (xLastPortB ≤ xLastPortA))) : Value) :: (.bool ((((((GA && GB) && ((xKindA == 0) || (xKindA == xKindB))) && (decide (xSrcBitsA ≤ xSrcBitsB))) && (xSrcIpA / 2 ^ (32 - xSrcBitsA).toNat == xSrcIpB / 2 ^ (32 - xSrcBitsA).toNat)) && (decide (xFirstPortA ≤ xFirstPortB))) && (decide (xLastPortB ≤ xLastPortA))) : Value) :: onlyIf (((((((GA && GB) && ((xKindA == 0) || (xKindA == xKindB))) && (decide (xSrcBitsA ≤ xSrcBitsB))) && (xSrcIpA / 2 ^ (32 - xSrcBitsA).toNat == xSrcIpB / 2 ^ (32 - xSrcBitsA).toNat)) && (decide (xFirstPortA ≤ xFirstPortB))) && (decide (xLastPortB ≤ xLastPortA))) == true) (.pointer (some ⟨w.heap.size, 6, none⟩)) :: onlyIf (((((((GA && GB) && ((xKindA == 0) || (xKindA == xKindB))) && (decide (xSrcBitsA ≤ xSrcBitsB))) && (xSrcIpA / 2 ^ (32 - xSrcBitsA).toNat == xSrcIpB / 2 ^ (32 - xSrcBitsA).toNat)) && (decide (xFirstPortA ≤ xFirstPortB))) && (decide (xLastPortB ≤ xLastPortA))) == true) (.int .i64 xVlanA) :: onlyIf (((((((GA && GB) && ((xKindA == 0) || (xKindA == xKindB))) && (decide (xSrcBitsA ≤ xSrcBitsB))) && (xSrcIpA / 2 ^ (32 - xSrcBitsA).toNat == xSrcIpB / 2 ^ (32 - xSrcBitsA).toNat)) && (decide (xFirstPortA ≤ xFirstPortB))) && (decide (xLastPortB ≤ xLastPortA))) == true) (.bool (xVlanA == (-2))) :: onlyIf (((((((GA && GB) && ((xKindA == 0) || (xKindA == xKindB))) && (decide (xSrcBitsA ≤ xSrcBitsB))) && (xSrcIpA / 2 ^ (32 - xSrcBitsA).toNat == xSrcIpB / 2 ^ (32 - xSrcBitsA).toNat)) && (decide (xFirstPortA ≤ xFirstPortB))) && (decide (xLastPortB ≤ xLastPortA))) == true) (.bool (xVlanA == (-2))) :: onlyIf ((((((((GA && GB) && ((xKindA == 0) || (xKindA == xKindB))) && (decide (xSrcBitsA ≤ xSrcBitsB))) && (xSrcIpA / 2 ^ (32 - xSrcBitsA).toNat == xSrcIpB / 2 ^ (32 - xSrcBitsA).toNat)) && (decide (xFirstPortA ≤ xFirstPortB))) && (decide (xLastPortB ≤ xLastPortA))) == true) && ((xVlanA == (-2)) == false)) (.pointer (some ⟨w.heap.size, 6, none⟩)) :: onlyIf ((((((((GA && GB) && ((xKindA == 0) || (xKindA == xKindB))) && (decide (xSrcBitsA ≤ xSrcBitsB))) && (xSrcIpA / 2 ^ (32 - xSrcBitsA).toNat == xSrcIpB / 2 ^ (32 - xSrcBitsA).toNat)) && (decide (xFirstPortA ≤ xFirstPortB))) && (decide (xLastPortB ≤ xLastPortA))) == true) && ((xVlanA == (-2)) == false)) (.int .i64 xVlanA) :: onlyIf ((((((((GA && GB) && ((xKindA == 0) || (xKindA == xKindB))) && (decide (xSrcBitsA ≤ xSrcBitsB))) && (xSrcIpA / 2 ^ (32 - xSrcBitsA).toNat == xSrcIpB / 2 ^ (32 - xSrcBitsA).toNat)) && (decide (xFirstPortA ≤ xFirstPortB))) && (decide (xLastPortB ≤ xLastPortA))) == true) && ((xVlanA == (-2)) == false)) (.pointer (some ⟨w.heap.size + 1, 6, none⟩)) :: onlyIf ((((((((GA && GB) && ((xKindA == 0) || (xKindA == xKindB))) && (decide (xSrcBitsA ≤ xSrcBitsB))) && (xSrcIpA / 2 ^ (32 - xSrcBitsA).toNat == xSrcIpB / 2 ^ (32 - xSrcBitsA).toNat)) && (decide (xFirstPortA ≤ xFirstPortB))) && (decide (xLastPortB ≤ xLastPortA))) == true) && ((xVlanA == (-2)) == false)) (.int .i64 xVlanB) :: onlyIf ((((((((GA && GB) && ((xKindA == 0) || (xKindA == xKindB))) && (decide (xSrcBitsA ≤ xSrcBitsB))) && (xSrcIpA / 2 ^ (32 - xSrcBitsA).toNat == xSrcIpB / 2 ^ (32 - xSrcBitsA).toNat)) && (decide (xFirstPortA ≤ xFirstPortB))) && (decide (xLastPortB ≤ xLastPortA))) == true) && ((xVlanA == (-2)) == false)) (.bool (xVlanA == xVlanB)) :: onlyIf (((((((GA && GB) && ((xKindA == 0) || (xKindA == xKindB))) && (decide (xSrcBitsA ≤ xSrcBitsB))) && (xSrcIpA / 2 ^ (32 - xSrcBitsA).toNat == xSrcIpB / 2 ^ (32 - xSrcBitsA).toNat)) && (decide (xFirstPortA ≤ xFirstPortB))) && (decide (xLastPortB ≤ xLastPortA))) == true) (.bool ((xVlanA == (-2)) || (xVlanA == xVlanB))) :: (.bool (((((((GA && GB) && ((xKindA == 0) || (xKindA == xKindB))) && (decide (xSrcBitsA ≤ xSrcBitsB))) && (xSrcIpA / 2 ^ (32 - xSrcBitsA).toNat == xSrcIpB / 2 ^ (32 - xSrcBitsA).toNat)) && (decide (xFirstPortA ≤ xFirstPortB))) && (decide (xLastPortB ≤ xLastPortA))) && ((xVlanA == (-2)) || (xVlanA == xVlanB))) : Value) :: (.bool (((((((GA && GB) && ((xKindA == 0) || (xKindA == xKindB))) && (decide (xSrcBitsA ≤ xSrcBitsB))) && (xSrcIpA / 2 ^ (32 - xSrcBitsA).toNat == xSrcIpB / 2 ^ (32 - xSrcBitsA).toNat)) && (decide (xFirstPortA ≤ xFirstPortB))) && (decide (xLastPortB ≤ xLastPortA))) && ((xVlanA == (-2)) || (xVlanA == xVlanB))) : Value) :: ([] : List Value)) []) := ⟨_, Lib.hid rfl⟩
  refine wp_region_valuesG (by kernel_rfl) (fun W => Below w1.heap.size w1 W) V
    71 rfl (by kernel_rfl) (by kernel_rfl) below_drew (eachOp_all ?_) ?_
  · refine ⟨?_, ?_, ?_, ?_, ?_, ?_, ?_, ?_, ?_, ?_, ?_, ?_, ?_, ?_, ?_, ?_, ?_, ?_, ?_, ?_, ?_, ?_, ?_, ?_, ?_, ?_, ?_, ?_, ?_, ?_, ?_, ?_, ?_, ?_, ?_, ?_, ?_, ?_, ?_, ?_, ?_, ?_, ?_, ?_, ?_, ?_, ?_, ?_, ?_, ?_, ?_, ?_, ?_, ?_, ?_, ?_, ?_, ?_, ?_, ?_, ?_, ?_, ?_, ?_, ?_, ?_, ?_, trivial⟩
    · intro a W hd hS hdep hfree
      have x2 : a.tmps.getD 2 undef = .pointer (some ⟨w.heap.size, 0, none⟩) := hfree 2 (by kernel_rfl)
      clear hd hdep hfree
      refine .inl ⟨wanted_free rfl, ?_⟩
      have c0 : W.cell? ⟨w.heap.size, 0, none⟩ = some (.int .i64 xPriorityA) := (HB1.out.below hS hg1).cell 0 (by simp)
      have c1 : W.cell? ⟨w.heap.size, 1, none⟩ = some (.int .i64 xKindA) := (HB1.out.below hS hg1).cell 1 (by simp)
      have c2 : W.cell? ⟨w.heap.size, 2, none⟩ = some (.int .i64 xSrcIpA) := (HB1.out.below hS hg1).cell 2 (by simp)
      have c3 : W.cell? ⟨w.heap.size, 3, none⟩ = some (.int .i64 xSrcBitsA) := (HB1.out.below hS hg1).cell 3 (by simp)
      have c4 : W.cell? ⟨w.heap.size, 4, none⟩ = some (.int .i64 xFirstPortA) := (HB1.out.below hS hg1).cell 4 (by simp)
      have c5 : W.cell? ⟨w.heap.size, 5, none⟩ = some (.int .i64 xLastPortA) := (HB1.out.below hS hg1).cell 5 (by simp)
      have c6 : W.cell? ⟨w.heap.size, 6, none⟩ = some (.int .i64 xVlanA) := (HB1.out.below hS hg1).cell 6 (by simp)
      have c7 : W.cell? ⟨w.heap.size, 7, none⟩ = some (.int .i64 xActionA) := (HB1.out.below hS hg1).cell 7 (by simp)
      have c8 : W.cell? ⟨w.heap.size, 8, none⟩ = some (.int .i64 xQueueA) := (HB1.out.below hS hg1).cell 8 (by simp)
      simp only [Oper.wp, execOp]
      go_simp
      refine Nxt.mk _ rfl (fun _ _ => ?_) hS (fun _ _ h => h)
      (rw [hV.out]; rfl)
    · intro a W hd hS hdep hfree
      have x5 : a.tmps.getD 5 undef = .agg #[.int .i64 xPriorityA, .int .i64 xKindA, .int .i64 xSrcIpA, .int .i64 xSrcBitsA, .int .i64 xFirstPortA, .int .i64 xLastPortA, .int .i64 xVlanA, .int .i64 xActionA, .int .i64 xQueueA] := by have h := hdep 0 5 (by kernel_rfl) rfl; rw [hV.out] at h; exact h
      clear hd hdep hfree
      refine .inl ⟨wanted_free rfl, ?_⟩
      simp only [Oper.wp, execOp]
      go_simp
      refine (YA.out W).mono ?_
      rintro e W' ⟨rfl, hb⟩
      exact Nxt.mk _ rfl (fun _ _ => by (rw [hV.out]; rfl)) (below_comp hS hb) (fun j u h => by rw [hV.out] at h ⊢; exact Vals.below hb j u h)
    · intro a W hd hS hdep hfree
      have x6 : a.tmps.getD 6 undef = .bool GA := by have h := hdep 1 6 (by kernel_rfl) rfl; rw [hV.out] at h; exact h
      clear hd hdep hfree
      refine .inl ⟨wanted_free rfl, ?_⟩
      simp only [Oper.wp, execOp]
      go_simp
      refine Nxt.mk _ rfl (fun _ _ => ?_) hS (fun _ _ h => h)
      (rw [hV.out]; rfl)
    · intro a W hd hS hdep hfree
      have x7 : a.tmps.getD 7 undef = .bool GA := by have h := hdep 2 7 (by kernel_rfl) rfl; rw [hV.out] at h; exact h
      have x3 : a.tmps.getD 3 undef = .pointer (some ⟨w.heap.size + 1, 0, none⟩) := hfree 3 (by kernel_rfl)
      clear hd hdep hfree
      rcases (Bool.eq_false_or_eq_true ((GA == true))).symm with hE | hE
      · exact .inr ⟨(wanted_sym rfl rfl x7).trans hE, fun _ _ => by rw [hV.out]; exact (onlyIf_neg hE).symm⟩
      refine .inl ⟨(wanted_sym rfl rfl x7).trans hE, ?_⟩
      have hG0 := eq_of_beq hE
      try (have hbits := HBT.out (by revert hE; cases GA <;> simp))
      have HE := Lib.hid hE
      clear hE hG0
      have c0 : W.cell? ⟨w.heap.size + 1, 0, none⟩ = some (.int .i64 xPriorityB) := (HB2.out.below hS hg2).cell 0 (by simp)
      have c1 : W.cell? ⟨w.heap.size + 1, 1, none⟩ = some (.int .i64 xKindB) := (HB2.out.below hS hg2).cell 1 (by simp)
      have c2 : W.cell? ⟨w.heap.size + 1, 2, none⟩ = some (.int .i64 xSrcIpB) := (HB2.out.below hS hg2).cell 2 (by simp)
      have c3 : W.cell? ⟨w.heap.size + 1, 3, none⟩ = some (.int .i64 xSrcBitsB) := (HB2.out.below hS hg2).cell 3 (by simp)
      have c4 : W.cell? ⟨w.heap.size + 1, 4, none⟩ = some (.int .i64 xFirstPortB) := (HB2.out.below hS hg2).cell 4 (by simp)
      have c5 : W.cell? ⟨w.heap.size + 1, 5, none⟩ = some (.int .i64 xLastPortB) := (HB2.out.below hS hg2).cell 5 (by simp)
      have c6 : W.cell? ⟨w.heap.size + 1, 6, none⟩ = some (.int .i64 xVlanB) := (HB2.out.below hS hg2).cell 6 (by simp)
      have c7 : W.cell? ⟨w.heap.size + 1, 7, none⟩ = some (.int .i64 xActionB) := (HB2.out.below hS hg2).cell 7 (by simp)
      have c8 : W.cell? ⟨w.heap.size + 1, 8, none⟩ = some (.int .i64 xQueueB) := (HB2.out.below hS hg2).cell 8 (by simp)
      simp only [Oper.wp, execOp]
      go_simp
      refine Nxt.mk _ rfl (fun _ _ => ?_) hS (fun _ _ h => h)
      (rw [hV.out]; exact (onlyIf_pos HE.out).symm)
    · intro a W hd hS hdep hfree
      have x7 : a.tmps.getD 7 undef = .bool GA := by have h := hdep 2 7 (by kernel_rfl) rfl; rw [hV.out] at h; exact h
      have x8 : a.tmps.getD 8 undef = onlyIf (GA == true) (.agg #[.int .i64 xPriorityB, .int .i64 xKindB, .int .i64 xSrcIpB, .int .i64 xSrcBitsB, .int .i64 xFirstPortB, .int .i64 xLastPortB, .int .i64 xVlanB, .int .i64 xActionB, .int .i64 xQueueB]) := by have h := hdep 3 8 (by kernel_rfl) rfl; rw [hV.out] at h; exact h
      clear hd hdep hfree
      rcases (Bool.eq_false_or_eq_true ((GA == true))).symm with hE | hE
      · exact .inr ⟨(wanted_sym rfl rfl x7).trans hE, fun _ _ => by rw [hV.out]; exact (onlyIf_neg hE).symm⟩
      refine .inl ⟨(wanted_sym rfl rfl x7).trans hE, ?_⟩
      replace x8 := x8.trans (onlyIf_pos hE)
      have hG0 := eq_of_beq hE
      try (have hbits := HBT.out (by revert hE; cases GA <;> simp))
      have HE := Lib.hid hE
      clear hE hG0
      simp only [Oper.wp, execOp]
      go_simp
      refine (YB.out W).mono ?_
      rintro e W' ⟨rfl, hb⟩
      exact Nxt.mk _ rfl (fun _ _ => by (rw [hV.out]; exact (onlyIf_pos HE.out).symm)) (below_comp hS hb) (fun j u h => by rw [hV.out] at h ⊢; exact Vals.below hb j u h)
    · intro a W hd hS hdep hfree
      have x7 : a.tmps.getD 7 undef = .bool GA := by have h := hdep 2 7 (by kernel_rfl) rfl; rw [hV.out] at h; exact h
      have x9 : a.tmps.getD 9 undef = onlyIf (GA == true) (.bool GB) := by have h := hdep 4 9 (by kernel_rfl) rfl; rw [hV.out] at h; exact h
      clear hd hdep hfree
      refine .inl ⟨wanted_free rfl, ?_⟩
      rcases (Bool.eq_false_or_eq_true (GA)).symm with hX | hX
      · rw [hX] at x7
        replace hX := Lib.hid hX
        simp only [Oper.wp, execOp]
        go_simp
        refine Nxt.mk _ rfl (fun _ _ => ?_) hS (fun _ _ h => h)
        rw [hV.out]; show (_ : Value) = .bool _; rw [hX.out]; rfl
      · have hp : (GA == true) = true := by simp [hX]
        replace x9 := x9.trans (onlyIf_pos hp)
        rw [hX] at x7
        replace hX := Lib.hid hX
        simp only [Oper.wp, execOp]
        go_simp
        refine Nxt.mk _ rfl (fun _ _ => ?_) hS (fun _ _ h => h)
        rw [hV.out]; show (_ : Value) = .bool _; rw [hX.out]; rfl
    · intro a W hd hS hdep hfree
      have x10 : a.tmps.getD 10 undef = .bool (GA && GB) := by have h := hdep 5 10 (by kernel_rfl) rfl; rw [hV.out] at h; exact h
      clear hd hdep hfree
      refine .inl ⟨wanted_free rfl, ?_⟩
      simp only [Oper.wp, execOp]
      go_simp
      refine Nxt.mk _ rfl (fun _ _ => ?_) hS (fun _ _ h => h)
      (rw [hV.out]; rfl)
    · intro a W hd hS hdep hfree
      have x11 : a.tmps.getD 11 undef = .bool (GA && GB) := by have h := hdep 6 11 (by kernel_rfl) rfl; rw [hV.out] at h; exact h
      have x2 : a.tmps.getD 2 undef = .pointer (some ⟨w.heap.size, 0, none⟩) := hfree 2 (by kernel_rfl)
      clear hd hdep hfree
      rcases (Bool.eq_false_or_eq_true (((GA && GB) == true))).symm with hE | hE
      · exact .inr ⟨(wanted_sym rfl rfl x11).trans hE, fun _ _ => by rw [hV.out]; exact (onlyIf_neg hE).symm⟩
      refine .inl ⟨(wanted_sym rfl rfl x11).trans hE, ?_⟩
      have hG0 := eq_of_beq hE
      try (have hbits := HBT.out (by revert hE; cases GA <;> simp))
      have HE := Lib.hid hE
      clear hE hG0
      simp only [Oper.wp, execOp]
      go_simp
      refine Nxt.mk _ rfl (fun _ _ => ?_) hS (fun _ _ h => h)
      (rw [hV.out]; exact (onlyIf_pos HE.out).symm)
    · intro a W hd hS hdep hfree
      have x11 : a.tmps.getD 11 undef = .bool (GA && GB) := by have h := hdep 6 11 (by kernel_rfl) rfl; rw [hV.out] at h; exact h
      have x12 : a.tmps.getD 12 undef = onlyIf ((GA && GB) == true) (.pointer (some ⟨w.heap.size, 1, none⟩)) := by have h := hdep 7 12 (by kernel_rfl) rfl; rw [hV.out] at h; exact h
      clear hd hdep hfree
      rcases (Bool.eq_false_or_eq_true (((GA && GB) == true))).symm with hE | hE
      · exact .inr ⟨(wanted_sym rfl rfl x11).trans hE, fun _ _ => by rw [hV.out]; exact (onlyIf_neg hE).symm⟩
      refine .inl ⟨(wanted_sym rfl rfl x11).trans hE, ?_⟩
      replace x12 := x12.trans (onlyIf_pos hE)
      have hG0 := eq_of_beq hE
      try (have hbits := HBT.out (by revert hE; cases GA <;> simp))
      have HE := Lib.hid hE
      clear hE hG0
      have c0 : W.cell? ⟨w.heap.size, 1, none⟩ = some (.int .i64 xKindA) := (HB1.out.below hS hg1).cell 1 (by simp)
      simp only [Oper.wp, execOp]
      go_simp
      refine Nxt.mk _ rfl (fun _ _ => ?_) hS (fun _ _ h => h)
      (rw [hV.out]; exact (onlyIf_pos HE.out).symm)
    · intro a W hd hS hdep hfree
      have x11 : a.tmps.getD 11 undef = .bool (GA && GB) := by have h := hdep 6 11 (by kernel_rfl) rfl; rw [hV.out] at h; exact h
      have x13 : a.tmps.getD 13 undef = onlyIf ((GA && GB) == true) (.int .i64 xKindA) := by have h := hdep 8 13 (by kernel_rfl) rfl; rw [hV.out] at h; exact h
      clear hd hdep hfree
      rcases (Bool.eq_false_or_eq_true (((GA && GB) == true))).symm with hE | hE
      · exact .inr ⟨(wanted_sym rfl rfl x11).trans hE, fun _ _ => by rw [hV.out]; exact (onlyIf_neg hE).symm⟩
      refine .inl ⟨(wanted_sym rfl rfl x11).trans hE, ?_⟩
      replace x13 := x13.trans (onlyIf_pos hE)
      have hG0 := eq_of_beq hE
      try (have hbits := HBT.out (by revert hE; cases GA <;> simp))
      have HE := Lib.hid hE
      clear hE hG0
      simp only [Oper.wp, execOp]
      go_simp
      refine Nxt.mk _ rfl (fun _ _ => ?_) hS (fun _ _ h => h)
      rw [hV.out]; first | exact (onlyIf_pos HE.out).symm | (show (_ : Value) = onlyIf _ _; rw [onlyIf_pos HE.out]; simp)
    · intro a W hd hS hdep hfree
      have x11 : a.tmps.getD 11 undef = .bool (GA && GB) := by have h := hdep 6 11 (by kernel_rfl) rfl; rw [hV.out] at h; exact h
      have x14 : a.tmps.getD 14 undef = onlyIf ((GA && GB) == true) (.bool (xKindA == 0)) := by have h := hdep 9 14 (by kernel_rfl) rfl; rw [hV.out] at h; exact h
      clear hd hdep hfree
      rcases (Bool.eq_false_or_eq_true (((GA && GB) == true))).symm with hE | hE
      · exact .inr ⟨(wanted_sym rfl rfl x11).trans hE, fun _ _ => by rw [hV.out]; exact (onlyIf_neg hE).symm⟩
      refine .inl ⟨(wanted_sym rfl rfl x11).trans hE, ?_⟩
      replace x14 := x14.trans (onlyIf_pos hE)
      have hG0 := eq_of_beq hE
      try (have hbits := HBT.out (by revert hE; cases GA <;> simp))
      have HE := Lib.hid hE
      clear hE hG0
      simp only [Oper.wp, execOp]
      go_simp
      refine Nxt.mk _ rfl (fun _ _ => ?_) hS (fun _ _ h => h)
      (rw [hV.out]; exact (onlyIf_pos HE.out).symm)
    · intro a W hd hS hdep hfree
      have x15 : a.tmps.getD 15 undef = onlyIf ((GA && GB) == true) (.bool (xKindA == 0)) := by have h := hdep 10 15 (by kernel_rfl) rfl; rw [hV.out] at h; exact h
      have x2 : a.tmps.getD 2 undef = .pointer (some ⟨w.heap.size, 0, none⟩) := hfree 2 (by kernel_rfl)
      clear hd hdep hfree
      rcases (Bool.eq_false_or_eq_true ((((GA && GB) == true) && ((xKindA == 0) == false)))).symm with hE | hE
      · exact .inr ⟨(wanted_cond rfl rfl x15).trans hE, fun _ _ => by rw [hV.out]; exact (onlyIf_neg hE).symm⟩
      refine .inl ⟨(wanted_cond rfl rfl x15).trans hE, ?_⟩
      have hC1 : ((GA && GB) == true) = true := and_l hE
      replace x15 := x15.trans (onlyIf_pos hC1)
      have hG0 := eq_of_beq hC1
      have hG1 := eq_of_beq (and_r hE)
      try (have hbits := HBT.out (by revert hE; cases GA <;> simp))
      have HE := Lib.hid hE
      clear hE hC1 hG0 hG1
      simp only [Oper.wp, execOp]
      go_simp
      refine Nxt.mk _ rfl (fun _ _ => ?_) hS (fun _ _ h => h)
      (rw [hV.out]; exact (onlyIf_pos HE.out).symm)
    · intro a W hd hS hdep hfree
      have x15 : a.tmps.getD 15 undef = onlyIf ((GA && GB) == true) (.bool (xKindA == 0)) := by have h := hdep 10 15 (by kernel_rfl) rfl; rw [hV.out] at h; exact h
      have x16 : a.tmps.getD 16 undef = onlyIf (((GA && GB) == true) && ((xKindA == 0) == false)) (.pointer (some ⟨w.heap.size, 1, none⟩)) := by have h := hdep 11 16 (by kernel_rfl) rfl; rw [hV.out] at h; exact h
      clear hd hdep hfree
      rcases (Bool.eq_false_or_eq_true ((((GA && GB) == true) && ((xKindA == 0) == false)))).symm with hE | hE
      · exact .inr ⟨(wanted_cond rfl rfl x15).trans hE, fun _ _ => by rw [hV.out]; exact (onlyIf_neg hE).symm⟩
      refine .inl ⟨(wanted_cond rfl rfl x15).trans hE, ?_⟩
      have hC1 : ((GA && GB) == true) = true := and_l hE
      replace x15 := x15.trans (onlyIf_pos hC1)
      replace x16 := x16.trans (onlyIf_pos hE)
      have hG0 := eq_of_beq hC1
      have hG1 := eq_of_beq (and_r hE)
      try (have hbits := HBT.out (by revert hE; cases GA <;> simp))
      have HE := Lib.hid hE
      clear hE hC1 hG0 hG1
      have c0 : W.cell? ⟨w.heap.size, 1, none⟩ = some (.int .i64 xKindA) := (HB1.out.below hS hg1).cell 1 (by simp)
      simp only [Oper.wp, execOp]
      go_simp
      refine Nxt.mk _ rfl (fun _ _ => ?_) hS (fun _ _ h => h)
      (rw [hV.out]; exact (onlyIf_pos HE.out).symm)
    · intro a W hd hS hdep hfree
      have x15 : a.tmps.getD 15 undef = onlyIf ((GA && GB) == true) (.bool (xKindA == 0)) := by have h := hdep 10 15 (by kernel_rfl) rfl; rw [hV.out] at h; exact h
      have x3 : a.tmps.getD 3 undef = .pointer (some ⟨w.heap.size + 1, 0, none⟩) := hfree 3 (by kernel_rfl)
      clear hd hdep hfree
      rcases (Bool.eq_false_or_eq_true ((((GA && GB) == true) && ((xKindA == 0) == false)))).symm with hE | hE
      · exact .inr ⟨(wanted_cond rfl rfl x15).trans hE, fun _ _ => by rw [hV.out]; exact (onlyIf_neg hE).symm⟩
      refine .inl ⟨(wanted_cond rfl rfl x15).trans hE, ?_⟩
      have hC1 : ((GA && GB) == true) = true := and_l hE
      replace x15 := x15.trans (onlyIf_pos hC1)
      have hG0 := eq_of_beq hC1
      have hG1 := eq_of_beq (and_r hE)
      try (have hbits := HBT.out (by revert hE; cases GA <;> simp))
      have HE := Lib.hid hE
      clear hE hC1 hG0 hG1
      simp only [Oper.wp, execOp]
      go_simp
      refine Nxt.mk _ rfl (fun _ _ => ?_) hS (fun _ _ h => h)
      (rw [hV.out]; exact (onlyIf_pos HE.out).symm)
    · intro a W hd hS hdep hfree
      have x15 : a.tmps.getD 15 undef = onlyIf ((GA && GB) == true) (.bool (xKindA == 0)) := by have h := hdep 10 15 (by kernel_rfl) rfl; rw [hV.out] at h; exact h
      have x18 : a.tmps.getD 18 undef = onlyIf (((GA && GB) == true) && ((xKindA == 0) == false)) (.pointer (some ⟨w.heap.size + 1, 1, none⟩)) := by have h := hdep 13 18 (by kernel_rfl) rfl; rw [hV.out] at h; exact h
      clear hd hdep hfree
      rcases (Bool.eq_false_or_eq_true ((((GA && GB) == true) && ((xKindA == 0) == false)))).symm with hE | hE
      · exact .inr ⟨(wanted_cond rfl rfl x15).trans hE, fun _ _ => by rw [hV.out]; exact (onlyIf_neg hE).symm⟩
      refine .inl ⟨(wanted_cond rfl rfl x15).trans hE, ?_⟩
      have hC1 : ((GA && GB) == true) = true := and_l hE
      replace x15 := x15.trans (onlyIf_pos hC1)
      replace x18 := x18.trans (onlyIf_pos hE)
      have hG0 := eq_of_beq hC1
      have hG1 := eq_of_beq (and_r hE)
      try (have hbits := HBT.out (by revert hE; cases GA <;> simp))
      have HE := Lib.hid hE
      clear hE hC1 hG0 hG1
      have c0 : W.cell? ⟨w.heap.size + 1, 1, none⟩ = some (.int .i64 xKindB) := (HB2.out.below hS hg2).cell 1 (by simp)
      simp only [Oper.wp, execOp]
      go_simp
      refine Nxt.mk _ rfl (fun _ _ => ?_) hS (fun _ _ h => h)
      (rw [hV.out]; exact (onlyIf_pos HE.out).symm)
    · intro a W hd hS hdep hfree
      have x15 : a.tmps.getD 15 undef = onlyIf ((GA && GB) == true) (.bool (xKindA == 0)) := by have h := hdep 10 15 (by kernel_rfl) rfl; rw [hV.out] at h; exact h
      have x17 : a.tmps.getD 17 undef = onlyIf (((GA && GB) == true) && ((xKindA == 0) == false)) (.int .i64 xKindA) := by have h := hdep 12 17 (by kernel_rfl) rfl; rw [hV.out] at h; exact h
      have x19 : a.tmps.getD 19 undef = onlyIf (((GA && GB) == true) && ((xKindA == 0) == false)) (.int .i64 xKindB) := by have h := hdep 14 19 (by kernel_rfl) rfl; rw [hV.out] at h; exact h
      clear hd hdep hfree
      rcases (Bool.eq_false_or_eq_true ((((GA && GB) == true) && ((xKindA == 0) == false)))).symm with hE | hE
      · exact .inr ⟨(wanted_cond rfl rfl x15).trans hE, fun _ _ => by rw [hV.out]; exact (onlyIf_neg hE).symm⟩
      refine .inl ⟨(wanted_cond rfl rfl x15).trans hE, ?_⟩
      have hC1 : ((GA && GB) == true) = true := and_l hE
      replace x15 := x15.trans (onlyIf_pos hC1)
      replace x17 := x17.trans (onlyIf_pos hE)
      replace x19 := x19.trans (onlyIf_pos hE)
      have hG0 := eq_of_beq hC1
      have hG1 := eq_of_beq (and_r hE)
      try (have hbits := HBT.out (by revert hE; cases GA <;> simp))
      have HE := Lib.hid hE
      clear hE hC1 hG0 hG1
      simp only [Oper.wp, execOp]
      go_simp
      refine Nxt.mk _ rfl (fun _ _ => ?_) hS (fun _ _ h => h)
      rw [hV.out]; first | exact (onlyIf_pos HE.out).symm | (show (_ : Value) = onlyIf _ _; rw [onlyIf_pos HE.out]; simp)
    · intro a W hd hS hdep hfree
      have x11 : a.tmps.getD 11 undef = .bool (GA && GB) := by have h := hdep 6 11 (by kernel_rfl) rfl; rw [hV.out] at h; exact h
      have x15 : a.tmps.getD 15 undef = onlyIf ((GA && GB) == true) (.bool (xKindA == 0)) := by have h := hdep 10 15 (by kernel_rfl) rfl; rw [hV.out] at h; exact h
      have x20 : a.tmps.getD 20 undef = onlyIf (((GA && GB) == true) && ((xKindA == 0) == false)) (.bool (xKindA == xKindB)) := by have h := hdep 15 20 (by kernel_rfl) rfl; rw [hV.out] at h; exact h
      clear hd hdep hfree
      rcases (Bool.eq_false_or_eq_true (((GA && GB) == true))).symm with hE | hE
      · exact .inr ⟨(wanted_sym rfl rfl x11).trans hE, fun _ _ => by rw [hV.out]; exact (onlyIf_neg hE).symm⟩
      refine .inl ⟨(wanted_sym rfl rfl x11).trans hE, ?_⟩
      replace x15 := x15.trans (onlyIf_pos hE)
      have hG0 := eq_of_beq hE
      try (have hbits := HBT.out (by revert hE; cases GA <;> simp))
      have HE := Lib.hid hE
      clear hE hG0
      rcases (Bool.eq_false_or_eq_true ((xKindA == 0))).symm with hX | hX
      · have hp : (((GA && GB) == true) && ((xKindA == 0) == false)) = true := by have hE := HE.out; first | simp [hX, hE] | (rw [hE, hX]; rfl) | simp_all
        replace x20 := x20.trans (onlyIf_pos hp)
        rw [hX] at x15
        replace hX := Lib.hid hX
        simp only [Oper.wp, execOp]
        go_simp
        refine Nxt.mk _ rfl (fun _ _ => ?_) hS (fun _ _ h => h)
        rw [hV.out]; show (_ : Value) = onlyIf _ _; rw [onlyIf_pos HE.out, hX.out]; rfl
      · rw [hX] at x15
        replace hX := Lib.hid hX
        simp only [Oper.wp, execOp]
        go_simp
        refine Nxt.mk _ rfl (fun _ _ => ?_) hS (fun _ _ h => h)
        rw [hV.out]; show (_ : Value) = onlyIf _ _; rw [onlyIf_pos HE.out, hX.out]; rfl
    · intro a W hd hS hdep hfree
      have x11 : a.tmps.getD 11 undef = .bool (GA && GB) := by have h := hdep 6 11 (by kernel_rfl) rfl; rw [hV.out] at h; exact h
      have x21 : a.tmps.getD 21 undef = onlyIf ((GA && GB) == true) (.bool ((xKindA == 0) || (xKindA == xKindB))) := by have h := hdep 16 21 (by kernel_rfl) rfl; rw [hV.out] at h; exact h
      clear hd hdep hfree
      refine .inl ⟨wanted_free rfl, ?_⟩
      rcases (Bool.eq_false_or_eq_true ((GA && GB))).symm with hX | hX
      · rw [hX] at x11
        replace hX := Lib.hid hX
        simp only [Oper.wp, execOp]
        go_simp
        refine Nxt.mk _ rfl (fun _ _ => ?_) hS (fun _ _ h => h)
        rw [hV.out]; show (_ : Value) = .bool _; rw [hX.out]; rfl
      · have hp : ((GA && GB) == true) = true := by simp [hX]
        replace x21 := x21.trans (onlyIf_pos hp)
        rw [hX] at x11
        replace hX := Lib.hid hX
        simp only [Oper.wp, execOp]
        go_simp
        refine Nxt.mk _ rfl (fun _ _ => ?_) hS (fun _ _ h => h)
        rw [hV.out]; show (_ : Value) = .bool _; rw [hX.out]; rfl
    · intro a W hd hS hdep hfree
      have x22 : a.tmps.getD 22 undef = .bool ((GA && GB) && ((xKindA == 0) || (xKindA == xKindB))) := by have h := hdep 17 22 (by kernel_rfl) rfl; rw [hV.out] at h; exact h
      clear hd hdep hfree
      refine .inl ⟨wanted_free rfl, ?_⟩
      simp only [Oper.wp, execOp]
      go_simp
      refine Nxt.mk _ rfl (fun _ _ => ?_) hS (fun _ _ h => h)
      (rw [hV.out]; rfl)
    · intro a W hd hS hdep hfree
      have x23 : a.tmps.getD 23 undef = .bool ((GA && GB) && ((xKindA == 0) || (xKindA == xKindB))) := by have h := hdep 18 23 (by kernel_rfl) rfl; rw [hV.out] at h; exact h
      have x2 : a.tmps.getD 2 undef = .pointer (some ⟨w.heap.size, 0, none⟩) := hfree 2 (by kernel_rfl)
      clear hd hdep hfree
      rcases (Bool.eq_false_or_eq_true ((((GA && GB) && ((xKindA == 0) || (xKindA == xKindB))) == true))).symm with hE | hE
      · exact .inr ⟨(wanted_sym rfl rfl x23).trans hE, fun _ _ => by rw [hV.out]; exact (onlyIf_neg hE).symm⟩
      refine .inl ⟨(wanted_sym rfl rfl x23).trans hE, ?_⟩
      have hG0 := eq_of_beq hE
      try (have hbits := HBT.out (by revert hE; cases GA <;> simp))
      have HE := Lib.hid hE
      clear hE hG0
      simp only [Oper.wp, execOp]
      go_simp
      refine Nxt.mk _ rfl (fun _ _ => ?_) hS (fun _ _ h => h)
      (rw [hV.out]; exact (onlyIf_pos HE.out).symm)
    · intro a W hd hS hdep hfree
      have x23 : a.tmps.getD 23 undef = .bool ((GA && GB) && ((xKindA == 0) || (xKindA == xKindB))) := by have h := hdep 18 23 (by kernel_rfl) rfl; rw [hV.out] at h; exact h
      have x24 : a.tmps.getD 24 undef = onlyIf (((GA && GB) && ((xKindA == 0) || (xKindA == xKindB))) == true) (.pointer (some ⟨w.heap.size, 3, none⟩)) := by have h := hdep 19 24 (by kernel_rfl) rfl; rw [hV.out] at h; exact h
      clear hd hdep hfree
      rcases (Bool.eq_false_or_eq_true ((((GA && GB) && ((xKindA == 0) || (xKindA == xKindB))) == true))).symm with hE | hE
      · exact .inr ⟨(wanted_sym rfl rfl x23).trans hE, fun _ _ => by rw [hV.out]; exact (onlyIf_neg hE).symm⟩
      refine .inl ⟨(wanted_sym rfl rfl x23).trans hE, ?_⟩
      replace x24 := x24.trans (onlyIf_pos hE)
      have hG0 := eq_of_beq hE
      try (have hbits := HBT.out (by revert hE; cases GA <;> simp))
      have HE := Lib.hid hE
      clear hE hG0
      have c0 : W.cell? ⟨w.heap.size, 3, none⟩ = some (.int .i64 xSrcBitsA) := (HB1.out.below hS hg1).cell 3 (by simp)
      simp only [Oper.wp, execOp]
      go_simp
      refine Nxt.mk _ rfl (fun _ _ => ?_) hS (fun _ _ h => h)
      (rw [hV.out]; exact (onlyIf_pos HE.out).symm)
    · intro a W hd hS hdep hfree
      have x23 : a.tmps.getD 23 undef = .bool ((GA && GB) && ((xKindA == 0) || (xKindA == xKindB))) := by have h := hdep 18 23 (by kernel_rfl) rfl; rw [hV.out] at h; exact h
      have x3 : a.tmps.getD 3 undef = .pointer (some ⟨w.heap.size + 1, 0, none⟩) := hfree 3 (by kernel_rfl)
      clear hd hdep hfree
      rcases (Bool.eq_false_or_eq_true ((((GA && GB) && ((xKindA == 0) || (xKindA == xKindB))) == true))).symm with hE | hE
      · exact .inr ⟨(wanted_sym rfl rfl x23).trans hE, fun _ _ => by rw [hV.out]; exact (onlyIf_neg hE).symm⟩
      refine .inl ⟨(wanted_sym rfl rfl x23).trans hE, ?_⟩
      have hG0 := eq_of_beq hE
      try (have hbits := HBT.out (by revert hE; cases GA <;> simp))
      have HE := Lib.hid hE
      clear hE hG0
      simp only [Oper.wp, execOp]
      go_simp
      refine Nxt.mk _ rfl (fun _ _ => ?_) hS (fun _ _ h => h)
      (rw [hV.out]; exact (onlyIf_pos HE.out).symm)
    · intro a W hd hS hdep hfree
      have x23 : a.tmps.getD 23 undef = .bool ((GA && GB) && ((xKindA == 0) || (xKindA == xKindB))) := by have h := hdep 18 23 (by kernel_rfl) rfl; rw [hV.out] at h; exact h
      have x26 : a.tmps.getD 26 undef = onlyIf (((GA && GB) && ((xKindA == 0) || (xKindA == xKindB))) == true) (.pointer (some ⟨w.heap.size + 1, 3, none⟩)) := by have h := hdep 21 26 (by kernel_rfl) rfl; rw [hV.out] at h; exact h
      clear hd hdep hfree
      rcases (Bool.eq_false_or_eq_true ((((GA && GB) && ((xKindA == 0) || (xKindA == xKindB))) == true))).symm with hE | hE
      · exact .inr ⟨(wanted_sym rfl rfl x23).trans hE, fun _ _ => by rw [hV.out]; exact (onlyIf_neg hE).symm⟩
      refine .inl ⟨(wanted_sym rfl rfl x23).trans hE, ?_⟩
      replace x26 := x26.trans (onlyIf_pos hE)
      have hG0 := eq_of_beq hE
      try (have hbits := HBT.out (by revert hE; cases GA <;> simp))
      have HE := Lib.hid hE
      clear hE hG0
      have c0 : W.cell? ⟨w.heap.size + 1, 3, none⟩ = some (.int .i64 xSrcBitsB) := (HB2.out.below hS hg2).cell 3 (by simp)
      simp only [Oper.wp, execOp]
      go_simp
      refine Nxt.mk _ rfl (fun _ _ => ?_) hS (fun _ _ h => h)
      (rw [hV.out]; exact (onlyIf_pos HE.out).symm)
    · intro a W hd hS hdep hfree
      have x23 : a.tmps.getD 23 undef = .bool ((GA && GB) && ((xKindA == 0) || (xKindA == xKindB))) := by have h := hdep 18 23 (by kernel_rfl) rfl; rw [hV.out] at h; exact h
      have x25 : a.tmps.getD 25 undef = onlyIf (((GA && GB) && ((xKindA == 0) || (xKindA == xKindB))) == true) (.int .i64 xSrcBitsA) := by have h := hdep 20 25 (by kernel_rfl) rfl; rw [hV.out] at h; exact h
      have x27 : a.tmps.getD 27 undef = onlyIf (((GA && GB) && ((xKindA == 0) || (xKindA == xKindB))) == true) (.int .i64 xSrcBitsB) := by have h := hdep 22 27 (by kernel_rfl) rfl; rw [hV.out] at h; exact h
      clear hd hdep hfree
      rcases (Bool.eq_false_or_eq_true ((((GA && GB) && ((xKindA == 0) || (xKindA == xKindB))) == true))).symm with hE | hE
      · exact .inr ⟨(wanted_sym rfl rfl x23).trans hE, fun _ _ => by rw [hV.out]; exact (onlyIf_neg hE).symm⟩
      refine .inl ⟨(wanted_sym rfl rfl x23).trans hE, ?_⟩
      replace x25 := x25.trans (onlyIf_pos hE)
      replace x27 := x27.trans (onlyIf_pos hE)
      have hG0 := eq_of_beq hE
      try (have hbits := HBT.out (by revert hE; cases GA <;> simp))
      have HE := Lib.hid hE
      clear hE hG0
      simp only [Oper.wp, execOp]
      go_simp
      refine Nxt.mk _ rfl (fun _ _ => ?_) hS (fun _ _ h => h)
      rw [hV.out]; first | exact (onlyIf_pos HE.out).symm | (show (_ : Value) = onlyIf _ _; rw [onlyIf_pos HE.out]; simp)
    · intro a W hd hS hdep hfree
      have x23 : a.tmps.getD 23 undef = .bool ((GA && GB) && ((xKindA == 0) || (xKindA == xKindB))) := by have h := hdep 18 23 (by kernel_rfl) rfl; rw [hV.out] at h; exact h
      have x28 : a.tmps.getD 28 undef = onlyIf (((GA && GB) && ((xKindA == 0) || (xKindA == xKindB))) == true) (.bool (decide (xSrcBitsA ≤ xSrcBitsB))) := by have h := hdep 23 28 (by kernel_rfl) rfl; rw [hV.out] at h; exact h
      clear hd hdep hfree
      refine .inl ⟨wanted_free rfl, ?_⟩
      rcases (Bool.eq_false_or_eq_true (((GA && GB) && ((xKindA == 0) || (xKindA == xKindB))))).symm with hX | hX
      · rw [hX] at x23
        replace hX := Lib.hid hX
        simp only [Oper.wp, execOp]
        go_simp
        refine Nxt.mk _ rfl (fun _ _ => ?_) hS (fun _ _ h => h)
        rw [hV.out]; show (_ : Value) = .bool _; rw [hX.out]; rfl
      · have hp : (((GA && GB) && ((xKindA == 0) || (xKindA == xKindB))) == true) = true := by simp [hX]
        replace x28 := x28.trans (onlyIf_pos hp)
        rw [hX] at x23
        replace hX := Lib.hid hX
        simp only [Oper.wp, execOp]
        go_simp
        refine Nxt.mk _ rfl (fun _ _ => ?_) hS (fun _ _ h => h)
        rw [hV.out]; show (_ : Value) = .bool _; rw [hX.out]; rfl
    · intro a W hd hS hdep hfree
      have x29 : a.tmps.getD 29 undef = .bool (((GA && GB) && ((xKindA == 0) || (xKindA == xKindB))) && (decide (xSrcBitsA ≤ xSrcBitsB))) := by have h := hdep 24 29 (by kernel_rfl) rfl; rw [hV.out] at h; exact h
      clear hd hdep hfree
      refine .inl ⟨wanted_free rfl, ?_⟩
      simp only [Oper.wp, execOp]
      go_simp
      refine Nxt.mk _ rfl (fun _ _ => ?_) hS (fun _ _ h => h)
      (rw [hV.out]; rfl)
    · intro a W hd hS hdep hfree
      have x30 : a.tmps.getD 30 undef = .bool (((GA && GB) && ((xKindA == 0) || (xKindA == xKindB))) && (decide (xSrcBitsA ≤ xSrcBitsB))) := by have h := hdep 25 30 (by kernel_rfl) rfl; rw [hV.out] at h; exact h
      have x2 : a.tmps.getD 2 undef = .pointer (some ⟨w.heap.size, 0, none⟩) := hfree 2 (by kernel_rfl)
      clear hd hdep hfree
      rcases (Bool.eq_false_or_eq_true (((((GA && GB) && ((xKindA == 0) || (xKindA == xKindB))) && (decide (xSrcBitsA ≤ xSrcBitsB))) == true))).symm with hE | hE
      · exact .inr ⟨(wanted_sym rfl rfl x30).trans hE, fun _ _ => by rw [hV.out]; exact (onlyIf_neg hE).symm⟩
      refine .inl ⟨(wanted_sym rfl rfl x30).trans hE, ?_⟩
      have hG0 := eq_of_beq hE
      try (have hbits := HBT.out (by revert hE; cases GA <;> simp))
      have HE := Lib.hid hE
      clear hE hG0
      simp only [Oper.wp, execOp]
      go_simp
      refine Nxt.mk _ rfl (fun _ _ => ?_) hS (fun _ _ h => h)
      (rw [hV.out]; exact (onlyIf_pos HE.out).symm)
    · intro a W hd hS hdep hfree
      have x30 : a.tmps.getD 30 undef = .bool (((GA && GB) && ((xKindA == 0) || (xKindA == xKindB))) && (decide (xSrcBitsA ≤ xSrcBitsB))) := by have h := hdep 25 30 (by kernel_rfl) rfl; rw [hV.out] at h; exact h
      have x31 : a.tmps.getD 31 undef = onlyIf ((((GA && GB) && ((xKindA == 0) || (xKindA == xKindB))) && (decide (xSrcBitsA ≤ xSrcBitsB))) == true) (.pointer (some ⟨w.heap.size, 2, none⟩)) := by have h := hdep 26 31 (by kernel_rfl) rfl; rw [hV.out] at h; exact h
      clear hd hdep hfree
      rcases (Bool.eq_false_or_eq_true (((((GA && GB) && ((xKindA == 0) || (xKindA == xKindB))) && (decide (xSrcBitsA ≤ xSrcBitsB))) == true))).symm with hE | hE
      · exact .inr ⟨(wanted_sym rfl rfl x30).trans hE, fun _ _ => by rw [hV.out]; exact (onlyIf_neg hE).symm⟩
      refine .inl ⟨(wanted_sym rfl rfl x30).trans hE, ?_⟩
      replace x31 := x31.trans (onlyIf_pos hE)
      have hG0 := eq_of_beq hE
      try (have hbits := HBT.out (by revert hE; cases GA <;> simp))
      have HE := Lib.hid hE
      clear hE hG0
      have c0 : W.cell? ⟨w.heap.size, 2, none⟩ = some (.int .i64 xSrcIpA) := (HB1.out.below hS hg1).cell 2 (by simp)
      simp only [Oper.wp, execOp]
      go_simp
      refine Nxt.mk _ rfl (fun _ _ => ?_) hS (fun _ _ h => h)
      (rw [hV.out]; exact (onlyIf_pos HE.out).symm)
    · intro a W hd hS hdep hfree
      have x30 : a.tmps.getD 30 undef = .bool (((GA && GB) && ((xKindA == 0) || (xKindA == xKindB))) && (decide (xSrcBitsA ≤ xSrcBitsB))) := by have h := hdep 25 30 (by kernel_rfl) rfl; rw [hV.out] at h; exact h
      have x2 : a.tmps.getD 2 undef = .pointer (some ⟨w.heap.size, 0, none⟩) := hfree 2 (by kernel_rfl)
      clear hd hdep hfree
      rcases (Bool.eq_false_or_eq_true (((((GA && GB) && ((xKindA == 0) || (xKindA == xKindB))) && (decide (xSrcBitsA ≤ xSrcBitsB))) == true))).symm with hE | hE
      · exact .inr ⟨(wanted_sym rfl rfl x30).trans hE, fun _ _ => by rw [hV.out]; exact (onlyIf_neg hE).symm⟩
      refine .inl ⟨(wanted_sym rfl rfl x30).trans hE, ?_⟩
      have hG0 := eq_of_beq hE
      try (have hbits := HBT.out (by revert hE; cases GA <;> simp))
      have HE := Lib.hid hE
      clear hE hG0
      simp only [Oper.wp, execOp]
      go_simp
      refine Nxt.mk _ rfl (fun _ _ => ?_) hS (fun _ _ h => h)
      (rw [hV.out]; exact (onlyIf_pos HE.out).symm)
    · intro a W hd hS hdep hfree
      have x30 : a.tmps.getD 30 undef = .bool (((GA && GB) && ((xKindA == 0) || (xKindA == xKindB))) && (decide (xSrcBitsA ≤ xSrcBitsB))) := by have h := hdep 25 30 (by kernel_rfl) rfl; rw [hV.out] at h; exact h
      have x33 : a.tmps.getD 33 undef = onlyIf ((((GA && GB) && ((xKindA == 0) || (xKindA == xKindB))) && (decide (xSrcBitsA ≤ xSrcBitsB))) == true) (.pointer (some ⟨w.heap.size, 3, none⟩)) := by have h := hdep 28 33 (by kernel_rfl) rfl; rw [hV.out] at h; exact h
      clear hd hdep hfree
      rcases (Bool.eq_false_or_eq_true (((((GA && GB) && ((xKindA == 0) || (xKindA == xKindB))) && (decide (xSrcBitsA ≤ xSrcBitsB))) == true))).symm with hE | hE
      · exact .inr ⟨(wanted_sym rfl rfl x30).trans hE, fun _ _ => by rw [hV.out]; exact (onlyIf_neg hE).symm⟩
      refine .inl ⟨(wanted_sym rfl rfl x30).trans hE, ?_⟩
      replace x33 := x33.trans (onlyIf_pos hE)
      have hG0 := eq_of_beq hE
      try (have hbits := HBT.out (by revert hE; cases GA <;> simp))
      have HE := Lib.hid hE
      clear hE hG0
      have c0 : W.cell? ⟨w.heap.size, 3, none⟩ = some (.int .i64 xSrcBitsA) := (HB1.out.below hS hg1).cell 3 (by simp)
      simp only [Oper.wp, execOp]
      go_simp
      refine Nxt.mk _ rfl (fun _ _ => ?_) hS (fun _ _ h => h)
      (rw [hV.out]; exact (onlyIf_pos HE.out).symm)
    · intro a W hd hS hdep hfree
      have x30 : a.tmps.getD 30 undef = .bool (((GA && GB) && ((xKindA == 0) || (xKindA == xKindB))) && (decide (xSrcBitsA ≤ xSrcBitsB))) := by have h := hdep 25 30 (by kernel_rfl) rfl; rw [hV.out] at h; exact h
      have x34 : a.tmps.getD 34 undef = onlyIf ((((GA && GB) && ((xKindA == 0) || (xKindA == xKindB))) && (decide (xSrcBitsA ≤ xSrcBitsB))) == true) (.int .i64 xSrcBitsA) := by have h := hdep 29 34 (by kernel_rfl) rfl; rw [hV.out] at h; exact h
      clear hd hdep hfree
      rcases (Bool.eq_false_or_eq_true (((((GA && GB) && ((xKindA == 0) || (xKindA == xKindB))) && (decide (xSrcBitsA ≤ xSrcBitsB))) == true))).symm with hE | hE
      · exact .inr ⟨(wanted_sym rfl rfl x30).trans hE, fun _ _ => by rw [hV.out]; exact (onlyIf_neg hE).symm⟩
      refine .inl ⟨(wanted_sym rfl rfl x30).trans hE, ?_⟩
      replace x34 := x34.trans (onlyIf_pos hE)
      have hG0 := eq_of_beq hE
      try (have hbits := HBT.out (by revert hE; cases GA <;> simp))
      have HE := Lib.hid hE
      clear hE hG0
      have k : IntKind.i64.wrap (32 - xSrcBitsA) = 32 - xSrcBitsA := wrap_in _ (by omega) (by omega)
      simp only [Oper.wp, execOp]
      go_simp
      refine Nxt.mk _ rfl (fun _ _ => ?_) hS (fun _ _ h => h)
      (rw [hV.out]; exact (onlyIf_pos HE.out).symm)
    · intro a W hd hS hdep hfree
      have x30 : a.tmps.getD 30 undef = .bool (((GA && GB) && ((xKindA == 0) || (xKindA == xKindB))) && (decide (xSrcBitsA ≤ xSrcBitsB))) := by have h := hdep 25 30 (by kernel_rfl) rfl; rw [hV.out] at h; exact h
      have x32 : a.tmps.getD 32 undef = onlyIf ((((GA && GB) && ((xKindA == 0) || (xKindA == xKindB))) && (decide (xSrcBitsA ≤ xSrcBitsB))) == true) (.int .i64 xSrcIpA) := by have h := hdep 27 32 (by kernel_rfl) rfl; rw [hV.out] at h; exact h
      have x35 : a.tmps.getD 35 undef = onlyIf ((((GA && GB) && ((xKindA == 0) || (xKindA == xKindB))) && (decide (xSrcBitsA ≤ xSrcBitsB))) == true) (.int .i64 (32 - xSrcBitsA)) := by have h := hdep 30 35 (by kernel_rfl) rfl; rw [hV.out] at h; exact h
      clear hd hdep hfree
      rcases (Bool.eq_false_or_eq_true (((((GA && GB) && ((xKindA == 0) || (xKindA == xKindB))) && (decide (xSrcBitsA ≤ xSrcBitsB))) == true))).symm with hE | hE
      · exact .inr ⟨(wanted_sym rfl rfl x30).trans hE, fun _ _ => by rw [hV.out]; exact (onlyIf_neg hE).symm⟩
      refine .inl ⟨(wanted_sym rfl rfl x30).trans hE, ?_⟩
      replace x32 := x32.trans (onlyIf_pos hE)
      replace x35 := x35.trans (onlyIf_pos hE)
      have hG0 := eq_of_beq hE
      try (have hbits := HBT.out (by revert hE; cases GA <;> simp))
      have HE := Lib.hid hE
      clear hE hG0
      simp only [Oper.wp, execOp]
      go_simp
      refine Nxt.mk _ rfl (fun _ _ => ?_) hS (fun _ _ h => h)
      (rw [hV.out]; exact (onlyIf_pos HE.out).symm)
    · intro a W hd hS hdep hfree
      have x30 : a.tmps.getD 30 undef = .bool (((GA && GB) && ((xKindA == 0) || (xKindA == xKindB))) && (decide (xSrcBitsA ≤ xSrcBitsB))) := by have h := hdep 25 30 (by kernel_rfl) rfl; rw [hV.out] at h; exact h
      have x3 : a.tmps.getD 3 undef = .pointer (some ⟨w.heap.size + 1, 0, none⟩) := hfree 3 (by kernel_rfl)
      clear hd hdep hfree
      rcases (Bool.eq_false_or_eq_true (((((GA && GB) && ((xKindA == 0) || (xKindA == xKindB))) && (decide (xSrcBitsA ≤ xSrcBitsB))) == true))).symm with hE | hE
      · exact .inr ⟨(wanted_sym rfl rfl x30).trans hE, fun _ _ => by rw [hV.out]; exact (onlyIf_neg hE).symm⟩
      refine .inl ⟨(wanted_sym rfl rfl x30).trans hE, ?_⟩
      have hG0 := eq_of_beq hE
      try (have hbits := HBT.out (by revert hE; cases GA <;> simp))
      have HE := Lib.hid hE
      clear hE hG0
      simp only [Oper.wp, execOp]
      go_simp
      refine Nxt.mk _ rfl (fun _ _ => ?_) hS (fun _ _ h => h)
      (rw [hV.out]; exact (onlyIf_pos HE.out).symm)
    · intro a W hd hS hdep hfree
      have x30 : a.tmps.getD 30 undef = .bool (((GA && GB) && ((xKindA == 0) || (xKindA == xKindB))) && (decide (xSrcBitsA ≤ xSrcBitsB))) := by have h := hdep 25 30 (by kernel_rfl) rfl; rw [hV.out] at h; exact h
      have x37 : a.tmps.getD 37 undef = onlyIf ((((GA && GB) && ((xKindA == 0) || (xKindA == xKindB))) && (decide (xSrcBitsA ≤ xSrcBitsB))) == true) (.pointer (some ⟨w.heap.size + 1, 2, none⟩)) := by have h := hdep 32 37 (by kernel_rfl) rfl; rw [hV.out] at h; exact h
      clear hd hdep hfree
      rcases (Bool.eq_false_or_eq_true (((((GA && GB) && ((xKindA == 0) || (xKindA == xKindB))) && (decide (xSrcBitsA ≤ xSrcBitsB))) == true))).symm with hE | hE
      · exact .inr ⟨(wanted_sym rfl rfl x30).trans hE, fun _ _ => by rw [hV.out]; exact (onlyIf_neg hE).symm⟩
      refine .inl ⟨(wanted_sym rfl rfl x30).trans hE, ?_⟩
      replace x37 := x37.trans (onlyIf_pos hE)
      have hG0 := eq_of_beq hE
      try (have hbits := HBT.out (by revert hE; cases GA <;> simp))
      have HE := Lib.hid hE
      clear hE hG0
      have c0 : W.cell? ⟨w.heap.size + 1, 2, none⟩ = some (.int .i64 xSrcIpB) := (HB2.out.below hS hg2).cell 2 (by simp)
      simp only [Oper.wp, execOp]
      go_simp
      refine Nxt.mk _ rfl (fun _ _ => ?_) hS (fun _ _ h => h)
      (rw [hV.out]; exact (onlyIf_pos HE.out).symm)
    · intro a W hd hS hdep hfree
      have x30 : a.tmps.getD 30 undef = .bool (((GA && GB) && ((xKindA == 0) || (xKindA == xKindB))) && (decide (xSrcBitsA ≤ xSrcBitsB))) := by have h := hdep 25 30 (by kernel_rfl) rfl; rw [hV.out] at h; exact h
      have x2 : a.tmps.getD 2 undef = .pointer (some ⟨w.heap.size, 0, none⟩) := hfree 2 (by kernel_rfl)
      clear hd hdep hfree
      rcases (Bool.eq_false_or_eq_true (((((GA && GB) && ((xKindA == 0) || (xKindA == xKindB))) && (decide (xSrcBitsA ≤ xSrcBitsB))) == true))).symm with hE | hE
      · exact .inr ⟨(wanted_sym rfl rfl x30).trans hE, fun _ _ => by rw [hV.out]; exact (onlyIf_neg hE).symm⟩
      refine .inl ⟨(wanted_sym rfl rfl x30).trans hE, ?_⟩
      have hG0 := eq_of_beq hE
      try (have hbits := HBT.out (by revert hE; cases GA <;> simp))
      have HE := Lib.hid hE
      clear hE hG0
      simp only [Oper.wp, execOp]
      go_simp
      refine Nxt.mk _ rfl (fun _ _ => ?_) hS (fun _ _ h => h)
      (rw [hV.out]; exact (onlyIf_pos HE.out).symm)
    · intro a W hd hS hdep hfree
      have x30 : a.tmps.getD 30 undef = .bool (((GA && GB) && ((xKindA == 0) || (xKindA == xKindB))) && (decide (xSrcBitsA ≤ xSrcBitsB))) := by have h := hdep 25 30 (by kernel_rfl) rfl; rw [hV.out] at h; exact h
      have x39 : a.tmps.getD 39 undef = onlyIf ((((GA && GB) && ((xKindA == 0) || (xKindA == xKindB))) && (decide (xSrcBitsA ≤ xSrcBitsB))) == true) (.pointer (some ⟨w.heap.size, 3, none⟩)) := by have h := hdep 34 39 (by kernel_rfl) rfl; rw [hV.out] at h; exact h
      clear hd hdep hfree
      rcases (Bool.eq_false_or_eq_true (((((GA && GB) && ((xKindA == 0) || (xKindA == xKindB))) && (decide (xSrcBitsA ≤ xSrcBitsB))) == true))).symm with hE | hE
      · exact .inr ⟨(wanted_sym rfl rfl x30).trans hE, fun _ _ => by rw [hV.out]; exact (onlyIf_neg hE).symm⟩
      refine .inl ⟨(wanted_sym rfl rfl x30).trans hE, ?_⟩
      replace x39 := x39.trans (onlyIf_pos hE)
      have hG0 := eq_of_beq hE
      try (have hbits := HBT.out (by revert hE; cases GA <;> simp))
      have HE := Lib.hid hE
      clear hE hG0
      have c0 : W.cell? ⟨w.heap.size, 3, none⟩ = some (.int .i64 xSrcBitsA) := (HB1.out.below hS hg1).cell 3 (by simp)
      simp only [Oper.wp, execOp]
      go_simp
      refine Nxt.mk _ rfl (fun _ _ => ?_) hS (fun _ _ h => h)
      (rw [hV.out]; exact (onlyIf_pos HE.out).symm)
    · intro a W hd hS hdep hfree
      have x30 : a.tmps.getD 30 undef = .bool (((GA && GB) && ((xKindA == 0) || (xKindA == xKindB))) && (decide (xSrcBitsA ≤ xSrcBitsB))) := by have h := hdep 25 30 (by kernel_rfl) rfl; rw [hV.out] at h; exact h
      have x40 : a.tmps.getD 40 undef = onlyIf ((((GA && GB) && ((xKindA == 0) || (xKindA == xKindB))) && (decide (xSrcBitsA ≤ xSrcBitsB))) == true) (.int .i64 xSrcBitsA) := by have h := hdep 35 40 (by kernel_rfl) rfl; rw [hV.out] at h; exact h
      clear hd hdep hfree
      rcases (Bool.eq_false_or_eq_true (((((GA && GB) && ((xKindA == 0) || (xKindA == xKindB))) && (decide (xSrcBitsA ≤ xSrcBitsB))) == true))).symm with hE | hE
      · exact .inr ⟨(wanted_sym rfl rfl x30).trans hE, fun _ _ => by rw [hV.out]; exact (onlyIf_neg hE).symm⟩
      refine .inl ⟨(wanted_sym rfl rfl x30).trans hE, ?_⟩
      replace x40 := x40.trans (onlyIf_pos hE)
      have hG0 := eq_of_beq hE
      try (have hbits := HBT.out (by revert hE; cases GA <;> simp))
      have HE := Lib.hid hE
      clear hE hG0
      have k : IntKind.i64.wrap (32 - xSrcBitsA) = 32 - xSrcBitsA := wrap_in _ (by omega) (by omega)
      simp only [Oper.wp, execOp]
      go_simp
      refine Nxt.mk _ rfl (fun _ _ => ?_) hS (fun _ _ h => h)
      (rw [hV.out]; exact (onlyIf_pos HE.out).symm)
    · intro a W hd hS hdep hfree
      have x30 : a.tmps.getD 30 undef = .bool (((GA && GB) && ((xKindA == 0) || (xKindA == xKindB))) && (decide (xSrcBitsA ≤ xSrcBitsB))) := by have h := hdep 25 30 (by kernel_rfl) rfl; rw [hV.out] at h; exact h
      have x38 : a.tmps.getD 38 undef = onlyIf ((((GA && GB) && ((xKindA == 0) || (xKindA == xKindB))) && (decide (xSrcBitsA ≤ xSrcBitsB))) == true) (.int .i64 xSrcIpB) := by have h := hdep 33 38 (by kernel_rfl) rfl; rw [hV.out] at h; exact h
      have x41 : a.tmps.getD 41 undef = onlyIf ((((GA && GB) && ((xKindA == 0) || (xKindA == xKindB))) && (decide (xSrcBitsA ≤ xSrcBitsB))) == true) (.int .i64 (32 - xSrcBitsA)) := by have h := hdep 36 41 (by kernel_rfl) rfl; rw [hV.out] at h; exact h
      clear hd hdep hfree
      rcases (Bool.eq_false_or_eq_true (((((GA && GB) && ((xKindA == 0) || (xKindA == xKindB))) && (decide (xSrcBitsA ≤ xSrcBitsB))) == true))).symm with hE | hE
      · exact .inr ⟨(wanted_sym rfl rfl x30).trans hE, fun _ _ => by rw [hV.out]; exact (onlyIf_neg hE).symm⟩
      refine .inl ⟨(wanted_sym rfl rfl x30).trans hE, ?_⟩
      replace x38 := x38.trans (onlyIf_pos hE)
      replace x41 := x41.trans (onlyIf_pos hE)
      have hG0 := eq_of_beq hE
      try (have hbits := HBT.out (by revert hE; cases GA <;> simp))
      have HE := Lib.hid hE
      clear hE hG0
      simp only [Oper.wp, execOp]
      go_simp
      refine Nxt.mk _ rfl (fun _ _ => ?_) hS (fun _ _ h => h)
      (rw [hV.out]; exact (onlyIf_pos HE.out).symm)
    · intro a W hd hS hdep hfree
      have x30 : a.tmps.getD 30 undef = .bool (((GA && GB) && ((xKindA == 0) || (xKindA == xKindB))) && (decide (xSrcBitsA ≤ xSrcBitsB))) := by have h := hdep 25 30 (by kernel_rfl) rfl; rw [hV.out] at h; exact h
      have x36 : a.tmps.getD 36 undef = onlyIf ((((GA && GB) && ((xKindA == 0) || (xKindA == xKindB))) && (decide (xSrcBitsA ≤ xSrcBitsB))) == true) (.int .i64 (xSrcIpA / 2 ^ (32 - xSrcBitsA).toNat)) := by have h := hdep 31 36 (by kernel_rfl) rfl; rw [hV.out] at h; exact h
      have x42 : a.tmps.getD 42 undef = onlyIf ((((GA && GB) && ((xKindA == 0) || (xKindA == xKindB))) && (decide (xSrcBitsA ≤ xSrcBitsB))) == true) (.int .i64 (xSrcIpB / 2 ^ (32 - xSrcBitsA).toNat)) := by have h := hdep 37 42 (by kernel_rfl) rfl; rw [hV.out] at h; exact h
      clear hd hdep hfree
      rcases (Bool.eq_false_or_eq_true (((((GA && GB) && ((xKindA == 0) || (xKindA == xKindB))) && (decide (xSrcBitsA ≤ xSrcBitsB))) == true))).symm with hE | hE
      · exact .inr ⟨(wanted_sym rfl rfl x30).trans hE, fun _ _ => by rw [hV.out]; exact (onlyIf_neg hE).symm⟩
      refine .inl ⟨(wanted_sym rfl rfl x30).trans hE, ?_⟩
      replace x36 := x36.trans (onlyIf_pos hE)
      replace x42 := x42.trans (onlyIf_pos hE)
      have hG0 := eq_of_beq hE
      try (have hbits := HBT.out (by revert hE; cases GA <;> simp))
      have HE := Lib.hid hE
      clear hE hG0
      simp only [Oper.wp, execOp]
      go_simp
      refine Nxt.mk _ rfl (fun _ _ => ?_) hS (fun _ _ h => h)
      rw [hV.out]; first | exact (onlyIf_pos HE.out).symm | (show (_ : Value) = onlyIf _ _; rw [onlyIf_pos HE.out]; simp)
    · intro a W hd hS hdep hfree
      have x30 : a.tmps.getD 30 undef = .bool (((GA && GB) && ((xKindA == 0) || (xKindA == xKindB))) && (decide (xSrcBitsA ≤ xSrcBitsB))) := by have h := hdep 25 30 (by kernel_rfl) rfl; rw [hV.out] at h; exact h
      have x43 : a.tmps.getD 43 undef = onlyIf ((((GA && GB) && ((xKindA == 0) || (xKindA == xKindB))) && (decide (xSrcBitsA ≤ xSrcBitsB))) == true) (.bool (xSrcIpA / 2 ^ (32 - xSrcBitsA).toNat == xSrcIpB / 2 ^ (32 - xSrcBitsA).toNat)) := by have h := hdep 38 43 (by kernel_rfl) rfl; rw [hV.out] at h; exact h
      clear hd hdep hfree
      refine .inl ⟨wanted_free rfl, ?_⟩
      rcases (Bool.eq_false_or_eq_true ((((GA && GB) && ((xKindA == 0) || (xKindA == xKindB))) && (decide (xSrcBitsA ≤ xSrcBitsB))))).symm with hX | hX
      · rw [hX] at x30
        replace hX := Lib.hid hX
        simp only [Oper.wp, execOp]
        go_simp
        refine Nxt.mk _ rfl (fun _ _ => ?_) hS (fun _ _ h => h)
        rw [hV.out]; show (_ : Value) = .bool _; rw [hX.out]; rfl
      · have hp : ((((GA && GB) && ((xKindA == 0) || (xKindA == xKindB))) && (decide (xSrcBitsA ≤ xSrcBitsB))) == true) = true := by simp [hX]
        replace x43 := x43.trans (onlyIf_pos hp)
        rw [hX] at x30
        replace hX := Lib.hid hX
        simp only [Oper.wp, execOp]
        go_simp
        refine Nxt.mk _ rfl (fun _ _ => ?_) hS (fun _ _ h => h)
        rw [hV.out]; show (_ : Value) = .bool _; rw [hX.out]; rfl
    · intro a W hd hS hdep hfree
      have x44 : a.tmps.getD 44 undef = .bool ((((GA && GB) && ((xKindA == 0) || (xKindA == xKindB))) && (decide (xSrcBitsA ≤ xSrcBitsB))) && (xSrcIpA / 2 ^ (32 - xSrcBitsA).toNat == xSrcIpB / 2 ^ (32 - xSrcBitsA).toNat)) := by have h := hdep 39 44 (by kernel_rfl) rfl; rw [hV.out] at h; exact h
      clear hd hdep hfree
      refine .inl ⟨wanted_free rfl, ?_⟩
      simp only [Oper.wp, execOp]
      go_simp
      refine Nxt.mk _ rfl (fun _ _ => ?_) hS (fun _ _ h => h)
      (rw [hV.out]; rfl)
    · intro a W hd hS hdep hfree
      have x45 : a.tmps.getD 45 undef = .bool ((((GA && GB) && ((xKindA == 0) || (xKindA == xKindB))) && (decide (xSrcBitsA ≤ xSrcBitsB))) && (xSrcIpA / 2 ^ (32 - xSrcBitsA).toNat == xSrcIpB / 2 ^ (32 - xSrcBitsA).toNat)) := by have h := hdep 40 45 (by kernel_rfl) rfl; rw [hV.out] at h; exact h
      have x2 : a.tmps.getD 2 undef = .pointer (some ⟨w.heap.size, 0, none⟩) := hfree 2 (by kernel_rfl)
      clear hd hdep hfree
      rcases (Bool.eq_false_or_eq_true ((((((GA && GB) && ((xKindA == 0) || (xKindA == xKindB))) && (decide (xSrcBitsA ≤ xSrcBitsB))) && (xSrcIpA / 2 ^ (32 - xSrcBitsA).toNat == xSrcIpB / 2 ^ (32 - xSrcBitsA).toNat)) == true))).symm with hE | hE
      · exact .inr ⟨(wanted_sym rfl rfl x45).trans hE, fun _ _ => by rw [hV.out]; exact (onlyIf_neg hE).symm⟩
      refine .inl ⟨(wanted_sym rfl rfl x45).trans hE, ?_⟩
      have hG0 := eq_of_beq hE
      try (have hbits := HBT.out (by revert hE; cases GA <;> simp))
      have HE := Lib.hid hE
      clear hE hG0
      simp only [Oper.wp, execOp]
      go_simp
      refine Nxt.mk _ rfl (fun _ _ => ?_) hS (fun _ _ h => h)
      (rw [hV.out]; exact (onlyIf_pos HE.out).symm)
    · intro a W hd hS hdep hfree
      have x45 : a.tmps.getD 45 undef = .bool ((((GA && GB) && ((xKindA == 0) || (xKindA == xKindB))) && (decide (xSrcBitsA ≤ xSrcBitsB))) && (xSrcIpA / 2 ^ (32 - xSrcBitsA).toNat == xSrcIpB / 2 ^ (32 - xSrcBitsA).toNat)) := by have h := hdep 40 45 (by kernel_rfl) rfl; rw [hV.out] at h; exact h
      have x46 : a.tmps.getD 46 undef = onlyIf (((((GA && GB) && ((xKindA == 0) || (xKindA == xKindB))) && (decide (xSrcBitsA ≤ xSrcBitsB))) && (xSrcIpA / 2 ^ (32 - xSrcBitsA).toNat == xSrcIpB / 2 ^ (32 - xSrcBitsA).toNat)) == true) (.pointer (some ⟨w.heap.size, 4, none⟩)) := by have h := hdep 41 46 (by kernel_rfl) rfl; rw [hV.out] at h; exact h
      clear hd hdep hfree
      rcases (Bool.eq_false_or_eq_true ((((((GA && GB) && ((xKindA == 0) || (xKindA == xKindB))) && (decide (xSrcBitsA ≤ xSrcBitsB))) && (xSrcIpA / 2 ^ (32 - xSrcBitsA).toNat == xSrcIpB / 2 ^ (32 - xSrcBitsA).toNat)) == true))).symm with hE | hE
      · exact .inr ⟨(wanted_sym rfl rfl x45).trans hE, fun _ _ => by rw [hV.out]; exact (onlyIf_neg hE).symm⟩
      refine .inl ⟨(wanted_sym rfl rfl x45).trans hE, ?_⟩
      replace x46 := x46.trans (onlyIf_pos hE)
      have hG0 := eq_of_beq hE
      try (have hbits := HBT.out (by revert hE; cases GA <;> simp))
      have HE := Lib.hid hE
      clear hE hG0
      have c0 : W.cell? ⟨w.heap.size, 4, none⟩ = some (.int .i64 xFirstPortA) := (HB1.out.below hS hg1).cell 4 (by simp)
      simp only [Oper.wp, execOp]
      go_simp
      refine Nxt.mk _ rfl (fun _ _ => ?_) hS (fun _ _ h => h)
      (rw [hV.out]; exact (onlyIf_pos HE.out).symm)
    · intro a W hd hS hdep hfree
      have x45 : a.tmps.getD 45 undef = .bool ((((GA && GB) && ((xKindA == 0) || (xKindA == xKindB))) && (decide (xSrcBitsA ≤ xSrcBitsB))) && (xSrcIpA / 2 ^ (32 - xSrcBitsA).toNat == xSrcIpB / 2 ^ (32 - xSrcBitsA).toNat)) := by have h := hdep 40 45 (by kernel_rfl) rfl; rw [hV.out] at h; exact h
      have x3 : a.tmps.getD 3 undef = .pointer (some ⟨w.heap.size + 1, 0, none⟩) := hfree 3 (by kernel_rfl)
      clear hd hdep hfree
      rcases (Bool.eq_false_or_eq_true ((((((GA && GB) && ((xKindA == 0) || (xKindA == xKindB))) && (decide (xSrcBitsA ≤ xSrcBitsB))) && (xSrcIpA / 2 ^ (32 - xSrcBitsA).toNat == xSrcIpB / 2 ^ (32 - xSrcBitsA).toNat)) == true))).symm with hE | hE
      · exact .inr ⟨(wanted_sym rfl rfl x45).trans hE, fun _ _ => by rw [hV.out]; exact (onlyIf_neg hE).symm⟩
      refine .inl ⟨(wanted_sym rfl rfl x45).trans hE, ?_⟩
      have hG0 := eq_of_beq hE
      try (have hbits := HBT.out (by revert hE; cases GA <;> simp))
      have HE := Lib.hid hE
      clear hE hG0
      simp only [Oper.wp, execOp]
      go_simp
      refine Nxt.mk _ rfl (fun _ _ => ?_) hS (fun _ _ h => h)
      (rw [hV.out]; exact (onlyIf_pos HE.out).symm)
    · intro a W hd hS hdep hfree
      have x45 : a.tmps.getD 45 undef = .bool ((((GA && GB) && ((xKindA == 0) || (xKindA == xKindB))) && (decide (xSrcBitsA ≤ xSrcBitsB))) && (xSrcIpA / 2 ^ (32 - xSrcBitsA).toNat == xSrcIpB / 2 ^ (32 - xSrcBitsA).toNat)) := by have h := hdep 40 45 (by kernel_rfl) rfl; rw [hV.out] at h; exact h
      have x48 : a.tmps.getD 48 undef = onlyIf (((((GA && GB) && ((xKindA == 0) || (xKindA == xKindB))) && (decide (xSrcBitsA ≤ xSrcBitsB))) && (xSrcIpA / 2 ^ (32 - xSrcBitsA).toNat == xSrcIpB / 2 ^ (32 - xSrcBitsA).toNat)) == true) (.pointer (some ⟨w.heap.size + 1, 4, none⟩)) := by have h := hdep 43 48 (by kernel_rfl) rfl; rw [hV.out] at h; exact h
      clear hd hdep hfree
      rcases (Bool.eq_false_or_eq_true ((((((GA && GB) && ((xKindA == 0) || (xKindA == xKindB))) && (decide (xSrcBitsA ≤ xSrcBitsB))) && (xSrcIpA / 2 ^ (32 - xSrcBitsA).toNat == xSrcIpB / 2 ^ (32 - xSrcBitsA).toNat)) == true))).symm with hE | hE
      · exact .inr ⟨(wanted_sym rfl rfl x45).trans hE, fun _ _ => by rw [hV.out]; exact (onlyIf_neg hE).symm⟩
      refine .inl ⟨(wanted_sym rfl rfl x45).trans hE, ?_⟩
      replace x48 := x48.trans (onlyIf_pos hE)
      have hG0 := eq_of_beq hE
      try (have hbits := HBT.out (by revert hE; cases GA <;> simp))
      have HE := Lib.hid hE
      clear hE hG0
      have c0 : W.cell? ⟨w.heap.size + 1, 4, none⟩ = some (.int .i64 xFirstPortB) := (HB2.out.below hS hg2).cell 4 (by simp)
      simp only [Oper.wp, execOp]
      go_simp
      refine Nxt.mk _ rfl (fun _ _ => ?_) hS (fun _ _ h => h)
      (rw [hV.out]; exact (onlyIf_pos HE.out).symm)
    · intro a W hd hS hdep hfree
      have x45 : a.tmps.getD 45 undef = .bool ((((GA && GB) && ((xKindA == 0) || (xKindA == xKindB))) && (decide (xSrcBitsA ≤ xSrcBitsB))) && (xSrcIpA / 2 ^ (32 - xSrcBitsA).toNat == xSrcIpB / 2 ^ (32 - xSrcBitsA).toNat)) := by have h := hdep 40 45 (by kernel_rfl) rfl; rw [hV.out] at h; exact h
      have x47 : a.tmps.getD 47 undef = onlyIf (((((GA && GB) && ((xKindA == 0) || (xKindA == xKindB))) && (decide (xSrcBitsA ≤ xSrcBitsB))) && (xSrcIpA / 2 ^ (32 - xSrcBitsA).toNat == xSrcIpB / 2 ^ (32 - xSrcBitsA).toNat)) == true) (.int .i64 xFirstPortA) := by have h := hdep 42 47 (by kernel_rfl) rfl; rw [hV.out] at h; exact h
      have x49 : a.tmps.getD 49 undef = onlyIf (((((GA && GB) && ((xKindA == 0) || (xKindA == xKindB))) && (decide (xSrcBitsA ≤ xSrcBitsB))) && (xSrcIpA / 2 ^ (32 - xSrcBitsA).toNat == xSrcIpB / 2 ^ (32 - xSrcBitsA).toNat)) == true) (.int .i64 xFirstPortB) := by have h := hdep 44 49 (by kernel_rfl) rfl; rw [hV.out] at h; exact h
      clear hd hdep hfree
      rcases (Bool.eq_false_or_eq_true ((((((GA && GB) && ((xKindA == 0) || (xKindA == xKindB))) && (decide (xSrcBitsA ≤ xSrcBitsB))) && (xSrcIpA / 2 ^ (32 - xSrcBitsA).toNat == xSrcIpB / 2 ^ (32 - xSrcBitsA).toNat)) == true))).symm with hE | hE
      · exact .inr ⟨(wanted_sym rfl rfl x45).trans hE, fun _ _ => by rw [hV.out]; exact (onlyIf_neg hE).symm⟩
      refine .inl ⟨(wanted_sym rfl rfl x45).trans hE, ?_⟩
      replace x47 := x47.trans (onlyIf_pos hE)
      replace x49 := x49.trans (onlyIf_pos hE)
      have hG0 := eq_of_beq hE
      try (have hbits := HBT.out (by revert hE; cases GA <;> simp))
      have HE := Lib.hid hE
      clear hE hG0
      simp only [Oper.wp, execOp]
      go_simp
      refine Nxt.mk _ rfl (fun _ _ => ?_) hS (fun _ _ h => h)
      rw [hV.out]; first | exact (onlyIf_pos HE.out).symm | (show (_ : Value) = onlyIf _ _; rw [onlyIf_pos HE.out]; simp)
    · intro a W hd hS hdep hfree
      have x45 : a.tmps.getD 45 undef = .bool ((((GA && GB) && ((xKindA == 0) || (xKindA == xKindB))) && (decide (xSrcBitsA ≤ xSrcBitsB))) && (xSrcIpA / 2 ^ (32 - xSrcBitsA).toNat == xSrcIpB / 2 ^ (32 - xSrcBitsA).toNat)) := by have h := hdep 40 45 (by kernel_rfl) rfl; rw [hV.out] at h; exact h
      have x50 : a.tmps.getD 50 undef = onlyIf (((((GA && GB) && ((xKindA == 0) || (xKindA == xKindB))) && (decide (xSrcBitsA ≤ xSrcBitsB))) && (xSrcIpA / 2 ^ (32 - xSrcBitsA).toNat == xSrcIpB / 2 ^ (32 - xSrcBitsA).toNat)) == true) (.bool (decide (xFirstPortA ≤ xFirstPortB))) := by have h := hdep 45 50 (by kernel_rfl) rfl; rw [hV.out] at h; exact h
      clear hd hdep hfree
      refine .inl ⟨wanted_free rfl, ?_⟩
      rcases (Bool.eq_false_or_eq_true (((((GA && GB) && ((xKindA == 0) || (xKindA == xKindB))) && (decide (xSrcBitsA ≤ xSrcBitsB))) && (xSrcIpA / 2 ^ (32 - xSrcBitsA).toNat == xSrcIpB / 2 ^ (32 - xSrcBitsA).toNat)))).symm with hX | hX
      · rw [hX] at x45
        replace hX := Lib.hid hX
        simp only [Oper.wp, execOp]
        go_simp
        refine Nxt.mk _ rfl (fun _ _ => ?_) hS (fun _ _ h => h)
        rw [hV.out]; show (_ : Value) = .bool _; rw [hX.out]; rfl
      · have hp : (((((GA && GB) && ((xKindA == 0) || (xKindA == xKindB))) && (decide (xSrcBitsA ≤ xSrcBitsB))) && (xSrcIpA / 2 ^ (32 - xSrcBitsA).toNat == xSrcIpB / 2 ^ (32 - xSrcBitsA).toNat)) == true) = true := by simp [hX]
        replace x50 := x50.trans (onlyIf_pos hp)
        rw [hX] at x45
        replace hX := Lib.hid hX
        simp only [Oper.wp, execOp]
        go_simp
        refine Nxt.mk _ rfl (fun _ _ => ?_) hS (fun _ _ h => h)
        rw [hV.out]; show (_ : Value) = .bool _; rw [hX.out]; rfl
    · intro a W hd hS hdep hfree
      have x51 : a.tmps.getD 51 undef = .bool (((((GA && GB) && ((xKindA == 0) || (xKindA == xKindB))) && (decide (xSrcBitsA ≤ xSrcBitsB))) && (xSrcIpA / 2 ^ (32 - xSrcBitsA).toNat == xSrcIpB / 2 ^ (32 - xSrcBitsA).toNat)) && (decide (xFirstPortA ≤ xFirstPortB))) := by have h := hdep 46 51 (by kernel_rfl) rfl; rw [hV.out] at h; exact h
      clear hd hdep hfree
      refine .inl ⟨wanted_free rfl, ?_⟩
      simp only [Oper.wp, execOp]
      go_simp
      refine Nxt.mk _ rfl (fun _ _ => ?_) hS (fun _ _ h => h)
      (rw [hV.out]; rfl)
    · intro a W hd hS hdep hfree
      have x52 : a.tmps.getD 52 undef = .bool (((((GA && GB) && ((xKindA == 0) || (xKindA == xKindB))) && (decide (xSrcBitsA ≤ xSrcBitsB))) && (xSrcIpA / 2 ^ (32 - xSrcBitsA).toNat == xSrcIpB / 2 ^ (32 - xSrcBitsA).toNat)) && (decide (xFirstPortA ≤ xFirstPortB))) := by have h := hdep 47 52 (by kernel_rfl) rfl; rw [hV.out] at h; exact h
      have x3 : a.tmps.getD 3 undef = .pointer (some ⟨w.heap.size + 1, 0, none⟩) := hfree 3 (by kernel_rfl)
      clear hd hdep hfree
      rcases (Bool.eq_false_or_eq_true (((((((GA && GB) && ((xKindA == 0) || (xKindA == xKindB))) && (decide (xSrcBitsA ≤ xSrcBitsB))) && (xSrcIpA / 2 ^ (32 - xSrcBitsA).toNat == xSrcIpB / 2 ^ (32 - xSrcBitsA).toNat)) && (decide (xFirstPortA ≤ xFirstPortB))) == true))).symm with hE | hE
      · exact .inr ⟨(wanted_sym rfl rfl x52).trans hE, fun _ _ => by rw [hV.out]; exact (onlyIf_neg hE).symm⟩
      refine .inl ⟨(wanted_sym rfl rfl x52).trans hE, ?_⟩
      have hG0 := eq_of_beq hE
      try (have hbits := HBT.out (by revert hE; cases GA <;> simp))
      have HE := Lib.hid hE
      clear hE hG0
      simp only [Oper.wp, execOp]
      go_simp
      refine Nxt.mk _ rfl (fun _ _ => ?_) hS (fun _ _ h => h)
      (rw [hV.out]; exact (onlyIf_pos HE.out).symm)
    · intro a W hd hS hdep hfree
      have x52 : a.tmps.getD 52 undef = .bool (((((GA && GB) && ((xKindA == 0) || (xKindA == xKindB))) && (decide (xSrcBitsA ≤ xSrcBitsB))) && (xSrcIpA / 2 ^ (32 - xSrcBitsA).toNat == xSrcIpB / 2 ^ (32 - xSrcBitsA).toNat)) && (decide (xFirstPortA ≤ xFirstPortB))) := by have h := hdep 47 52 (by kernel_rfl) rfl; rw [hV.out] at h; exact h
      have x53 : a.tmps.getD 53 undef = onlyIf ((((((GA && GB) && ((xKindA == 0) || (xKindA == xKindB))) && (decide (xSrcBitsA ≤ xSrcBitsB))) && (xSrcIpA / 2 ^ (32 - xSrcBitsA).toNat == xSrcIpB / 2 ^ (32 - xSrcBitsA).toNat)) && (decide (xFirstPortA ≤ xFirstPortB))) == true) (.pointer (some ⟨w.heap.size + 1, 5, none⟩)) := by have h := hdep 48 53 (by kernel_rfl) rfl; rw [hV.out] at h; exact h
      clear hd hdep hfree
      rcases (Bool.eq_false_or_eq_true (((((((GA && GB) && ((xKindA == 0) || (xKindA == xKindB))) && (decide (xSrcBitsA ≤ xSrcBitsB))) && (xSrcIpA / 2 ^ (32 - xSrcBitsA).toNat == xSrcIpB / 2 ^ (32 - xSrcBitsA).toNat)) && (decide (xFirstPortA ≤ xFirstPortB))) == true))).symm with hE | hE
      · exact .inr ⟨(wanted_sym rfl rfl x52).trans hE, fun _ _ => by rw [hV.out]; exact (onlyIf_neg hE).symm⟩
      refine .inl ⟨(wanted_sym rfl rfl x52).trans hE, ?_⟩
      replace x53 := x53.trans (onlyIf_pos hE)
      have hG0 := eq_of_beq hE
      try (have hbits := HBT.out (by revert hE; cases GA <;> simp))
      have HE := Lib.hid hE
      clear hE hG0
      have c0 : W.cell? ⟨w.heap.size + 1, 5, none⟩ = some (.int .i64 xLastPortB) := (HB2.out.below hS hg2).cell 5 (by simp)
      simp only [Oper.wp, execOp]
      go_simp
      refine Nxt.mk _ rfl (fun _ _ => ?_) hS (fun _ _ h => h)
      (rw [hV.out]; exact (onlyIf_pos HE.out).symm)
    · intro a W hd hS hdep hfree
      have x52 : a.tmps.getD 52 undef = .bool (((((GA && GB) && ((xKindA == 0) || (xKindA == xKindB))) && (decide (xSrcBitsA ≤ xSrcBitsB))) && (xSrcIpA / 2 ^ (32 - xSrcBitsA).toNat == xSrcIpB / 2 ^ (32 - xSrcBitsA).toNat)) && (decide (xFirstPortA ≤ xFirstPortB))) := by have h := hdep 47 52 (by kernel_rfl) rfl; rw [hV.out] at h; exact h
      have x2 : a.tmps.getD 2 undef = .pointer (some ⟨w.heap.size, 0, none⟩) := hfree 2 (by kernel_rfl)
      clear hd hdep hfree
      rcases (Bool.eq_false_or_eq_true (((((((GA && GB) && ((xKindA == 0) || (xKindA == xKindB))) && (decide (xSrcBitsA ≤ xSrcBitsB))) && (xSrcIpA / 2 ^ (32 - xSrcBitsA).toNat == xSrcIpB / 2 ^ (32 - xSrcBitsA).toNat)) && (decide (xFirstPortA ≤ xFirstPortB))) == true))).symm with hE | hE
      · exact .inr ⟨(wanted_sym rfl rfl x52).trans hE, fun _ _ => by rw [hV.out]; exact (onlyIf_neg hE).symm⟩
      refine .inl ⟨(wanted_sym rfl rfl x52).trans hE, ?_⟩
      have hG0 := eq_of_beq hE
      try (have hbits := HBT.out (by revert hE; cases GA <;> simp))
      have HE := Lib.hid hE
      clear hE hG0
      simp only [Oper.wp, execOp]
      go_simp
      refine Nxt.mk _ rfl (fun _ _ => ?_) hS (fun _ _ h => h)
      (rw [hV.out]; exact (onlyIf_pos HE.out).symm)
    · intro a W hd hS hdep hfree
      have x52 : a.tmps.getD 52 undef = .bool (((((GA && GB) && ((xKindA == 0) || (xKindA == xKindB))) && (decide (xSrcBitsA ≤ xSrcBitsB))) && (xSrcIpA / 2 ^ (32 - xSrcBitsA).toNat == xSrcIpB / 2 ^ (32 - xSrcBitsA).toNat)) && (decide (xFirstPortA ≤ xFirstPortB))) := by have h := hdep 47 52 (by kernel_rfl) rfl; rw [hV.out] at h; exact h
      have x55 : a.tmps.getD 55 undef = onlyIf ((((((GA && GB) && ((xKindA == 0) || (xKindA == xKindB))) && (decide (xSrcBitsA ≤ xSrcBitsB))) && (xSrcIpA / 2 ^ (32 - xSrcBitsA).toNat == xSrcIpB / 2 ^ (32 - xSrcBitsA).toNat)) && (decide (xFirstPortA ≤ xFirstPortB))) == true) (.pointer (some ⟨w.heap.size, 5, none⟩)) := by have h := hdep 50 55 (by kernel_rfl) rfl; rw [hV.out] at h; exact h
      clear hd hdep hfree
      rcases (Bool.eq_false_or_eq_true (((((((GA && GB) && ((xKindA == 0) || (xKindA == xKindB))) && (decide (xSrcBitsA ≤ xSrcBitsB))) && (xSrcIpA / 2 ^ (32 - xSrcBitsA).toNat == xSrcIpB / 2 ^ (32 - xSrcBitsA).toNat)) && (decide (xFirstPortA ≤ xFirstPortB))) == true))).symm with hE | hE
      · exact .inr ⟨(wanted_sym rfl rfl x52).trans hE, fun _ _ => by rw [hV.out]; exact (onlyIf_neg hE).symm⟩
      refine .inl ⟨(wanted_sym rfl rfl x52).trans hE, ?_⟩
      replace x55 := x55.trans (onlyIf_pos hE)
      have hG0 := eq_of_beq hE
      try (have hbits := HBT.out (by revert hE; cases GA <;> simp))
      have HE := Lib.hid hE
      clear hE hG0
      have c0 : W.cell? ⟨w.heap.size, 5, none⟩ = some (.int .i64 xLastPortA) := (HB1.out.below hS hg1).cell 5 (by simp)
      simp only [Oper.wp, execOp]
      go_simp
      refine Nxt.mk _ rfl (fun _ _ => ?_) hS (fun _ _ h => h)
      (rw [hV.out]; exact (onlyIf_pos HE.out).symm)
    · intro a W hd hS hdep hfree
      have x52 : a.tmps.getD 52 undef = .bool (((((GA && GB) && ((xKindA == 0) || (xKindA == xKindB))) && (decide (xSrcBitsA ≤ xSrcBitsB))) && (xSrcIpA / 2 ^ (32 - xSrcBitsA).toNat == xSrcIpB / 2 ^ (32 - xSrcBitsA).toNat)) && (decide (xFirstPortA ≤ xFirstPortB))) := by have h := hdep 47 52 (by kernel_rfl) rfl; rw [hV.out] at h; exact h
      have x54 : a.tmps.getD 54 undef = onlyIf ((((((GA && GB) && ((xKindA == 0) || (xKindA == xKindB))) && (decide (xSrcBitsA ≤ xSrcBitsB))) && (xSrcIpA / 2 ^ (32 - xSrcBitsA).toNat == xSrcIpB / 2 ^ (32 - xSrcBitsA).toNat)) && (decide (xFirstPortA ≤ xFirstPortB))) == true) (.int .i64 xLastPortB) := by have h := hdep 49 54 (by kernel_rfl) rfl; rw [hV.out] at h; exact h
      have x56 : a.tmps.getD 56 undef = onlyIf ((((((GA && GB) && ((xKindA == 0) || (xKindA == xKindB))) && (decide (xSrcBitsA ≤ xSrcBitsB))) && (xSrcIpA / 2 ^ (32 - xSrcBitsA).toNat == xSrcIpB / 2 ^ (32 - xSrcBitsA).toNat)) && (decide (xFirstPortA ≤ xFirstPortB))) == true) (.int .i64 xLastPortA) := by have h := hdep 51 56 (by kernel_rfl) rfl; rw [hV.out] at h; exact h
      clear hd hdep hfree
      rcases (Bool.eq_false_or_eq_true (((((((GA && GB) && ((xKindA == 0) || (xKindA == xKindB))) && (decide (xSrcBitsA ≤ xSrcBitsB))) && (xSrcIpA / 2 ^ (32 - xSrcBitsA).toNat == xSrcIpB / 2 ^ (32 - xSrcBitsA).toNat)) && (decide (xFirstPortA ≤ xFirstPortB))) == true))).symm with hE | hE
      · exact .inr ⟨(wanted_sym rfl rfl x52).trans hE, fun _ _ => by rw [hV.out]; exact (onlyIf_neg hE).symm⟩
      refine .inl ⟨(wanted_sym rfl rfl x52).trans hE, ?_⟩
      replace x54 := x54.trans (onlyIf_pos hE)
      replace x56 := x56.trans (onlyIf_pos hE)
      have hG0 := eq_of_beq hE
      try (have hbits := HBT.out (by revert hE; cases GA <;> simp))
      have HE := Lib.hid hE
      clear hE hG0
      simp only [Oper.wp, execOp]
      go_simp
      refine Nxt.mk _ rfl (fun _ _ => ?_) hS (fun _ _ h => h)
      rw [hV.out]; first | exact (onlyIf_pos HE.out).symm | (show (_ : Value) = onlyIf _ _; rw [onlyIf_pos HE.out]; simp)
    · intro a W hd hS hdep hfree
      have x52 : a.tmps.getD 52 undef = .bool (((((GA && GB) && ((xKindA == 0) || (xKindA == xKindB))) && (decide (xSrcBitsA ≤ xSrcBitsB))) && (xSrcIpA / 2 ^ (32 - xSrcBitsA).toNat == xSrcIpB / 2 ^ (32 - xSrcBitsA).toNat)) && (decide (xFirstPortA ≤ xFirstPortB))) := by have h := hdep 47 52 (by kernel_rfl) rfl; rw [hV.out] at h; exact h
      have x57 : a.tmps.getD 57 undef = onlyIf ((((((GA && GB) && ((xKindA == 0) || (xKindA == xKindB))) && (decide (xSrcBitsA ≤ xSrcBitsB))) && (xSrcIpA / 2 ^ (32 - xSrcBitsA).toNat == xSrcIpB / 2 ^ (32 - xSrcBitsA).toNat)) && (decide (xFirstPortA ≤ xFirstPortB))) == true) (.bool (decide (xLastPortB ≤ xLastPortA))) := by have h := hdep 52 57 (by kernel_rfl) rfl; rw [hV.out] at h; exact h
      clear hd hdep hfree
      refine .inl ⟨wanted_free rfl, ?_⟩
      rcases (Bool.eq_false_or_eq_true ((((((GA && GB) && ((xKindA == 0) || (xKindA == xKindB))) && (decide (xSrcBitsA ≤ xSrcBitsB))) && (xSrcIpA / 2 ^ (32 - xSrcBitsA).toNat == xSrcIpB / 2 ^ (32 - xSrcBitsA).toNat)) && (decide (xFirstPortA ≤ xFirstPortB))))).symm with hX | hX
      · rw [hX] at x52
        replace hX := Lib.hid hX
        simp only [Oper.wp, execOp]
        go_simp
        refine Nxt.mk _ rfl (fun _ _ => ?_) hS (fun _ _ h => h)
        rw [hV.out]; show (_ : Value) = .bool _; rw [hX.out]; rfl
      · have hp : ((((((GA && GB) && ((xKindA == 0) || (xKindA == xKindB))) && (decide (xSrcBitsA ≤ xSrcBitsB))) && (xSrcIpA / 2 ^ (32 - xSrcBitsA).toNat == xSrcIpB / 2 ^ (32 - xSrcBitsA).toNat)) && (decide (xFirstPortA ≤ xFirstPortB))) == true) = true := by simp [hX]
        replace x57 := x57.trans (onlyIf_pos hp)
        rw [hX] at x52
        replace hX := Lib.hid hX
        simp only [Oper.wp, execOp]
        go_simp
        refine Nxt.mk _ rfl (fun _ _ => ?_) hS (fun _ _ h => h)
        rw [hV.out]; show (_ : Value) = .bool _; rw [hX.out]; rfl
    · intro a W hd hS hdep hfree
      have x58 : a.tmps.getD 58 undef = .bool ((((((GA && GB) && ((xKindA == 0) || (xKindA == xKindB))) && (decide (xSrcBitsA ≤ xSrcBitsB))) && (xSrcIpA / 2 ^ (32 - xSrcBitsA).toNat == xSrcIpB / 2 ^ (32 - xSrcBitsA).toNat)) && (decide (xFirstPortA ≤ xFirstPortB))) && (decide (xLastPortB ≤ xLastPortA))) := by have h := hdep 53 58 (by kernel_rfl) rfl; rw [hV.out] at h; exact h
      clear hd hdep hfree
      refine .inl ⟨wanted_free rfl, ?_⟩
      simp only [Oper.wp, execOp]
      go_simp
      refine Nxt.mk _ rfl (fun _ _ => ?_) hS (fun _ _ h => h)
      (rw [hV.out]; rfl)
    · intro a W hd hS hdep hfree
      have x59 : a.tmps.getD 59 undef = .bool ((((((GA && GB) && ((xKindA == 0) || (xKindA == xKindB))) && (decide (xSrcBitsA ≤ xSrcBitsB))) && (xSrcIpA / 2 ^ (32 - xSrcBitsA).toNat == xSrcIpB / 2 ^ (32 - xSrcBitsA).toNat)) && (decide (xFirstPortA ≤ xFirstPortB))) && (decide (xLastPortB ≤ xLastPortA))) := by have h := hdep 54 59 (by kernel_rfl) rfl; rw [hV.out] at h; exact h
      have x2 : a.tmps.getD 2 undef = .pointer (some ⟨w.heap.size, 0, none⟩) := hfree 2 (by kernel_rfl)
      clear hd hdep hfree
      rcases (Bool.eq_false_or_eq_true ((((((((GA && GB) && ((xKindA == 0) || (xKindA == xKindB))) && (decide (xSrcBitsA ≤ xSrcBitsB))) && (xSrcIpA / 2 ^ (32 - xSrcBitsA).toNat == xSrcIpB / 2 ^ (32 - xSrcBitsA).toNat)) && (decide (xFirstPortA ≤ xFirstPortB))) && (decide (xLastPortB ≤ xLastPortA))) == true))).symm with hE | hE
      · exact .inr ⟨(wanted_sym rfl rfl x59).trans hE, fun _ _ => by rw [hV.out]; exact (onlyIf_neg hE).symm⟩
      refine .inl ⟨(wanted_sym rfl rfl x59).trans hE, ?_⟩
      have hG0 := eq_of_beq hE
      try (have hbits := HBT.out (by revert hE; cases GA <;> simp))
      have HE := Lib.hid hE
      clear hE hG0
      simp only [Oper.wp, execOp]
      go_simp
      refine Nxt.mk _ rfl (fun _ _ => ?_) hS (fun _ _ h => h)
      (rw [hV.out]; exact (onlyIf_pos HE.out).symm)
    · intro a W hd hS hdep hfree
      have x59 : a.tmps.getD 59 undef = .bool ((((((GA && GB) && ((xKindA == 0) || (xKindA == xKindB))) && (decide (xSrcBitsA ≤ xSrcBitsB))) && (xSrcIpA / 2 ^ (32 - xSrcBitsA).toNat == xSrcIpB / 2 ^ (32 - xSrcBitsA).toNat)) && (decide (xFirstPortA ≤ xFirstPortB))) && (decide (xLastPortB ≤ xLastPortA))) := by have h := hdep 54 59 (by kernel_rfl) rfl; rw [hV.out] at h; exact h
      have x60 : a.tmps.getD 60 undef = onlyIf (((((((GA && GB) && ((xKindA == 0) || (xKindA == xKindB))) && (decide (xSrcBitsA ≤ xSrcBitsB))) && (xSrcIpA / 2 ^ (32 - xSrcBitsA).toNat == xSrcIpB / 2 ^ (32 - xSrcBitsA).toNat)) && (decide (xFirstPortA ≤ xFirstPortB))) && (decide (xLastPortB ≤ xLastPortA))) == true) (.pointer (some ⟨w.heap.size, 6, none⟩)) := by have h := hdep 55 60 (by kernel_rfl) rfl; rw [hV.out] at h; exact h
      clear hd hdep hfree
      rcases (Bool.eq_false_or_eq_true ((((((((GA && GB) && ((xKindA == 0) || (xKindA == xKindB))) && (decide (xSrcBitsA ≤ xSrcBitsB))) && (xSrcIpA / 2 ^ (32 - xSrcBitsA).toNat == xSrcIpB / 2 ^ (32 - xSrcBitsA).toNat)) && (decide (xFirstPortA ≤ xFirstPortB))) && (decide (xLastPortB ≤ xLastPortA))) == true))).symm with hE | hE
      · exact .inr ⟨(wanted_sym rfl rfl x59).trans hE, fun _ _ => by rw [hV.out]; exact (onlyIf_neg hE).symm⟩
      refine .inl ⟨(wanted_sym rfl rfl x59).trans hE, ?_⟩
      replace x60 := x60.trans (onlyIf_pos hE)
      have hG0 := eq_of_beq hE
      try (have hbits := HBT.out (by revert hE; cases GA <;> simp))
      have HE := Lib.hid hE
      clear hE hG0
      have c0 : W.cell? ⟨w.heap.size, 6, none⟩ = some (.int .i64 xVlanA) := (HB1.out.below hS hg1).cell 6 (by simp)
      simp only [Oper.wp, execOp]
      go_simp
      refine Nxt.mk _ rfl (fun _ _ => ?_) hS (fun _ _ h => h)
      (rw [hV.out]; exact (onlyIf_pos HE.out).symm)
    · intro a W hd hS hdep hfree
      have x59 : a.tmps.getD 59 undef = .bool ((((((GA && GB) && ((xKindA == 0) || (xKindA == xKindB))) && (decide (xSrcBitsA ≤ xSrcBitsB))) && (xSrcIpA / 2 ^ (32 - xSrcBitsA).toNat == xSrcIpB / 2 ^ (32 - xSrcBitsA).toNat)) && (decide (xFirstPortA ≤ xFirstPortB))) && (decide (xLastPortB ≤ xLastPortA))) := by have h := hdep 54 59 (by kernel_rfl) rfl; rw [hV.out] at h; exact h
      have x61 : a.tmps.getD 61 undef = onlyIf (((((((GA && GB) && ((xKindA == 0) || (xKindA == xKindB))) && (decide (xSrcBitsA ≤ xSrcBitsB))) && (xSrcIpA / 2 ^ (32 - xSrcBitsA).toNat == xSrcIpB / 2 ^ (32 - xSrcBitsA).toNat)) && (decide (xFirstPortA ≤ xFirstPortB))) && (decide (xLastPortB ≤ xLastPortA))) == true) (.int .i64 xVlanA) := by have h := hdep 56 61 (by kernel_rfl) rfl; rw [hV.out] at h; exact h
      clear hd hdep hfree
      rcases (Bool.eq_false_or_eq_true ((((((((GA && GB) && ((xKindA == 0) || (xKindA == xKindB))) && (decide (xSrcBitsA ≤ xSrcBitsB))) && (xSrcIpA / 2 ^ (32 - xSrcBitsA).toNat == xSrcIpB / 2 ^ (32 - xSrcBitsA).toNat)) && (decide (xFirstPortA ≤ xFirstPortB))) && (decide (xLastPortB ≤ xLastPortA))) == true))).symm with hE | hE
      · exact .inr ⟨(wanted_sym rfl rfl x59).trans hE, fun _ _ => by rw [hV.out]; exact (onlyIf_neg hE).symm⟩
      refine .inl ⟨(wanted_sym rfl rfl x59).trans hE, ?_⟩
      replace x61 := x61.trans (onlyIf_pos hE)
      have hG0 := eq_of_beq hE
      try (have hbits := HBT.out (by revert hE; cases GA <;> simp))
      have HE := Lib.hid hE
      clear hE hG0
      simp only [Oper.wp, execOp]
      go_simp
      refine Nxt.mk _ rfl (fun _ _ => ?_) hS (fun _ _ h => h)
      rw [hV.out]; first | exact (onlyIf_pos HE.out).symm | (show (_ : Value) = onlyIf _ _; rw [onlyIf_pos HE.out]; simp)
    · intro a W hd hS hdep hfree
      have x59 : a.tmps.getD 59 undef = .bool ((((((GA && GB) && ((xKindA == 0) || (xKindA == xKindB))) && (decide (xSrcBitsA ≤ xSrcBitsB))) && (xSrcIpA / 2 ^ (32 - xSrcBitsA).toNat == xSrcIpB / 2 ^ (32 - xSrcBitsA).toNat)) && (decide (xFirstPortA ≤ xFirstPortB))) && (decide (xLastPortB ≤ xLastPortA))) := by have h := hdep 54 59 (by kernel_rfl) rfl; rw [hV.out] at h; exact h
      have x62 : a.tmps.getD 62 undef = onlyIf (((((((GA && GB) && ((xKindA == 0) || (xKindA == xKindB))) && (decide (xSrcBitsA ≤ xSrcBitsB))) && (xSrcIpA / 2 ^ (32 - xSrcBitsA).toNat == xSrcIpB / 2 ^ (32 - xSrcBitsA).toNat)) && (decide (xFirstPortA ≤ xFirstPortB))) && (decide (xLastPortB ≤ xLastPortA))) == true) (.bool (xVlanA == (-2))) := by have h := hdep 57 62 (by kernel_rfl) rfl; rw [hV.out] at h; exact h
      clear hd hdep hfree
      rcases (Bool.eq_false_or_eq_true ((((((((GA && GB) && ((xKindA == 0) || (xKindA == xKindB))) && (decide (xSrcBitsA ≤ xSrcBitsB))) && (xSrcIpA / 2 ^ (32 - xSrcBitsA).toNat == xSrcIpB / 2 ^ (32 - xSrcBitsA).toNat)) && (decide (xFirstPortA ≤ xFirstPortB))) && (decide (xLastPortB ≤ xLastPortA))) == true))).symm with hE | hE
      · exact .inr ⟨(wanted_sym rfl rfl x59).trans hE, fun _ _ => by rw [hV.out]; exact (onlyIf_neg hE).symm⟩
      refine .inl ⟨(wanted_sym rfl rfl x59).trans hE, ?_⟩
      replace x62 := x62.trans (onlyIf_pos hE)
      have hG0 := eq_of_beq hE
      try (have hbits := HBT.out (by revert hE; cases GA <;> simp))
      have HE := Lib.hid hE
      clear hE hG0
      simp only [Oper.wp, execOp]
      go_simp
      refine Nxt.mk _ rfl (fun _ _ => ?_) hS (fun _ _ h => h)
      (rw [hV.out]; exact (onlyIf_pos HE.out).symm)
    · intro a W hd hS hdep hfree
      have x63 : a.tmps.getD 63 undef = onlyIf (((((((GA && GB) && ((xKindA == 0) || (xKindA == xKindB))) && (decide (xSrcBitsA ≤ xSrcBitsB))) && (xSrcIpA / 2 ^ (32 - xSrcBitsA).toNat == xSrcIpB / 2 ^ (32 - xSrcBitsA).toNat)) && (decide (xFirstPortA ≤ xFirstPortB))) && (decide (xLastPortB ≤ xLastPortA))) == true) (.bool (xVlanA == (-2))) := by have h := hdep 58 63 (by kernel_rfl) rfl; rw [hV.out] at h; exact h
      have x2 : a.tmps.getD 2 undef = .pointer (some ⟨w.heap.size, 0, none⟩) := hfree 2 (by kernel_rfl)
      clear hd hdep hfree
      rcases (Bool.eq_false_or_eq_true (((((((((GA && GB) && ((xKindA == 0) || (xKindA == xKindB))) && (decide (xSrcBitsA ≤ xSrcBitsB))) && (xSrcIpA / 2 ^ (32 - xSrcBitsA).toNat == xSrcIpB / 2 ^ (32 - xSrcBitsA).toNat)) && (decide (xFirstPortA ≤ xFirstPortB))) && (decide (xLastPortB ≤ xLastPortA))) == true) && ((xVlanA == (-2)) == false)))).symm with hE | hE
      · exact .inr ⟨(wanted_cond rfl rfl x63).trans hE, fun _ _ => by rw [hV.out]; exact (onlyIf_neg hE).symm⟩
      refine .inl ⟨(wanted_cond rfl rfl x63).trans hE, ?_⟩
      have hC1 : (((((((GA && GB) && ((xKindA == 0) || (xKindA == xKindB))) && (decide (xSrcBitsA ≤ xSrcBitsB))) && (xSrcIpA / 2 ^ (32 - xSrcBitsA).toNat == xSrcIpB / 2 ^ (32 - xSrcBitsA).toNat)) && (decide (xFirstPortA ≤ xFirstPortB))) && (decide (xLastPortB ≤ xLastPortA))) == true) = true := and_l hE
      replace x63 := x63.trans (onlyIf_pos hC1)
      have hG0 := eq_of_beq hC1
      have hG1 := eq_of_beq (and_r hE)
      try (have hbits := HBT.out (by revert hE; cases GA <;> simp))
      have HE := Lib.hid hE
      clear hE hC1 hG0 hG1
      simp only [Oper.wp, execOp]
      go_simp
      refine Nxt.mk _ rfl (fun _ _ => ?_) hS (fun _ _ h => h)
      (rw [hV.out]; exact (onlyIf_pos HE.out).symm)
    · intro a W hd hS hdep hfree
      have x63 : a.tmps.getD 63 undef = onlyIf (((((((GA && GB) && ((xKindA == 0) || (xKindA == xKindB))) && (decide (xSrcBitsA ≤ xSrcBitsB))) && (xSrcIpA / 2 ^ (32 - xSrcBitsA).toNat == xSrcIpB / 2 ^ (32 - xSrcBitsA).toNat)) && (decide (xFirstPortA ≤ xFirstPortB))) && (decide (xLastPortB ≤ xLastPortA))) == true) (.bool (xVlanA == (-2))) := by have h := hdep 58 63 (by kernel_rfl) rfl; rw [hV.out] at h; exact h
      have x64 : a.tmps.getD 64 undef = onlyIf ((((((((GA && GB) && ((xKindA == 0) || (xKindA == xKindB))) && (decide (xSrcBitsA ≤ xSrcBitsB))) && (xSrcIpA / 2 ^ (32 - xSrcBitsA).toNat == xSrcIpB / 2 ^ (32 - xSrcBitsA).toNat)) && (decide (xFirstPortA ≤ xFirstPortB))) && (decide (xLastPortB ≤ xLastPortA))) == true) && ((xVlanA == (-2)) == false)) (.pointer (some ⟨w.heap.size, 6, none⟩)) := by have h := hdep 59 64 (by kernel_rfl) rfl; rw [hV.out] at h; exact h
      clear hd hdep hfree
      rcases (Bool.eq_false_or_eq_true (((((((((GA && GB) && ((xKindA == 0) || (xKindA == xKindB))) && (decide (xSrcBitsA ≤ xSrcBitsB))) && (xSrcIpA / 2 ^ (32 - xSrcBitsA).toNat == xSrcIpB / 2 ^ (32 - xSrcBitsA).toNat)) && (decide (xFirstPortA ≤ xFirstPortB))) && (decide (xLastPortB ≤ xLastPortA))) == true) && ((xVlanA == (-2)) == false)))).symm with hE | hE
      · exact .inr ⟨(wanted_cond rfl rfl x63).trans hE, fun _ _ => by rw [hV.out]; exact (onlyIf_neg hE).symm⟩
      refine .inl ⟨(wanted_cond rfl rfl x63).trans hE, ?_⟩
      have hC1 : (((((((GA && GB) && ((xKindA == 0) || (xKindA == xKindB))) && (decide (xSrcBitsA ≤ xSrcBitsB))) && (xSrcIpA / 2 ^ (32 - xSrcBitsA).toNat == xSrcIpB / 2 ^ (32 - xSrcBitsA).toNat)) && (decide (xFirstPortA ≤ xFirstPortB))) && (decide (xLastPortB ≤ xLastPortA))) == true) = true := and_l hE
      replace x63 := x63.trans (onlyIf_pos hC1)
      replace x64 := x64.trans (onlyIf_pos hE)
      have hG0 := eq_of_beq hC1
      have hG1 := eq_of_beq (and_r hE)
      try (have hbits := HBT.out (by revert hE; cases GA <;> simp))
      have HE := Lib.hid hE
      clear hE hC1 hG0 hG1
      have c0 : W.cell? ⟨w.heap.size, 6, none⟩ = some (.int .i64 xVlanA) := (HB1.out.below hS hg1).cell 6 (by simp)
      simp only [Oper.wp, execOp]
      go_simp
      refine Nxt.mk _ rfl (fun _ _ => ?_) hS (fun _ _ h => h)
      (rw [hV.out]; exact (onlyIf_pos HE.out).symm)
    · intro a W hd hS hdep hfree
      have x63 : a.tmps.getD 63 undef = onlyIf (((((((GA && GB) && ((xKindA == 0) || (xKindA == xKindB))) && (decide (xSrcBitsA ≤ xSrcBitsB))) && (xSrcIpA / 2 ^ (32 - xSrcBitsA).toNat == xSrcIpB / 2 ^ (32 - xSrcBitsA).toNat)) && (decide (xFirstPortA ≤ xFirstPortB))) && (decide (xLastPortB ≤ xLastPortA))) == true) (.bool (xVlanA == (-2))) := by have h := hdep 58 63 (by kernel_rfl) rfl; rw [hV.out] at h; exact h
      have x3 : a.tmps.getD 3 undef = .pointer (some ⟨w.heap.size + 1, 0, none⟩) := hfree 3 (by kernel_rfl)
      clear hd hdep hfree
      rcases (Bool.eq_false_or_eq_true (((((((((GA && GB) && ((xKindA == 0) || (xKindA == xKindB))) && (decide (xSrcBitsA ≤ xSrcBitsB))) && (xSrcIpA / 2 ^ (32 - xSrcBitsA).toNat == xSrcIpB / 2 ^ (32 - xSrcBitsA).toNat)) && (decide (xFirstPortA ≤ xFirstPortB))) && (decide (xLastPortB ≤ xLastPortA))) == true) && ((xVlanA == (-2)) == false)))).symm with hE | hE
      · exact .inr ⟨(wanted_cond rfl rfl x63).trans hE, fun _ _ => by rw [hV.out]; exact (onlyIf_neg hE).symm⟩
      refine .inl ⟨(wanted_cond rfl rfl x63).trans hE, ?_⟩
      have hC1 : (((((((GA && GB) && ((xKindA == 0) || (xKindA == xKindB))) && (decide (xSrcBitsA ≤ xSrcBitsB))) && (xSrcIpA / 2 ^ (32 - xSrcBitsA).toNat == xSrcIpB / 2 ^ (32 - xSrcBitsA).toNat)) && (decide (xFirstPortA ≤ xFirstPortB))) && (decide (xLastPortB ≤ xLastPortA))) == true) = true := and_l hE
      replace x63 := x63.trans (onlyIf_pos hC1)
      have hG0 := eq_of_beq hC1
      have hG1 := eq_of_beq (and_r hE)
      try (have hbits := HBT.out (by revert hE; cases GA <;> simp))
      have HE := Lib.hid hE
      clear hE hC1 hG0 hG1
      simp only [Oper.wp, execOp]
      go_simp
      refine Nxt.mk _ rfl (fun _ _ => ?_) hS (fun _ _ h => h)
      (rw [hV.out]; exact (onlyIf_pos HE.out).symm)
    · intro a W hd hS hdep hfree
      have x63 : a.tmps.getD 63 undef = onlyIf (((((((GA && GB) && ((xKindA == 0) || (xKindA == xKindB))) && (decide (xSrcBitsA ≤ xSrcBitsB))) && (xSrcIpA / 2 ^ (32 - xSrcBitsA).toNat == xSrcIpB / 2 ^ (32 - xSrcBitsA).toNat)) && (decide (xFirstPortA ≤ xFirstPortB))) && (decide (xLastPortB ≤ xLastPortA))) == true) (.bool (xVlanA == (-2))) := by have h := hdep 58 63 (by kernel_rfl) rfl; rw [hV.out] at h; exact h
      have x66 : a.tmps.getD 66 undef = onlyIf ((((((((GA && GB) && ((xKindA == 0) || (xKindA == xKindB))) && (decide (xSrcBitsA ≤ xSrcBitsB))) && (xSrcIpA / 2 ^ (32 - xSrcBitsA).toNat == xSrcIpB / 2 ^ (32 - xSrcBitsA).toNat)) && (decide (xFirstPortA ≤ xFirstPortB))) && (decide (xLastPortB ≤ xLastPortA))) == true) && ((xVlanA == (-2)) == false)) (.pointer (some ⟨w.heap.size + 1, 6, none⟩)) := by have h := hdep 61 66 (by kernel_rfl) rfl; rw [hV.out] at h; exact h
      clear hd hdep hfree
      rcases (Bool.eq_false_or_eq_true (((((((((GA && GB) && ((xKindA == 0) || (xKindA == xKindB))) && (decide (xSrcBitsA ≤ xSrcBitsB))) && (xSrcIpA / 2 ^ (32 - xSrcBitsA).toNat == xSrcIpB / 2 ^ (32 - xSrcBitsA).toNat)) && (decide (xFirstPortA ≤ xFirstPortB))) && (decide (xLastPortB ≤ xLastPortA))) == true) && ((xVlanA == (-2)) == false)))).symm with hE | hE
      · exact .inr ⟨(wanted_cond rfl rfl x63).trans hE, fun _ _ => by rw [hV.out]; exact (onlyIf_neg hE).symm⟩
      refine .inl ⟨(wanted_cond rfl rfl x63).trans hE, ?_⟩
      have hC1 : (((((((GA && GB) && ((xKindA == 0) || (xKindA == xKindB))) && (decide (xSrcBitsA ≤ xSrcBitsB))) && (xSrcIpA / 2 ^ (32 - xSrcBitsA).toNat == xSrcIpB / 2 ^ (32 - xSrcBitsA).toNat)) && (decide (xFirstPortA ≤ xFirstPortB))) && (decide (xLastPortB ≤ xLastPortA))) == true) = true := and_l hE
      replace x63 := x63.trans (onlyIf_pos hC1)
      replace x66 := x66.trans (onlyIf_pos hE)
      have hG0 := eq_of_beq hC1
      have hG1 := eq_of_beq (and_r hE)
      try (have hbits := HBT.out (by revert hE; cases GA <;> simp))
      have HE := Lib.hid hE
      clear hE hC1 hG0 hG1
      have c0 : W.cell? ⟨w.heap.size + 1, 6, none⟩ = some (.int .i64 xVlanB) := (HB2.out.below hS hg2).cell 6 (by simp)
      simp only [Oper.wp, execOp]
      go_simp
      refine Nxt.mk _ rfl (fun _ _ => ?_) hS (fun _ _ h => h)
      (rw [hV.out]; exact (onlyIf_pos HE.out).symm)
    · intro a W hd hS hdep hfree
      have x63 : a.tmps.getD 63 undef = onlyIf (((((((GA && GB) && ((xKindA == 0) || (xKindA == xKindB))) && (decide (xSrcBitsA ≤ xSrcBitsB))) && (xSrcIpA / 2 ^ (32 - xSrcBitsA).toNat == xSrcIpB / 2 ^ (32 - xSrcBitsA).toNat)) && (decide (xFirstPortA ≤ xFirstPortB))) && (decide (xLastPortB ≤ xLastPortA))) == true) (.bool (xVlanA == (-2))) := by have h := hdep 58 63 (by kernel_rfl) rfl; rw [hV.out] at h; exact h
      have x65 : a.tmps.getD 65 undef = onlyIf ((((((((GA && GB) && ((xKindA == 0) || (xKindA == xKindB))) && (decide (xSrcBitsA ≤ xSrcBitsB))) && (xSrcIpA / 2 ^ (32 - xSrcBitsA).toNat == xSrcIpB / 2 ^ (32 - xSrcBitsA).toNat)) && (decide (xFirstPortA ≤ xFirstPortB))) && (decide (xLastPortB ≤ xLastPortA))) == true) && ((xVlanA == (-2)) == false)) (.int .i64 xVlanA) := by have h := hdep 60 65 (by kernel_rfl) rfl; rw [hV.out] at h; exact h
      have x67 : a.tmps.getD 67 undef = onlyIf ((((((((GA && GB) && ((xKindA == 0) || (xKindA == xKindB))) && (decide (xSrcBitsA ≤ xSrcBitsB))) && (xSrcIpA / 2 ^ (32 - xSrcBitsA).toNat == xSrcIpB / 2 ^ (32 - xSrcBitsA).toNat)) && (decide (xFirstPortA ≤ xFirstPortB))) && (decide (xLastPortB ≤ xLastPortA))) == true) && ((xVlanA == (-2)) == false)) (.int .i64 xVlanB) := by have h := hdep 62 67 (by kernel_rfl) rfl; rw [hV.out] at h; exact h
      clear hd hdep hfree
      rcases (Bool.eq_false_or_eq_true (((((((((GA && GB) && ((xKindA == 0) || (xKindA == xKindB))) && (decide (xSrcBitsA ≤ xSrcBitsB))) && (xSrcIpA / 2 ^ (32 - xSrcBitsA).toNat == xSrcIpB / 2 ^ (32 - xSrcBitsA).toNat)) && (decide (xFirstPortA ≤ xFirstPortB))) && (decide (xLastPortB ≤ xLastPortA))) == true) && ((xVlanA == (-2)) == false)))).symm with hE | hE
      · exact .inr ⟨(wanted_cond rfl rfl x63).trans hE, fun _ _ => by rw [hV.out]; exact (onlyIf_neg hE).symm⟩
      refine .inl ⟨(wanted_cond rfl rfl x63).trans hE, ?_⟩
      have hC1 : (((((((GA && GB) && ((xKindA == 0) || (xKindA == xKindB))) && (decide (xSrcBitsA ≤ xSrcBitsB))) && (xSrcIpA / 2 ^ (32 - xSrcBitsA).toNat == xSrcIpB / 2 ^ (32 - xSrcBitsA).toNat)) && (decide (xFirstPortA ≤ xFirstPortB))) && (decide (xLastPortB ≤ xLastPortA))) == true) = true := and_l hE
      replace x63 := x63.trans (onlyIf_pos hC1)
      replace x65 := x65.trans (onlyIf_pos hE)
      replace x67 := x67.trans (onlyIf_pos hE)
      have hG0 := eq_of_beq hC1
      have hG1 := eq_of_beq (and_r hE)
      try (have hbits := HBT.out (by revert hE; cases GA <;> simp))
      have HE := Lib.hid hE
      clear hE hC1 hG0 hG1
      simp only [Oper.wp, execOp]
      go_simp
      refine Nxt.mk _ rfl (fun _ _ => ?_) hS (fun _ _ h => h)
      rw [hV.out]; first | exact (onlyIf_pos HE.out).symm | (show (_ : Value) = onlyIf _ _; rw [onlyIf_pos HE.out]; simp)
    · intro a W hd hS hdep hfree
      have x59 : a.tmps.getD 59 undef = .bool ((((((GA && GB) && ((xKindA == 0) || (xKindA == xKindB))) && (decide (xSrcBitsA ≤ xSrcBitsB))) && (xSrcIpA / 2 ^ (32 - xSrcBitsA).toNat == xSrcIpB / 2 ^ (32 - xSrcBitsA).toNat)) && (decide (xFirstPortA ≤ xFirstPortB))) && (decide (xLastPortB ≤ xLastPortA))) := by have h := hdep 54 59 (by kernel_rfl) rfl; rw [hV.out] at h; exact h
      have x63 : a.tmps.getD 63 undef = onlyIf (((((((GA && GB) && ((xKindA == 0) || (xKindA == xKindB))) && (decide (xSrcBitsA ≤ xSrcBitsB))) && (xSrcIpA / 2 ^ (32 - xSrcBitsA).toNat == xSrcIpB / 2 ^ (32 - xSrcBitsA).toNat)) && (decide (xFirstPortA ≤ xFirstPortB))) && (decide (xLastPortB ≤ xLastPortA))) == true) (.bool (xVlanA == (-2))) := by have h := hdep 58 63 (by kernel_rfl) rfl; rw [hV.out] at h; exact h
      have x68 : a.tmps.getD 68 undef = onlyIf ((((((((GA && GB) && ((xKindA == 0) || (xKindA == xKindB))) && (decide (xSrcBitsA ≤ xSrcBitsB))) && (xSrcIpA / 2 ^ (32 - xSrcBitsA).toNat == xSrcIpB / 2 ^ (32 - xSrcBitsA).toNat)) && (decide (xFirstPortA ≤ xFirstPortB))) && (decide (xLastPortB ≤ xLastPortA))) == true) && ((xVlanA == (-2)) == false)) (.bool (xVlanA == xVlanB)) := by have h := hdep 63 68 (by kernel_rfl) rfl; rw [hV.out] at h; exact h
      clear hd hdep hfree
      rcases (Bool.eq_false_or_eq_true ((((((((GA && GB) && ((xKindA == 0) || (xKindA == xKindB))) && (decide (xSrcBitsA ≤ xSrcBitsB))) && (xSrcIpA / 2 ^ (32 - xSrcBitsA).toNat == xSrcIpB / 2 ^ (32 - xSrcBitsA).toNat)) && (decide (xFirstPortA ≤ xFirstPortB))) && (decide (xLastPortB ≤ xLastPortA))) == true))).symm with hE | hE
      · exact .inr ⟨(wanted_sym rfl rfl x59).trans hE, fun _ _ => by rw [hV.out]; exact (onlyIf_neg hE).symm⟩
      refine .inl ⟨(wanted_sym rfl rfl x59).trans hE, ?_⟩
      replace x63 := x63.trans (onlyIf_pos hE)
      have hG0 := eq_of_beq hE
      try (have hbits := HBT.out (by revert hE; cases GA <;> simp))
      have HE := Lib.hid hE
      clear hE hG0
      rcases (Bool.eq_false_or_eq_true ((xVlanA == (-2)))).symm with hX | hX
      · have hp : ((((((((GA && GB) && ((xKindA == 0) || (xKindA == xKindB))) && (decide (xSrcBitsA ≤ xSrcBitsB))) && (xSrcIpA / 2 ^ (32 - xSrcBitsA).toNat == xSrcIpB / 2 ^ (32 - xSrcBitsA).toNat)) && (decide (xFirstPortA ≤ xFirstPortB))) && (decide (xLastPortB ≤ xLastPortA))) == true) && ((xVlanA == (-2)) == false)) = true := by have hE := HE.out; first | simp [hX, hE] | (rw [hE, hX]; rfl) | simp_all
        replace x68 := x68.trans (onlyIf_pos hp)
        rw [hX] at x63
        replace hX := Lib.hid hX
        simp only [Oper.wp, execOp]
        go_simp
        refine Nxt.mk _ rfl (fun _ _ => ?_) hS (fun _ _ h => h)
        rw [hV.out]; show (_ : Value) = onlyIf _ _; rw [onlyIf_pos HE.out, hX.out]; rfl
      · rw [hX] at x63
        replace hX := Lib.hid hX
        simp only [Oper.wp, execOp]
        go_simp
        refine Nxt.mk _ rfl (fun _ _ => ?_) hS (fun _ _ h => h)
        rw [hV.out]; show (_ : Value) = onlyIf _ _; rw [onlyIf_pos HE.out, hX.out]; rfl
    · intro a W hd hS hdep hfree
      have x59 : a.tmps.getD 59 undef = .bool ((((((GA && GB) && ((xKindA == 0) || (xKindA == xKindB))) && (decide (xSrcBitsA ≤ xSrcBitsB))) && (xSrcIpA / 2 ^ (32 - xSrcBitsA).toNat == xSrcIpB / 2 ^ (32 - xSrcBitsA).toNat)) && (decide (xFirstPortA ≤ xFirstPortB))) && (decide (xLastPortB ≤ xLastPortA))) := by have h := hdep 54 59 (by kernel_rfl) rfl; rw [hV.out] at h; exact h
      have x69 : a.tmps.getD 69 undef = onlyIf (((((((GA && GB) && ((xKindA == 0) || (xKindA == xKindB))) && (decide (xSrcBitsA ≤ xSrcBitsB))) && (xSrcIpA / 2 ^ (32 - xSrcBitsA).toNat == xSrcIpB / 2 ^ (32 - xSrcBitsA).toNat)) && (decide (xFirstPortA ≤ xFirstPortB))) && (decide (xLastPortB ≤ xLastPortA))) == true) (.bool ((xVlanA == (-2)) || (xVlanA == xVlanB))) := by have h := hdep 64 69 (by kernel_rfl) rfl; rw [hV.out] at h; exact h
      clear hd hdep hfree
      refine .inl ⟨wanted_free rfl, ?_⟩
      rcases (Bool.eq_false_or_eq_true (((((((GA && GB) && ((xKindA == 0) || (xKindA == xKindB))) && (decide (xSrcBitsA ≤ xSrcBitsB))) && (xSrcIpA / 2 ^ (32 - xSrcBitsA).toNat == xSrcIpB / 2 ^ (32 - xSrcBitsA).toNat)) && (decide (xFirstPortA ≤ xFirstPortB))) && (decide (xLastPortB ≤ xLastPortA))))).symm with hX | hX
      · rw [hX] at x59
        replace hX := Lib.hid hX
        simp only [Oper.wp, execOp]
        go_simp
        refine Nxt.mk _ rfl (fun _ _ => ?_) hS (fun _ _ h => h)
        rw [hV.out]; show (_ : Value) = .bool _; rw [hX.out]; rfl
      · have hp : (((((((GA && GB) && ((xKindA == 0) || (xKindA == xKindB))) && (decide (xSrcBitsA ≤ xSrcBitsB))) && (xSrcIpA / 2 ^ (32 - xSrcBitsA).toNat == xSrcIpB / 2 ^ (32 - xSrcBitsA).toNat)) && (decide (xFirstPortA ≤ xFirstPortB))) && (decide (xLastPortB ≤ xLastPortA))) == true) = true := by simp [hX]
        replace x69 := x69.trans (onlyIf_pos hp)
        rw [hX] at x59
        replace hX := Lib.hid hX
        simp only [Oper.wp, execOp]
        go_simp
        refine Nxt.mk _ rfl (fun _ _ => ?_) hS (fun _ _ h => h)
        rw [hV.out]; show (_ : Value) = .bool _; rw [hX.out]; rfl
    · intro a W hd hS hdep hfree
      have x70 : a.tmps.getD 70 undef = .bool (((((((GA && GB) && ((xKindA == 0) || (xKindA == xKindB))) && (decide (xSrcBitsA ≤ xSrcBitsB))) && (xSrcIpA / 2 ^ (32 - xSrcBitsA).toNat == xSrcIpB / 2 ^ (32 - xSrcBitsA).toNat)) && (decide (xFirstPortA ≤ xFirstPortB))) && (decide (xLastPortB ≤ xLastPortA))) && ((xVlanA == (-2)) || (xVlanA == xVlanB))) := by have h := hdep 65 70 (by kernel_rfl) rfl; rw [hV.out] at h; exact h
      clear hd hdep hfree
      refine .inl ⟨wanted_free rfl, ?_⟩
      simp only [Oper.wp, execOp]
      go_simp
      refine Nxt.mk _ rfl (fun _ _ => ?_) hS (fun _ _ h => h)
      (rw [hV.out]; rfl)
  intro a W2 hs hd hS2 hdone hrest
  have ea := written_all ((.agg #[.int .i64 xPriorityA, .int .i64 xKindA, .int .i64 xSrcIpA, .int .i64 xSrcBitsA, .int .i64 xFirstPortA, .int .i64 xLastPortA, .int .i64 xVlanA, .int .i64 xActionA, .int .i64 xQueueA] : Value) :: (.bool GA : Value) :: (.bool GA : Value) :: onlyIf (GA == true) (.agg #[.int .i64 xPriorityB, .int .i64 xKindB, .int .i64 xSrcIpB, .int .i64 xSrcBitsB, .int .i64 xFirstPortB, .int .i64 xLastPortB, .int .i64 xVlanB, .int .i64 xActionB, .int .i64 xQueueB]) :: onlyIf (GA == true) (.bool GB) :: (.bool (GA && GB) : Value) :: (.bool (GA && GB) : Value) :: onlyIf ((GA && GB) == true) (.pointer (some ⟨w.heap.size, 1, none⟩)) :: onlyIf ((GA && GB) == true) (.int .i64 xKindA) :: onlyIf ((GA && GB) == true) (.bool (xKindA == 0)) :: onlyIf ((GA && GB) == true) (.bool (xKindA == 0)) :: onlyIf (((GA && GB) == true) && ((xKindA == 0) == false)) (.pointer (some ⟨w.heap.size, 1, none⟩)) :: onlyIf (((GA && GB) == true) && ((xKindA == 0) == false)) (.int .i64 xKindA) :: onlyIf (((GA && GB) == true) && ((xKindA == 0) == false)) (.pointer (some ⟨w.heap.size + 1, 1, none⟩)) :: onlyIf (((GA && GB) == true) && ((xKindA == 0) == false)) (.int .i64 xKindB) :: onlyIf (((GA && GB) == true) && ((xKindA == 0) == false)) (.bool (xKindA == xKindB)) :: onlyIf ((GA && GB) == true) (.bool ((xKindA == 0) || (xKindA == xKindB))) :: (.bool ((GA && GB) && ((xKindA == 0) || (xKindA == xKindB))) : Value) :: (.bool ((GA && GB) && ((xKindA == 0) || (xKindA == xKindB))) : Value) :: onlyIf (((GA && GB) && ((xKindA == 0) || (xKindA == xKindB))) == true) (.pointer (some ⟨w.heap.size, 3, none⟩)) :: onlyIf (((GA && GB) && ((xKindA == 0) || (xKindA == xKindB))) == true) (.int .i64 xSrcBitsA) :: onlyIf (((GA && GB) && ((xKindA == 0) || (xKindA == xKindB))) == true) (.pointer (some ⟨w.heap.size + 1, 3, none⟩)) :: onlyIf (((GA && GB) && ((xKindA == 0) || (xKindA == xKindB))) == true) (.int .i64 xSrcBitsB) :: onlyIf (((GA && GB) && ((xKindA == 0) || (xKindA == xKindB))) == true) (.bool (decide (xSrcBitsA ≤ xSrcBitsB))) :: (.bool (((GA && GB) && ((xKindA == 0) || (xKindA == xKindB))) && (decide (xSrcBitsA ≤ xSrcBitsB))) : Value) :: (.bool (((GA && GB) && ((xKindA == 0) || (xKindA == xKindB))) && (decide (xSrcBitsA ≤ xSrcBitsB))) : Value) :: onlyIf ((((GA && GB) && ((xKindA == 0) || (xKindA == xKindB))) && (decide (xSrcBitsA ≤ xSrcBitsB))) == true) (.pointer (some ⟨w.heap.size, 2, none⟩)) :: onlyIf ((((GA && GB) && ((xKindA == 0) || (xKindA == xKindB))) && (decide (xSrcBitsA ≤ xSrcBitsB))) == true) (.int .i64 xSrcIpA) :: onlyIf ((((GA && GB) && ((xKindA == 0) || (xKindA == xKindB))) && (decide (xSrcBitsA ≤ xSrcBitsB))) == true) (.pointer (some ⟨w.heap.size, 3, none⟩)) :: onlyIf ((((GA && GB) && ((xKindA == 0) || (xKindA == xKindB))) && (decide (xSrcBitsA ≤ xSrcBitsB))) == true) (.int .i64 xSrcBitsA) :: onlyIf ((((GA && GB) && ((xKindA == 0) || (xKindA == xKindB))) && (decide (xSrcBitsA ≤ xSrcBitsB))) == true) (.int .i64 (32 - xSrcBitsA)) :: onlyIf ((((GA && GB) && ((xKindA == 0) || (xKindA == xKindB))) && (decide (xSrcBitsA ≤ xSrcBitsB))) == true) (.int .i64 (xSrcIpA / 2 ^ (32 - xSrcBitsA).toNat)) :: onlyIf ((((GA && GB) && ((xKindA == 0) || (xKindA == xKindB))) && (decide (xSrcBitsA ≤ xSrcBitsB))) == true) (.pointer (some ⟨w.heap.size + 1, 2, none⟩)) :: onlyIf ((((GA && GB) && ((xKindA == 0) || (xKindA == xKindB))) && (decide (xSrcBitsA ≤ xSrcBitsB))) == true) (.int .i64 xSrcIpB) :: onlyIf ((((GA && GB) && ((xKindA == 0) || (xKindA == xKindB))) && (decide (xSrcBitsA ≤ xSrcBitsB))) == true) (.pointer (some ⟨w.heap.size, 3, none⟩)) :: onlyIf ((((GA && GB) && ((xKindA == 0) || (xKindA == xKindB))) && (decide (xSrcBitsA ≤ xSrcBitsB))) == true) (.int .i64 xSrcBitsA) :: onlyIf ((((GA && GB) && ((xKindA == 0) || (xKindA == xKindB))) && (decide (xSrcBitsA ≤ xSrcBitsB))) == true) (.int .i64 (32 - xSrcBitsA)) :: onlyIf ((((GA && GB) && ((xKindA == 0) || (xKindA == xKindB))) && (decide (xSrcBitsA ≤ xSrcBitsB))) == true) (.int .i64 (xSrcIpB / 2 ^ (32 - xSrcBitsA).toNat)) :: onlyIf ((((GA && GB) && ((xKindA == 0) || (xKindA == xKindB))) && (decide (xSrcBitsA ≤ xSrcBitsB))) == true) (.bool (xSrcIpA / 2 ^ (32 - xSrcBitsA).toNat == xSrcIpB / 2 ^ (32 - xSrcBitsA).toNat)) :: (.bool ((((GA && GB) && ((xKindA == 0) || (xKindA == xKindB))) && (decide (xSrcBitsA ≤ xSrcBitsB))) && (xSrcIpA / 2 ^ (32 - xSrcBitsA).toNat == xSrcIpB / 2 ^ (32 - xSrcBitsA).toNat)) : Value) :: (.bool ((((GA && GB) && ((xKindA == 0) || (xKindA == xKindB))) && (decide (xSrcBitsA ≤ xSrcBitsB))) && (xSrcIpA / 2 ^ (32 - xSrcBitsA).toNat == xSrcIpB / 2 ^ (32 - xSrcBitsA).toNat)) : Value) :: onlyIf (((((GA && GB) && ((xKindA == 0) || (xKindA == xKindB))) && (decide (xSrcBitsA ≤ xSrcBitsB))) && (xSrcIpA / 2 ^ (32 - xSrcBitsA).toNat == xSrcIpB / 2 ^ (32 - xSrcBitsA).toNat)) == true) (.pointer (some ⟨w.heap.size, 4, none⟩)) :: onlyIf (((((GA && GB) && ((xKindA == 0) || (xKindA == xKindB))) && (decide (xSrcBitsA ≤ xSrcBitsB))) && (xSrcIpA / 2 ^ (32 - xSrcBitsA).toNat == xSrcIpB / 2 ^ (32 - xSrcBitsA).toNat)) == true) (.int .i64 xFirstPortA) :: onlyIf (((((GA && GB) && ((xKindA == 0) || (xKindA == xKindB))) && (decide (xSrcBitsA ≤ xSrcBitsB))) && (xSrcIpA / 2 ^ (32 - xSrcBitsA).toNat == xSrcIpB / 2 ^ (32 - xSrcBitsA).toNat)) == true) (.pointer (some ⟨w.heap.size + 1, 4, none⟩)) :: onlyIf (((((GA && GB) && ((xKindA == 0) || (xKindA == xKindB))) && (decide (xSrcBitsA ≤ xSrcBitsB))) && (xSrcIpA / 2 ^ (32 - xSrcBitsA).toNat == xSrcIpB / 2 ^ (32 - xSrcBitsA).toNat)) == true) (.int .i64 xFirstPortB) :: onlyIf (((((GA && GB) && ((xKindA == 0) || (xKindA == xKindB))) && (decide (xSrcBitsA ≤ xSrcBitsB))) && (xSrcIpA / 2 ^ (32 - xSrcBitsA).toNat == xSrcIpB / 2 ^ (32 - xSrcBitsA).toNat)) == true) (.bool (decide (xFirstPortA ≤ xFirstPortB))) :: (.bool (((((GA && GB) && ((xKindA == 0) || (xKindA == xKindB))) && (decide (xSrcBitsA ≤ xSrcBitsB))) && (xSrcIpA / 2 ^ (32 - xSrcBitsA).toNat == xSrcIpB / 2 ^ (32 - xSrcBitsA).toNat)) && (decide (xFirstPortA ≤ xFirstPortB))) : Value) :: (.bool (((((GA && GB) && ((xKindA == 0) || (xKindA == xKindB))) && (decide (xSrcBitsA ≤ xSrcBitsB))) && (xSrcIpA / 2 ^ (32 - xSrcBitsA).toNat == xSrcIpB / 2 ^ (32 - xSrcBitsA).toNat)) && (decide (xFirstPortA ≤ xFirstPortB))) : Value) :: onlyIf ((((((GA && GB) && ((xKindA == 0) || (xKindA == xKindB))) && (decide (xSrcBitsA ≤ xSrcBitsB))) && (xSrcIpA / 2 ^ (32 - xSrcBitsA).toNat == xSrcIpB / 2 ^ (32 - xSrcBitsA).toNat)) && (decide (xFirstPortA ≤ xFirstPortB))) == true) (.pointer (some ⟨w.heap.size + 1, 5, none⟩)) :: onlyIf ((((((GA && GB) && ((xKindA == 0) || (xKindA == xKindB))) && (decide (xSrcBitsA ≤ xSrcBitsB))) && (xSrcIpA / 2 ^ (32 - xSrcBitsA).toNat == xSrcIpB / 2 ^ (32 - xSrcBitsA).toNat)) && (decide (xFirstPortA ≤ xFirstPortB))) == true) (.int .i64 xLastPortB) :: onlyIf ((((((GA && GB) && ((xKindA == 0) || (xKindA == xKindB))) && (decide (xSrcBitsA ≤ xSrcBitsB))) && (xSrcIpA / 2 ^ (32 - xSrcBitsA).toNat == xSrcIpB / 2 ^ (32 - xSrcBitsA).toNat)) && (decide (xFirstPortA ≤ xFirstPortB))) == true) (.pointer (some ⟨w.heap.size, 5, none⟩)) :: onlyIf ((((((GA && GB) && ((xKindA == 0) || (xKindA == xKindB))) && (decide (xSrcBitsA ≤ xSrcBitsB))) && (xSrcIpA / 2 ^ (32 - xSrcBitsA).toNat == xSrcIpB / 2 ^ (32 - xSrcBitsA).toNat)) && (decide (xFirstPortA ≤ xFirstPortB))) == true) (.int .i64 xLastPortA) :: onlyIf ((((((GA && GB) && ((xKindA == 0) || (xKindA == xKindB))) && (decide (xSrcBitsA ≤ xSrcBitsB))) && (xSrcIpA / 2 ^ (32 - xSrcBitsA).toNat == xSrcIpB / 2 ^ (32 - xSrcBitsA).toNat)) && (decide (xFirstPortA ≤ xFirstPortB))) == true) (.bool (decide (xLastPortB ≤ xLastPortA))) :: (.bool ((((((GA && GB) && ((xKindA == 0) || (xKindA == xKindB))) && (decide (xSrcBitsA ≤ xSrcBitsB))) && (xSrcIpA / 2 ^ (32 - xSrcBitsA).toNat == xSrcIpB / 2 ^ (32 - xSrcBitsA).toNat)) && (decide (xFirstPortA ≤ xFirstPortB))) && (decide (xLastPortB ≤ xLastPortA))) : Value) :: (.bool ((((((GA && GB) && ((xKindA == 0) || (xKindA == xKindB))) && (decide (xSrcBitsA ≤ xSrcBitsB))) && (xSrcIpA / 2 ^ (32 - xSrcBitsA).toNat == xSrcIpB / 2 ^ (32 - xSrcBitsA).toNat)) && (decide (xFirstPortA ≤ xFirstPortB))) && (decide (xLastPortB ≤ xLastPortA))) : Value) :: onlyIf (((((((GA && GB) && ((xKindA == 0) || (xKindA == xKindB))) && (decide (xSrcBitsA ≤ xSrcBitsB))) && (xSrcIpA / 2 ^ (32 - xSrcBitsA).toNat == xSrcIpB / 2 ^ (32 - xSrcBitsA).toNat)) && (decide (xFirstPortA ≤ xFirstPortB))) && (decide (xLastPortB ≤ xLastPortA))) == true) (.pointer (some ⟨w.heap.size, 6, none⟩)) :: onlyIf (((((((GA && GB) && ((xKindA == 0) || (xKindA == xKindB))) && (decide (xSrcBitsA ≤ xSrcBitsB))) && (xSrcIpA / 2 ^ (32 - xSrcBitsA).toNat == xSrcIpB / 2 ^ (32 - xSrcBitsA).toNat)) && (decide (xFirstPortA ≤ xFirstPortB))) && (decide (xLastPortB ≤ xLastPortA))) == true) (.int .i64 xVlanA) :: onlyIf (((((((GA && GB) && ((xKindA == 0) || (xKindA == xKindB))) && (decide (xSrcBitsA ≤ xSrcBitsB))) && (xSrcIpA / 2 ^ (32 - xSrcBitsA).toNat == xSrcIpB / 2 ^ (32 - xSrcBitsA).toNat)) && (decide (xFirstPortA ≤ xFirstPortB))) && (decide (xLastPortB ≤ xLastPortA))) == true) (.bool (xVlanA == (-2))) :: onlyIf (((((((GA && GB) && ((xKindA == 0) || (xKindA == xKindB))) && (decide (xSrcBitsA ≤ xSrcBitsB))) && (xSrcIpA / 2 ^ (32 - xSrcBitsA).toNat == xSrcIpB / 2 ^ (32 - xSrcBitsA).toNat)) && (decide (xFirstPortA ≤ xFirstPortB))) && (decide (xLastPortB ≤ xLastPortA))) == true) (.bool (xVlanA == (-2))) :: onlyIf ((((((((GA && GB) && ((xKindA == 0) || (xKindA == xKindB))) && (decide (xSrcBitsA ≤ xSrcBitsB))) && (xSrcIpA / 2 ^ (32 - xSrcBitsA).toNat == xSrcIpB / 2 ^ (32 - xSrcBitsA).toNat)) && (decide (xFirstPortA ≤ xFirstPortB))) && (decide (xLastPortB ≤ xLastPortA))) == true) && ((xVlanA == (-2)) == false)) (.pointer (some ⟨w.heap.size, 6, none⟩)) :: onlyIf ((((((((GA && GB) && ((xKindA == 0) || (xKindA == xKindB))) && (decide (xSrcBitsA ≤ xSrcBitsB))) && (xSrcIpA / 2 ^ (32 - xSrcBitsA).toNat == xSrcIpB / 2 ^ (32 - xSrcBitsA).toNat)) && (decide (xFirstPortA ≤ xFirstPortB))) && (decide (xLastPortB ≤ xLastPortA))) == true) && ((xVlanA == (-2)) == false)) (.int .i64 xVlanA) :: onlyIf ((((((((GA && GB) && ((xKindA == 0) || (xKindA == xKindB))) && (decide (xSrcBitsA ≤ xSrcBitsB))) && (xSrcIpA / 2 ^ (32 - xSrcBitsA).toNat == xSrcIpB / 2 ^ (32 - xSrcBitsA).toNat)) && (decide (xFirstPortA ≤ xFirstPortB))) && (decide (xLastPortB ≤ xLastPortA))) == true) && ((xVlanA == (-2)) == false)) (.pointer (some ⟨w.heap.size + 1, 6, none⟩)) :: onlyIf ((((((((GA && GB) && ((xKindA == 0) || (xKindA == xKindB))) && (decide (xSrcBitsA ≤ xSrcBitsB))) && (xSrcIpA / 2 ^ (32 - xSrcBitsA).toNat == xSrcIpB / 2 ^ (32 - xSrcBitsA).toNat)) && (decide (xFirstPortA ≤ xFirstPortB))) && (decide (xLastPortB ≤ xLastPortA))) == true) && ((xVlanA == (-2)) == false)) (.int .i64 xVlanB) :: onlyIf ((((((((GA && GB) && ((xKindA == 0) || (xKindA == xKindB))) && (decide (xSrcBitsA ≤ xSrcBitsB))) && (xSrcIpA / 2 ^ (32 - xSrcBitsA).toNat == xSrcIpB / 2 ^ (32 - xSrcBitsA).toNat)) && (decide (xFirstPortA ≤ xFirstPortB))) && (decide (xLastPortB ≤ xLastPortA))) == true) && ((xVlanA == (-2)) == false)) (.bool (xVlanA == xVlanB)) :: onlyIf (((((((GA && GB) && ((xKindA == 0) || (xKindA == xKindB))) && (decide (xSrcBitsA ≤ xSrcBitsB))) && (xSrcIpA / 2 ^ (32 - xSrcBitsA).toNat == xSrcIpB / 2 ^ (32 - xSrcBitsA).toNat)) && (decide (xFirstPortA ≤ xFirstPortB))) && (decide (xLastPortB ≤ xLastPortA))) == true) (.bool ((xVlanA == (-2)) || (xVlanA == xVlanB))) :: (.bool (((((((GA && GB) && ((xKindA == 0) || (xKindA == xKindB))) && (decide (xSrcBitsA ≤ xSrcBitsB))) && (xSrcIpA / 2 ^ (32 - xSrcBitsA).toNat == xSrcIpB / 2 ^ (32 - xSrcBitsA).toNat)) && (decide (xFirstPortA ≤ xFirstPortB))) && (decide (xLastPortB ≤ xLastPortA))) && ((xVlanA == (-2)) || (xVlanA == xVlanB))) : Value) :: (.bool (((((((GA && GB) && ((xKindA == 0) || (xKindA == xKindB))) && (decide (xSrcBitsA ≤ xSrcBitsB))) && (xSrcIpA / 2 ^ (32 - xSrcBitsA).toNat == xSrcIpB / 2 ^ (32 - xSrcBitsA).toNat)) && (decide (xFirstPortA ≤ xFirstPortB))) && (decide (xLastPortB ≤ xLastPortA))) && ((xVlanA == (-2)) || (xVlanA == xVlanB))) : Value) :: ([] : List Value)) rfl hs hd hrest (fun j d hj => by have h := hdone j d hj; rw [hV.out] at h; exact h)
  clear hs hd hdone hrest hV V
  subst ea
  simp only [written, List.append_eq, Array.toList_append, List.append_toArray, List.map_append, List.cons_append, List.nil_append, List.map_cons, List.map_nil, List.zip_cons_cons, List.zip_nil_right, putAll]
  simp only [Exit.then, Act.put, List.setIfInBounds_toArray, List.set_cons_zero, List.set_cons_succ]
  have HF : Hid (((((((((GA && GB) && ((xKindA == 0) || (xKindA == xKindB))) && (decide (xSrcBitsA ≤ xSrcBitsB))) && (xSrcIpA / 2 ^ (32 - xSrcBitsA).toNat == xSrcIpB / 2 ^ (32 - xSrcBitsA).toNat)) && (decide (xFirstPortA ≤ xFirstPortB))) && (decide (xLastPortB ≤ xLastPortA))) && ((xVlanA == (-2)) || (xVlanA == xVlanB)))) = B) := Lib.hid ((spec_cov_eq _ _ _ _ _ _ _ _ _ _ _ _ _ _ _ _ _ _ GA GB hGA.out hGB.out).trans HB.out.symm)
  rw [HF.out]
  go_wp2
  go_ret
  exact ⟨rfl, below_comp hb1 hS2⟩

theorem impl_cov_eq (xPriorityA xKindA xSrcIpA xSrcBitsA xFirstPortA xLastPortA xVlanA xActionA xQueueA xPriorityB xKindB xSrcIpB xSrcBitsB xFirstPortB xLastPortB xVlanB xActionB xQueueB : Int) (GA GB : Bool) (h1 : GA = decide (RuleM.Ok ⟨xPriorityA, xKindA, xSrcIpA, xSrcBitsA, xFirstPortA, xLastPortA, xVlanA, xActionA, xQueueA⟩)) (h2 : GB = decide (RuleM.Ok ⟨xPriorityB, xKindB, xSrcIpB, xSrcBitsB, xFirstPortB, xLastPortB, xVlanB, xActionB, xQueueB⟩)) : (((((((GA && GB) && (decide (xSrcBitsA ≤ xSrcBitsB))) && (same xSrcIpA xSrcIpB xSrcBitsA)) && (decide (xFirstPortA ≤ xFirstPortB))) && (decide (xLastPortB ≤ xLastPortA))) && (decide (RuleM.Fits ⟨xPriorityA, xKindA, xSrcIpA, xSrcBitsA, xFirstPortA, xLastPortA, xVlanA, xActionA, xQueueA⟩ xKindB xVlanB)))) = decide (RuleM.Covers ⟨xPriorityA, xKindA, xSrcIpA, xSrcBitsA, xFirstPortA, xLastPortA, xVlanA, xActionA, xQueueA⟩ ⟨xPriorityB, xKindB, xSrcIpB, xSrcBitsB, xFirstPortB, xLastPortB, xVlanB, xActionB, xQueueB⟩) := by
  rw [Bool.eq_iff_iff, decide_eq_true_iff]
  unfold RuleM.Covers
  rw [← @decide_eq_true_iff (RuleM.Ok ⟨xPriorityA, xKindA, xSrcIpA, xSrcBitsA, xFirstPortA, xLastPortA, xVlanA, xActionA, xQueueA⟩), ← @decide_eq_true_iff (RuleM.Ok ⟨xPriorityB, xKindB, xSrcIpB, xSrcBitsB, xFirstPortB, xLastPortB, xVlanB, xActionB, xQueueB⟩), ← h1, ← h2]
  clear h1 h2
  unfold RuleM.Fits same
  dsimp only
  simp only [Bool.and_eq_true, Bool.or_eq_true, decide_eq_true_eq, beq_iff_eq]
  grind

set_option maxHeartbeats 4000000 in
set_option maxRecDepth 100000 in
theorem impl_rulecovers (a b : RuleM) (w : World) :
    Calls Try.prog 147 #[a.val, b.val] w fun r w' => r = .returned (.bool (decide (a.Covers b))) ∧ Below w.heap.size w w' := by
  obtain ⟨xPriorityA, xKindA, xSrcIpA, xSrcBitsA, xFirstPortA, xLastPortA, xVlanA, xActionA, xQueueA⟩ := a
  obtain ⟨xPriorityB, xKindB, xSrcIpB, xSrcBitsB, xFirstPortB, xLastPortB, xVlanB, xActionB, xQueueB⟩ := b
  have YA : Hid (∀ W, Calls Try.prog 146 #[.agg #[.int .i64 xPriorityA, .int .i64 xKindA, .int .i64 xSrcIpA, .int .i64 xSrcBitsA, .int .i64 xFirstPortA, .int .i64 xLastPortA, .int .i64 xVlanA, .int .i64 xActionA, .int .i64 xQueueA]] W fun r w' => r = .returned (.bool (decide (RuleM.Ok ⟨xPriorityA, xKindA, xSrcIpA, xSrcBitsA, xFirstPortA, xLastPortA, xVlanA, xActionA, xQueueA⟩))) ∧ Below W.heap.size W w') := Lib.hid fun W => impl_ruleok ⟨xPriorityA, xKindA, xSrcIpA, xSrcBitsA, xFirstPortA, xLastPortA, xVlanA, xActionA, xQueueA⟩ W
  have YB : Hid (∀ W, Calls Try.prog 146 #[.agg #[.int .i64 xPriorityB, .int .i64 xKindB, .int .i64 xSrcIpB, .int .i64 xSrcBitsB, .int .i64 xFirstPortB, .int .i64 xLastPortB, .int .i64 xVlanB, .int .i64 xActionB, .int .i64 xQueueB]] W fun r w' => r = .returned (.bool (decide (RuleM.Ok ⟨xPriorityB, xKindB, xSrcIpB, xSrcBitsB, xFirstPortB, xLastPortB, xVlanB, xActionB, xQueueB⟩))) ∧ Below W.heap.size W w') := Lib.hid fun W => impl_ruleok ⟨xPriorityB, xKindB, xSrcIpB, xSrcBitsB, xFirstPortB, xLastPortB, xVlanB, xActionB, xQueueB⟩ W
  obtain ⟨GA, hGA⟩ : ∃ G : Bool, Hid (G = decide (RuleM.Ok ⟨xPriorityA, xKindA, xSrcIpA, xSrcBitsA, xFirstPortA, xLastPortA, xVlanA, xActionA, xQueueA⟩)) := ⟨_, Lib.hid rfl⟩
  obtain ⟨GB, hGB⟩ : ∃ G : Bool, Hid (G = decide (RuleM.Ok ⟨xPriorityB, xKindB, xSrcIpB, xSrcBitsB, xFirstPortB, xLastPortB, xVlanB, xActionB, xQueueB⟩)) := ⟨_, Lib.hid rfl⟩
  rw [← hGA.out] at YA
  rw [← hGB.out] at YB
  have HBT : Hid (GA = true → 0 ≤ xSrcBitsA ∧ xSrcBitsA ≤ 32) := Lib.hid fun h => (of_decide_eq_true (hGA.out.symm.trans h) : RuleM.Ok ⟨xPriorityA, xKindA, xSrcIpA, xSrcBitsA, xFirstPortA, xLastPortA, xVlanA, xActionA, xQueueA⟩).2.2.2.1
  obtain ⟨B, HB⟩ : ∃ B : Bool, Hid (B = decide (RuleM.Covers ⟨xPriorityA, xKindA, xSrcIpA, xSrcBitsA, xFirstPortA, xLastPortA, xVlanA, xActionA, xQueueA⟩ ⟨xPriorityB, xKindB, xSrcIpB, xSrcBitsB, xFirstPortB, xLastPortB, xVlanB, xActionB, xQueueB⟩)) := ⟨_, Lib.hid rfl⟩
  rw [← HB.out]
  unfold RuleM.val
  dsimp only
  go_enter Try.func147, Try.ntmps147
  go_upto_region 1 with fail
  obtain ⟨w1, hw1⟩ : ∃ w1, w1 = (w.alloc (.cells #[.int .i64 xPriorityA, .int .i64 xKindA, .int .i64 xSrcIpA, .int .i64 xSrcBitsA, .int .i64 xFirstPortA, .int .i64 xLastPortA, .int .i64 xVlanA, .int .i64 xActionA, .int .i64 xQueueA] 144)).alloc (.cells #[.int .i64 xPriorityB, .int .i64 xKindB, .int .i64 xSrcIpB, .int .i64 xSrcBitsB, .int .i64 xFirstPortB, .int .i64 xLastPortB, .int .i64 xVlanB, .int .i64 xActionB, .int .i64 xQueueB] 144) := ⟨_, rfl⟩
  have hb1 : Below w.heap.size w w1 := hw1 ▸ below_comp (below_new _) (below_new _)
  have HB1 : Hid (Box w1 w.heap.size #[.int .i64 xPriorityA, .int .i64 xKindA, .int .i64 xSrcIpA, .int .i64 xSrcBitsA, .int .i64 xFirstPortA, .int .i64 xLastPortA, .int .i64 xVlanA, .int .i64 xActionA, .int .i64 xQueueA] 144) := Lib.hid (hw1 ▸ (Box.new w #[.int .i64 xPriorityA, .int .i64 xKindA, .int .i64 xSrcIpA, .int .i64 xSrcBitsA, .int .i64 xFirstPortA, .int .i64 xLastPortA, .int .i64 xVlanA, .int .i64 xActionA, .int .i64 xQueueA] 144).below (below_new _) (by simp))
  have HB2 : Hid (Box w1 (w.heap.size + 1) #[.int .i64 xPriorityB, .int .i64 xKindB, .int .i64 xSrcIpB, .int .i64 xSrcBitsB, .int .i64 xFirstPortB, .int .i64 xLastPortB, .int .i64 xVlanB, .int .i64 xActionB, .int .i64 xQueueB] 144) := Lib.hid (by have := Box.new (w.alloc (.cells #[.int .i64 xPriorityA, .int .i64 xKindA, .int .i64 xSrcIpA, .int .i64 xSrcBitsA, .int .i64 xFirstPortA, .int .i64 xLastPortA, .int .i64 xVlanA, .int .i64 xActionA, .int .i64 xQueueA] 144)) #[.int .i64 xPriorityB, .int .i64 xKindB, .int .i64 xSrcIpB, .int .i64 xSrcBitsB, .int .i64 xFirstPortB, .int .i64 xLastPortB, .int .i64 xVlanB, .int .i64 xActionB, .int .i64 xQueueB] 144; rw [← hw1] at this; simpa using this)
  have hg1 : w.heap.size < w1.heap.size := by have h := congrArg (fun x => x.heap.size) hw1; simp at h; omega
  have hg2 : w.heap.size + 1 < w1.heap.size := by have h := congrArg (fun x => x.heap.size) hw1; simp at h; omega
  rw [← hw1]
  clear hw1
  obtain ⟨V, hV⟩ : ∃ V, Hid (V = Vals ((.agg #[.int .i64 xPriorityA, .int .i64 xKindA, .int .i64 xSrcIpA, .int .i64 xSrcBitsA, .int .i64 xFirstPortA, .int .i64 xLastPortA, .int .i64 xVlanA, .int .i64 xActionA, .int .i64 xQueueA] : Value) :: (.bool GA : Value) :: (.bool GA : Value) :: onlyIf (GA == true) (.agg #[.int .i64 xPriorityB, .int .i64 xKindB, .int .i64 xSrcIpB, .int .i64 xSrcBitsB, .int .i64 xFirstPortB, .int .i64 xLastPortB, .int .i64 xVlanB, .int .i64 xActionB, .int .i64 xQueueB]) :: onlyIf (GA == true) (.bool GB) :: (.bool (GA && GB) : Value) :: (.bool (GA && GB) : Value) :: onlyIf ((GA && GB) == true) (.pointer (some ⟨w.heap.size, 3, none⟩)) :: onlyIf ((GA && GB) == true) (.int .i64 xSrcBitsA) :: onlyIf ((GA && GB) == true) (.pointer (some ⟨w.heap.size + 1, 3, none⟩)) :: onlyIf ((GA && GB) == true) (.int .i64 xSrcBitsB) :: onlyIf ((GA && GB) == true) (.bool (decide (xSrcBitsA ≤ xSrcBitsB))) :: (.bool ((GA && GB) && (decide (xSrcBitsA ≤ xSrcBitsB))) : Value) :: (.bool ((GA && GB) && (decide (xSrcBitsA ≤ xSrcBitsB))) : Value) :: onlyIf (((GA && GB) && (decide (xSrcBitsA ≤ xSrcBitsB))) == true) (.pointer (some ⟨w.heap.size, 2, none⟩)) :: onlyIf (((GA && GB) && (decide (xSrcBitsA ≤ xSrcBitsB))) == true) (.int .i64 xSrcIpA) :: onlyIf (((GA && GB) && (decide (xSrcBitsA ≤ xSrcBitsB))) == true) (.pointer (some ⟨w.heap.size + 1, 2, none⟩)) :: onlyIf (((GA && GB) && (decide (xSrcBitsA ≤ xSrcBitsB))) == true) (.int .i64 xSrcIpB) :: onlyIf (((GA && GB) && (decide (xSrcBitsA ≤ xSrcBitsB))) == true) (.pointer (some ⟨w.heap.size, 3, none⟩)) :: onlyIf (((GA && GB) && (decide (xSrcBitsA ≤ xSrcBitsB))) == true) (.int .i64 xSrcBitsA) :: onlyIf (((GA && GB) && (decide (xSrcBitsA ≤ xSrcBitsB))) == true) (.bool (same xSrcIpA xSrcIpB xSrcBitsA)) :: (.bool (((GA && GB) && (decide (xSrcBitsA ≤ xSrcBitsB))) && (same xSrcIpA xSrcIpB xSrcBitsA)) : Value) :: (.bool (((GA && GB) && (decide (xSrcBitsA ≤ xSrcBitsB))) && (same xSrcIpA xSrcIpB xSrcBitsA)) : Value) :: onlyIf ((((GA && GB) && (decide (xSrcBitsA ≤ xSrcBitsB))) && (same xSrcIpA xSrcIpB xSrcBitsA)) == true) (.pointer (some ⟨w.heap.size, 4, none⟩)) :: onlyIf ((((GA && GB) && (decide (xSrcBitsA ≤ xSrcBitsB))) && (same xSrcIpA xSrcIpB xSrcBitsA)) == true) (.int .i64 xFirstPortA) :: onlyIf ((((GA && GB) && (decide (xSrcBitsA ≤ xSrcBitsB))) && (same xSrcIpA xSrcIpB xSrcBitsA)) == true) (.pointer (some ⟨w.heap.size + 1, 4, none⟩)) :: onlyIf ((((GA && GB) && (decide (xSrcBitsA ≤ xSrcBitsB))) && (same xSrcIpA xSrcIpB xSrcBitsA)) == true) (.int .i64 xFirstPortB) :: onlyIf ((((GA && GB) && (decide (xSrcBitsA ≤ xSrcBitsB))) && (same xSrcIpA xSrcIpB xSrcBitsA)) == true) (.bool (decide (xFirstPortA ≤ xFirstPortB))) :: (.bool ((((GA && GB) && (decide (xSrcBitsA ≤ xSrcBitsB))) && (same xSrcIpA xSrcIpB xSrcBitsA)) && (decide (xFirstPortA ≤ xFirstPortB))) : Value) :: (.bool ((((GA && GB) && (decide (xSrcBitsA ≤ xSrcBitsB))) && (same xSrcIpA xSrcIpB xSrcBitsA)) && (decide (xFirstPortA ≤ xFirstPortB))) : Value) :: onlyIf (((((GA && GB) && (decide (xSrcBitsA ≤ xSrcBitsB))) && (same xSrcIpA xSrcIpB xSrcBitsA)) && (decide (xFirstPortA ≤ xFirstPortB))) == true) (.pointer (some ⟨w.heap.size + 1, 5, none⟩)) :: onlyIf (((((GA && GB) && (decide (xSrcBitsA ≤ xSrcBitsB))) && (same xSrcIpA xSrcIpB xSrcBitsA)) && (decide (xFirstPortA ≤ xFirstPortB))) == true) (.int .i64 xLastPortB) :: onlyIf (((((GA && GB) && (decide (xSrcBitsA ≤ xSrcBitsB))) && (same xSrcIpA xSrcIpB xSrcBitsA)) && (decide (xFirstPortA ≤ xFirstPortB))) == true) (.pointer (some ⟨w.heap.size, 5, none⟩)) :: onlyIf (((((GA && GB) && (decide (xSrcBitsA ≤ xSrcBitsB))) && (same xSrcIpA xSrcIpB xSrcBitsA)) && (decide (xFirstPortA ≤ xFirstPortB))) == true) (.int .i64 xLastPortA) :: onlyIf (((((GA && GB) && (decide (xSrcBitsA ≤ xSrcBitsB))) && (same xSrcIpA xSrcIpB xSrcBitsA)) && (decide (xFirstPortA ≤ xFirstPortB))) == true) (.bool (decide (xLastPortB ≤ xLastPortA))) :: (.bool (((((GA && GB) && (decide (xSrcBitsA ≤ xSrcBitsB))) && (same xSrcIpA xSrcIpB xSrcBitsA)) && (decide (xFirstPortA ≤ xFirstPortB))) && (decide (xLastPortB ≤ xLastPortA))) : Value) :: (.bool (((((GA && GB) && (decide (xSrcBitsA ≤ xSrcBitsB))) && (same xSrcIpA xSrcIpB xSrcBitsA)) && (decide (xFirstPortA ≤ xFirstPortB))) && (decide (xLastPortB ≤ xLastPortA))) : Value) :: onlyIf ((((((GA && GB) && (decide (xSrcBitsA ≤ xSrcBitsB))) && (same xSrcIpA xSrcIpB xSrcBitsA)) && (decide (xFirstPortA ≤ xFirstPortB))) && (decide (xLastPortB ≤ xLastPortA))) == true) (.agg #[.int .i64 xPriorityA, .int .i64 xKindA, .int .i64 xSrcIpA, .int .i64 xSrcBitsA, .int .i64 xFirstPortA, .int .i64 xLastPortA, .int .i64 xVlanA, .int .i64 xActionA, .int .i64 xQueueA]) :: onlyIf ((((((GA && GB) && (decide (xSrcBitsA ≤ xSrcBitsB))) && (same xSrcIpA xSrcIpB xSrcBitsA)) && (decide (xFirstPortA ≤ xFirstPortB))) && (decide (xLastPortB ≤ xLastPortA))) == true) (.pointer (some ⟨w.heap.size + 1, 1, none⟩)) :: onlyIf ((((((GA && GB) && (decide (xSrcBitsA ≤ xSrcBitsB))) && (same xSrcIpA xSrcIpB xSrcBitsA)) && (decide (xFirstPortA ≤ xFirstPortB))) && (decide (xLastPortB ≤ xLastPortA))) == true) (.int .i64 xKindB) :: onlyIf ((((((GA && GB) && (decide (xSrcBitsA ≤ xSrcBitsB))) && (same xSrcIpA xSrcIpB xSrcBitsA)) && (decide (xFirstPortA ≤ xFirstPortB))) && (decide (xLastPortB ≤ xLastPortA))) == true) (.pointer (some ⟨w.heap.size + 1, 6, none⟩)) :: onlyIf ((((((GA && GB) && (decide (xSrcBitsA ≤ xSrcBitsB))) && (same xSrcIpA xSrcIpB xSrcBitsA)) && (decide (xFirstPortA ≤ xFirstPortB))) && (decide (xLastPortB ≤ xLastPortA))) == true) (.int .i64 xVlanB) :: onlyIf ((((((GA && GB) && (decide (xSrcBitsA ≤ xSrcBitsB))) && (same xSrcIpA xSrcIpB xSrcBitsA)) && (decide (xFirstPortA ≤ xFirstPortB))) && (decide (xLastPortB ≤ xLastPortA))) == true) (.bool (decide (RuleM.Fits ⟨xPriorityA, xKindA, xSrcIpA, xSrcBitsA, xFirstPortA, xLastPortA, xVlanA, xActionA, xQueueA⟩ xKindB xVlanB))) :: (.bool ((((((GA && GB) && (decide (xSrcBitsA ≤ xSrcBitsB))) && (same xSrcIpA xSrcIpB xSrcBitsA)) && (decide (xFirstPortA ≤ xFirstPortB))) && (decide (xLastPortB ≤ xLastPortA))) && (decide (RuleM.Fits ⟨xPriorityA, xKindA, xSrcIpA, xSrcBitsA, xFirstPortA, xLastPortA, xVlanA, xActionA, xQueueA⟩ xKindB xVlanB))) : Value) :: (.bool ((((((GA && GB) && (decide (xSrcBitsA ≤ xSrcBitsB))) && (same xSrcIpA xSrcIpB xSrcBitsA)) && (decide (xFirstPortA ≤ xFirstPortB))) && (decide (xLastPortB ≤ xLastPortA))) && (decide (RuleM.Fits ⟨xPriorityA, xKindA, xSrcIpA, xSrcBitsA, xFirstPortA, xLastPortA, xVlanA, xActionA, xQueueA⟩ xKindB xVlanB))) : Value) :: ([] : List Value)) []) := ⟨_, Lib.hid rfl⟩
  refine wp_region_valuesF (by kernel_rfl) (fun W => Below w1.heap.size w1 W) V
    49 rfl (by kernel_rfl) (by kernel_rfl) (Below.refl _ _) (eachOp_all ?_) ?_
  · refine ⟨?_, ?_, ?_, ?_, ?_, ?_, ?_, ?_, ?_, ?_, ?_, ?_, ?_, ?_, ?_, ?_, ?_, ?_, ?_, ?_, ?_, ?_, ?_, ?_, ?_, ?_, ?_, ?_, ?_, ?_, ?_, ?_, ?_, ?_, ?_, ?_, ?_, ?_, ?_, ?_, ?_, ?_, ?_, ?_, ?_, trivial⟩
    · intro a W hd hS hdep hfree
      have x2 : a.tmps.getD 2 undef = .pointer (some ⟨w.heap.size, 0, none⟩) := hfree 2 (by kernel_rfl)
      clear hd hdep hfree
      refine .inl ⟨wanted_free rfl, ?_⟩
      have c0 : W.cell? ⟨w.heap.size, 0, none⟩ = some (.int .i64 xPriorityA) := (HB1.out.below hS hg1).cell 0 (by simp)
      have c1 : W.cell? ⟨w.heap.size, 1, none⟩ = some (.int .i64 xKindA) := (HB1.out.below hS hg1).cell 1 (by simp)
      have c2 : W.cell? ⟨w.heap.size, 2, none⟩ = some (.int .i64 xSrcIpA) := (HB1.out.below hS hg1).cell 2 (by simp)
      have c3 : W.cell? ⟨w.heap.size, 3, none⟩ = some (.int .i64 xSrcBitsA) := (HB1.out.below hS hg1).cell 3 (by simp)
      have c4 : W.cell? ⟨w.heap.size, 4, none⟩ = some (.int .i64 xFirstPortA) := (HB1.out.below hS hg1).cell 4 (by simp)
      have c5 : W.cell? ⟨w.heap.size, 5, none⟩ = some (.int .i64 xLastPortA) := (HB1.out.below hS hg1).cell 5 (by simp)
      have c6 : W.cell? ⟨w.heap.size, 6, none⟩ = some (.int .i64 xVlanA) := (HB1.out.below hS hg1).cell 6 (by simp)
      have c7 : W.cell? ⟨w.heap.size, 7, none⟩ = some (.int .i64 xActionA) := (HB1.out.below hS hg1).cell 7 (by simp)
      have c8 : W.cell? ⟨w.heap.size, 8, none⟩ = some (.int .i64 xQueueA) := (HB1.out.below hS hg1).cell 8 (by simp)
      simp only [Oper.wp, execOp]
      go_simp
      refine Nxt.mk _ rfl (fun _ _ => ?_) hS (fun _ _ h => h)
      (rw [hV.out]; rfl)
    · intro a W hd hS hdep hfree
      have x5 : a.tmps.getD 5 undef = .agg #[.int .i64 xPriorityA, .int .i64 xKindA, .int .i64 xSrcIpA, .int .i64 xSrcBitsA, .int .i64 xFirstPortA, .int .i64 xLastPortA, .int .i64 xVlanA, .int .i64 xActionA, .int .i64 xQueueA] := by have h := hdep 0 5 (by kernel_rfl) rfl; rw [hV.out] at h; exact h
      clear hd hdep hfree
      refine .inl ⟨wanted_free rfl, ?_⟩
      simp only [Oper.wp, execOp]
      go_simp
      refine (YA.out W).mono ?_
      rintro e W' ⟨rfl, hb⟩
      exact Nxt.mk _ rfl (fun _ _ => by (rw [hV.out]; rfl)) (below_comp hS hb) (fun j u h => by rw [hV.out] at h ⊢; exact Vals.below hb j u h)
    · intro a W hd hS hdep hfree
      have x6 : a.tmps.getD 6 undef = .bool GA := by have h := hdep 1 6 (by kernel_rfl) rfl; rw [hV.out] at h; exact h
      clear hd hdep hfree
      refine .inl ⟨wanted_free rfl, ?_⟩
      simp only [Oper.wp, execOp]
      go_simp
      refine Nxt.mk _ rfl (fun _ _ => ?_) hS (fun _ _ h => h)
      (rw [hV.out]; rfl)
    · intro a W hd hS hdep hfree
      have x7 : a.tmps.getD 7 undef = .bool GA := by have h := hdep 2 7 (by kernel_rfl) rfl; rw [hV.out] at h; exact h
      have x3 : a.tmps.getD 3 undef = .pointer (some ⟨w.heap.size + 1, 0, none⟩) := hfree 3 (by kernel_rfl)
      clear hd hdep hfree
      rcases (Bool.eq_false_or_eq_true ((GA == true))).symm with hE | hE
      · exact .inr ⟨(wanted_sym rfl rfl x7).trans hE, fun _ _ => by rw [hV.out]; exact (onlyIf_neg hE).symm⟩
      refine .inl ⟨(wanted_sym rfl rfl x7).trans hE, ?_⟩
      have hG0 := eq_of_beq hE
      try (have hbits := HBT.out (by revert hE; cases GA <;> simp))
      have HE := Lib.hid hE
      clear hE hG0
      have c0 : W.cell? ⟨w.heap.size + 1, 0, none⟩ = some (.int .i64 xPriorityB) := (HB2.out.below hS hg2).cell 0 (by simp)
      have c1 : W.cell? ⟨w.heap.size + 1, 1, none⟩ = some (.int .i64 xKindB) := (HB2.out.below hS hg2).cell 1 (by simp)
      have c2 : W.cell? ⟨w.heap.size + 1, 2, none⟩ = some (.int .i64 xSrcIpB) := (HB2.out.below hS hg2).cell 2 (by simp)
      have c3 : W.cell? ⟨w.heap.size + 1, 3, none⟩ = some (.int .i64 xSrcBitsB) := (HB2.out.below hS hg2).cell 3 (by simp)
      have c4 : W.cell? ⟨w.heap.size + 1, 4, none⟩ = some (.int .i64 xFirstPortB) := (HB2.out.below hS hg2).cell 4 (by simp)
      have c5 : W.cell? ⟨w.heap.size + 1, 5, none⟩ = some (.int .i64 xLastPortB) := (HB2.out.below hS hg2).cell 5 (by simp)
      have c6 : W.cell? ⟨w.heap.size + 1, 6, none⟩ = some (.int .i64 xVlanB) := (HB2.out.below hS hg2).cell 6 (by simp)
      have c7 : W.cell? ⟨w.heap.size + 1, 7, none⟩ = some (.int .i64 xActionB) := (HB2.out.below hS hg2).cell 7 (by simp)
      have c8 : W.cell? ⟨w.heap.size + 1, 8, none⟩ = some (.int .i64 xQueueB) := (HB2.out.below hS hg2).cell 8 (by simp)
      simp only [Oper.wp, execOp]
      go_simp
      refine Nxt.mk _ rfl (fun _ _ => ?_) hS (fun _ _ h => h)
      (rw [hV.out]; exact (onlyIf_pos HE.out).symm)
    · intro a W hd hS hdep hfree
      have x7 : a.tmps.getD 7 undef = .bool GA := by have h := hdep 2 7 (by kernel_rfl) rfl; rw [hV.out] at h; exact h
      have x8 : a.tmps.getD 8 undef = onlyIf (GA == true) (.agg #[.int .i64 xPriorityB, .int .i64 xKindB, .int .i64 xSrcIpB, .int .i64 xSrcBitsB, .int .i64 xFirstPortB, .int .i64 xLastPortB, .int .i64 xVlanB, .int .i64 xActionB, .int .i64 xQueueB]) := by have h := hdep 3 8 (by kernel_rfl) rfl; rw [hV.out] at h; exact h
      clear hd hdep hfree
      rcases (Bool.eq_false_or_eq_true ((GA == true))).symm with hE | hE
      · exact .inr ⟨(wanted_sym rfl rfl x7).trans hE, fun _ _ => by rw [hV.out]; exact (onlyIf_neg hE).symm⟩
      refine .inl ⟨(wanted_sym rfl rfl x7).trans hE, ?_⟩
      replace x8 := x8.trans (onlyIf_pos hE)
      have hG0 := eq_of_beq hE
      try (have hbits := HBT.out (by revert hE; cases GA <;> simp))
      have HE := Lib.hid hE
      clear hE hG0
      simp only [Oper.wp, execOp]
      go_simp
      refine (YB.out W).mono ?_
      rintro e W' ⟨rfl, hb⟩
      exact Nxt.mk _ rfl (fun _ _ => by (rw [hV.out]; exact (onlyIf_pos HE.out).symm)) (below_comp hS hb) (fun j u h => by rw [hV.out] at h ⊢; exact Vals.below hb j u h)
    · intro a W hd hS hdep hfree
      have x7 : a.tmps.getD 7 undef = .bool GA := by have h := hdep 2 7 (by kernel_rfl) rfl; rw [hV.out] at h; exact h
      have x9 : a.tmps.getD 9 undef = onlyIf (GA == true) (.bool GB) := by have h := hdep 4 9 (by kernel_rfl) rfl; rw [hV.out] at h; exact h
      clear hd hdep hfree
      refine .inl ⟨wanted_free rfl, ?_⟩
      rcases (Bool.eq_false_or_eq_true (GA)).symm with hX | hX
      · rw [hX] at x7
        replace hX := Lib.hid hX
        simp only [Oper.wp, execOp]
        go_simp
        refine Nxt.mk _ rfl (fun _ _ => ?_) hS (fun _ _ h => h)
        rw [hV.out]; show (_ : Value) = .bool _; rw [hX.out]; rfl
      · have hp : (GA == true) = true := by simp [hX]
        replace x9 := x9.trans (onlyIf_pos hp)
        rw [hX] at x7
        replace hX := Lib.hid hX
        simp only [Oper.wp, execOp]
        go_simp
        refine Nxt.mk _ rfl (fun _ _ => ?_) hS (fun _ _ h => h)
        rw [hV.out]; show (_ : Value) = .bool _; rw [hX.out]; rfl
    · intro a W hd hS hdep hfree
      have x10 : a.tmps.getD 10 undef = .bool (GA && GB) := by have h := hdep 5 10 (by kernel_rfl) rfl; rw [hV.out] at h; exact h
      clear hd hdep hfree
      refine .inl ⟨wanted_free rfl, ?_⟩
      simp only [Oper.wp, execOp]
      go_simp
      refine Nxt.mk _ rfl (fun _ _ => ?_) hS (fun _ _ h => h)
      (rw [hV.out]; rfl)
    · intro a W hd hS hdep hfree
      have x11 : a.tmps.getD 11 undef = .bool (GA && GB) := by have h := hdep 6 11 (by kernel_rfl) rfl; rw [hV.out] at h; exact h
      have x2 : a.tmps.getD 2 undef = .pointer (some ⟨w.heap.size, 0, none⟩) := hfree 2 (by kernel_rfl)
      clear hd hdep hfree
      rcases (Bool.eq_false_or_eq_true (((GA && GB) == true))).symm with hE | hE
      · exact .inr ⟨(wanted_sym rfl rfl x11).trans hE, fun _ _ => by rw [hV.out]; exact (onlyIf_neg hE).symm⟩
      refine .inl ⟨(wanted_sym rfl rfl x11).trans hE, ?_⟩
      have hG0 := eq_of_beq hE
      try (have hbits := HBT.out (by revert hE; cases GA <;> simp))
      have HE := Lib.hid hE
      clear hE hG0
      simp only [Oper.wp, execOp]
      go_simp
      refine Nxt.mk _ rfl (fun _ _ => ?_) hS (fun _ _ h => h)
      (rw [hV.out]; exact (onlyIf_pos HE.out).symm)
    · intro a W hd hS hdep hfree
      have x11 : a.tmps.getD 11 undef = .bool (GA && GB) := by have h := hdep 6 11 (by kernel_rfl) rfl; rw [hV.out] at h; exact h
      have x12 : a.tmps.getD 12 undef = onlyIf ((GA && GB) == true) (.pointer (some ⟨w.heap.size, 3, none⟩)) := by have h := hdep 7 12 (by kernel_rfl) rfl; rw [hV.out] at h; exact h
      clear hd hdep hfree
      rcases (Bool.eq_false_or_eq_true (((GA && GB) == true))).symm with hE | hE
      · exact .inr ⟨(wanted_sym rfl rfl x11).trans hE, fun _ _ => by rw [hV.out]; exact (onlyIf_neg hE).symm⟩
      refine .inl ⟨(wanted_sym rfl rfl x11).trans hE, ?_⟩
      replace x12 := x12.trans (onlyIf_pos hE)
      have hG0 := eq_of_beq hE
      try (have hbits := HBT.out (by revert hE; cases GA <;> simp))
      have HE := Lib.hid hE
      clear hE hG0
      have c0 : W.cell? ⟨w.heap.size, 3, none⟩ = some (.int .i64 xSrcBitsA) := (HB1.out.below hS hg1).cell 3 (by simp)
      simp only [Oper.wp, execOp]
      go_simp
      refine Nxt.mk _ rfl (fun _ _ => ?_) hS (fun _ _ h => h)
      (rw [hV.out]; exact (onlyIf_pos HE.out).symm)
    · intro a W hd hS hdep hfree
      have x11 : a.tmps.getD 11 undef = .bool (GA && GB) := by have h := hdep 6 11 (by kernel_rfl) rfl; rw [hV.out] at h; exact h
      have x3 : a.tmps.getD 3 undef = .pointer (some ⟨w.heap.size + 1, 0, none⟩) := hfree 3 (by kernel_rfl)
      clear hd hdep hfree
      rcases (Bool.eq_false_or_eq_true (((GA && GB) == true))).symm with hE | hE
      · exact .inr ⟨(wanted_sym rfl rfl x11).trans hE, fun _ _ => by rw [hV.out]; exact (onlyIf_neg hE).symm⟩
      refine .inl ⟨(wanted_sym rfl rfl x11).trans hE, ?_⟩
      have hG0 := eq_of_beq hE
      try (have hbits := HBT.out (by revert hE; cases GA <;> simp))
      have HE := Lib.hid hE
      clear hE hG0
      simp only [Oper.wp, execOp]
      go_simp
      refine Nxt.mk _ rfl (fun _ _ => ?_) hS (fun _ _ h => h)
      (rw [hV.out]; exact (onlyIf_pos HE.out).symm)
    · intro a W hd hS hdep hfree
      have x11 : a.tmps.getD 11 undef = .bool (GA && GB) := by have h := hdep 6 11 (by kernel_rfl) rfl; rw [hV.out] at h; exact h
      have x14 : a.tmps.getD 14 undef = onlyIf ((GA && GB) == true) (.pointer (some ⟨w.heap.size + 1, 3, none⟩)) := by have h := hdep 9 14 (by kernel_rfl) rfl; rw [hV.out] at h; exact h
      clear hd hdep hfree
      rcases (Bool.eq_false_or_eq_true (((GA && GB) == true))).symm with hE | hE
      · exact .inr ⟨(wanted_sym rfl rfl x11).trans hE, fun _ _ => by rw [hV.out]; exact (onlyIf_neg hE).symm⟩
      refine .inl ⟨(wanted_sym rfl rfl x11).trans hE, ?_⟩
      replace x14 := x14.trans (onlyIf_pos hE)
      have hG0 := eq_of_beq hE
      try (have hbits := HBT.out (by revert hE; cases GA <;> simp))
      have HE := Lib.hid hE
      clear hE hG0
      have c0 : W.cell? ⟨w.heap.size + 1, 3, none⟩ = some (.int .i64 xSrcBitsB) := (HB2.out.below hS hg2).cell 3 (by simp)
      simp only [Oper.wp, execOp]
      go_simp
      refine Nxt.mk _ rfl (fun _ _ => ?_) hS (fun _ _ h => h)
      (rw [hV.out]; exact (onlyIf_pos HE.out).symm)
    · intro a W hd hS hdep hfree
      have x11 : a.tmps.getD 11 undef = .bool (GA && GB) := by have h := hdep 6 11 (by kernel_rfl) rfl; rw [hV.out] at h; exact h
      have x13 : a.tmps.getD 13 undef = onlyIf ((GA && GB) == true) (.int .i64 xSrcBitsA) := by have h := hdep 8 13 (by kernel_rfl) rfl; rw [hV.out] at h; exact h
      have x15 : a.tmps.getD 15 undef = onlyIf ((GA && GB) == true) (.int .i64 xSrcBitsB) := by have h := hdep 10 15 (by kernel_rfl) rfl; rw [hV.out] at h; exact h
      clear hd hdep hfree
      rcases (Bool.eq_false_or_eq_true (((GA && GB) == true))).symm with hE | hE
      · exact .inr ⟨(wanted_sym rfl rfl x11).trans hE, fun _ _ => by rw [hV.out]; exact (onlyIf_neg hE).symm⟩
      refine .inl ⟨(wanted_sym rfl rfl x11).trans hE, ?_⟩
      replace x13 := x13.trans (onlyIf_pos hE)
      replace x15 := x15.trans (onlyIf_pos hE)
      have hG0 := eq_of_beq hE
      try (have hbits := HBT.out (by revert hE; cases GA <;> simp))
      have HE := Lib.hid hE
      clear hE hG0
      simp only [Oper.wp, execOp]
      go_simp
      refine Nxt.mk _ rfl (fun _ _ => ?_) hS (fun _ _ h => h)
      rw [hV.out]; first | exact (onlyIf_pos HE.out).symm | (show (_ : Value) = onlyIf _ _; rw [onlyIf_pos HE.out]; simp)
    · intro a W hd hS hdep hfree
      have x11 : a.tmps.getD 11 undef = .bool (GA && GB) := by have h := hdep 6 11 (by kernel_rfl) rfl; rw [hV.out] at h; exact h
      have x16 : a.tmps.getD 16 undef = onlyIf ((GA && GB) == true) (.bool (decide (xSrcBitsA ≤ xSrcBitsB))) := by have h := hdep 11 16 (by kernel_rfl) rfl; rw [hV.out] at h; exact h
      clear hd hdep hfree
      refine .inl ⟨wanted_free rfl, ?_⟩
      rcases (Bool.eq_false_or_eq_true ((GA && GB))).symm with hX | hX
      · rw [hX] at x11
        replace hX := Lib.hid hX
        simp only [Oper.wp, execOp]
        go_simp
        refine Nxt.mk _ rfl (fun _ _ => ?_) hS (fun _ _ h => h)
        rw [hV.out]; show (_ : Value) = .bool _; rw [hX.out]; rfl
      · have hp : ((GA && GB) == true) = true := by simp [hX]
        replace x16 := x16.trans (onlyIf_pos hp)
        rw [hX] at x11
        replace hX := Lib.hid hX
        simp only [Oper.wp, execOp]
        go_simp
        refine Nxt.mk _ rfl (fun _ _ => ?_) hS (fun _ _ h => h)
        rw [hV.out]; show (_ : Value) = .bool _; rw [hX.out]; rfl
    · intro a W hd hS hdep hfree
      have x17 : a.tmps.getD 17 undef = .bool ((GA && GB) && (decide (xSrcBitsA ≤ xSrcBitsB))) := by have h := hdep 12 17 (by kernel_rfl) rfl; rw [hV.out] at h; exact h
      clear hd hdep hfree
      refine .inl ⟨wanted_free rfl, ?_⟩
      simp only [Oper.wp, execOp]
      go_simp
      refine Nxt.mk _ rfl (fun _ _ => ?_) hS (fun _ _ h => h)
      (rw [hV.out]; rfl)
    · intro a W hd hS hdep hfree
      have x18 : a.tmps.getD 18 undef = .bool ((GA && GB) && (decide (xSrcBitsA ≤ xSrcBitsB))) := by have h := hdep 13 18 (by kernel_rfl) rfl; rw [hV.out] at h; exact h
      have x2 : a.tmps.getD 2 undef = .pointer (some ⟨w.heap.size, 0, none⟩) := hfree 2 (by kernel_rfl)
      clear hd hdep hfree
      rcases (Bool.eq_false_or_eq_true ((((GA && GB) && (decide (xSrcBitsA ≤ xSrcBitsB))) == true))).symm with hE | hE
      · exact .inr ⟨(wanted_sym rfl rfl x18).trans hE, fun _ _ => by rw [hV.out]; exact (onlyIf_neg hE).symm⟩
      refine .inl ⟨(wanted_sym rfl rfl x18).trans hE, ?_⟩
      have hG0 := eq_of_beq hE
      try (have hbits := HBT.out (by revert hE; cases GA <;> simp))
      have HE := Lib.hid hE
      clear hE hG0
      simp only [Oper.wp, execOp]
      go_simp
      refine Nxt.mk _ rfl (fun _ _ => ?_) hS (fun _ _ h => h)
      (rw [hV.out]; exact (onlyIf_pos HE.out).symm)
    · intro a W hd hS hdep hfree
      have x18 : a.tmps.getD 18 undef = .bool ((GA && GB) && (decide (xSrcBitsA ≤ xSrcBitsB))) := by have h := hdep 13 18 (by kernel_rfl) rfl; rw [hV.out] at h; exact h
      have x19 : a.tmps.getD 19 undef = onlyIf (((GA && GB) && (decide (xSrcBitsA ≤ xSrcBitsB))) == true) (.pointer (some ⟨w.heap.size, 2, none⟩)) := by have h := hdep 14 19 (by kernel_rfl) rfl; rw [hV.out] at h; exact h
      clear hd hdep hfree
      rcases (Bool.eq_false_or_eq_true ((((GA && GB) && (decide (xSrcBitsA ≤ xSrcBitsB))) == true))).symm with hE | hE
      · exact .inr ⟨(wanted_sym rfl rfl x18).trans hE, fun _ _ => by rw [hV.out]; exact (onlyIf_neg hE).symm⟩
      refine .inl ⟨(wanted_sym rfl rfl x18).trans hE, ?_⟩
      replace x19 := x19.trans (onlyIf_pos hE)
      have hG0 := eq_of_beq hE
      try (have hbits := HBT.out (by revert hE; cases GA <;> simp))
      have HE := Lib.hid hE
      clear hE hG0
      have c0 : W.cell? ⟨w.heap.size, 2, none⟩ = some (.int .i64 xSrcIpA) := (HB1.out.below hS hg1).cell 2 (by simp)
      simp only [Oper.wp, execOp]
      go_simp
      refine Nxt.mk _ rfl (fun _ _ => ?_) hS (fun _ _ h => h)
      (rw [hV.out]; exact (onlyIf_pos HE.out).symm)
    · intro a W hd hS hdep hfree
      have x18 : a.tmps.getD 18 undef = .bool ((GA && GB) && (decide (xSrcBitsA ≤ xSrcBitsB))) := by have h := hdep 13 18 (by kernel_rfl) rfl; rw [hV.out] at h; exact h
      have x3 : a.tmps.getD 3 undef = .pointer (some ⟨w.heap.size + 1, 0, none⟩) := hfree 3 (by kernel_rfl)
      clear hd hdep hfree
      rcases (Bool.eq_false_or_eq_true ((((GA && GB) && (decide (xSrcBitsA ≤ xSrcBitsB))) == true))).symm with hE | hE
      · exact .inr ⟨(wanted_sym rfl rfl x18).trans hE, fun _ _ => by rw [hV.out]; exact (onlyIf_neg hE).symm⟩
      refine .inl ⟨(wanted_sym rfl rfl x18).trans hE, ?_⟩
      have hG0 := eq_of_beq hE
      try (have hbits := HBT.out (by revert hE; cases GA <;> simp))
      have HE := Lib.hid hE
      clear hE hG0
      simp only [Oper.wp, execOp]
      go_simp
      refine Nxt.mk _ rfl (fun _ _ => ?_) hS (fun _ _ h => h)
      (rw [hV.out]; exact (onlyIf_pos HE.out).symm)
    · intro a W hd hS hdep hfree
      have x18 : a.tmps.getD 18 undef = .bool ((GA && GB) && (decide (xSrcBitsA ≤ xSrcBitsB))) := by have h := hdep 13 18 (by kernel_rfl) rfl; rw [hV.out] at h; exact h
      have x21 : a.tmps.getD 21 undef = onlyIf (((GA && GB) && (decide (xSrcBitsA ≤ xSrcBitsB))) == true) (.pointer (some ⟨w.heap.size + 1, 2, none⟩)) := by have h := hdep 16 21 (by kernel_rfl) rfl; rw [hV.out] at h; exact h
      clear hd hdep hfree
      rcases (Bool.eq_false_or_eq_true ((((GA && GB) && (decide (xSrcBitsA ≤ xSrcBitsB))) == true))).symm with hE | hE
      · exact .inr ⟨(wanted_sym rfl rfl x18).trans hE, fun _ _ => by rw [hV.out]; exact (onlyIf_neg hE).symm⟩
      refine .inl ⟨(wanted_sym rfl rfl x18).trans hE, ?_⟩
      replace x21 := x21.trans (onlyIf_pos hE)
      have hG0 := eq_of_beq hE
      try (have hbits := HBT.out (by revert hE; cases GA <;> simp))
      have HE := Lib.hid hE
      clear hE hG0
      have c0 : W.cell? ⟨w.heap.size + 1, 2, none⟩ = some (.int .i64 xSrcIpB) := (HB2.out.below hS hg2).cell 2 (by simp)
      simp only [Oper.wp, execOp]
      go_simp
      refine Nxt.mk _ rfl (fun _ _ => ?_) hS (fun _ _ h => h)
      (rw [hV.out]; exact (onlyIf_pos HE.out).symm)
    · intro a W hd hS hdep hfree
      have x18 : a.tmps.getD 18 undef = .bool ((GA && GB) && (decide (xSrcBitsA ≤ xSrcBitsB))) := by have h := hdep 13 18 (by kernel_rfl) rfl; rw [hV.out] at h; exact h
      have x2 : a.tmps.getD 2 undef = .pointer (some ⟨w.heap.size, 0, none⟩) := hfree 2 (by kernel_rfl)
      clear hd hdep hfree
      rcases (Bool.eq_false_or_eq_true ((((GA && GB) && (decide (xSrcBitsA ≤ xSrcBitsB))) == true))).symm with hE | hE
      · exact .inr ⟨(wanted_sym rfl rfl x18).trans hE, fun _ _ => by rw [hV.out]; exact (onlyIf_neg hE).symm⟩
      refine .inl ⟨(wanted_sym rfl rfl x18).trans hE, ?_⟩
      have hG0 := eq_of_beq hE
      try (have hbits := HBT.out (by revert hE; cases GA <;> simp))
      have HE := Lib.hid hE
      clear hE hG0
      simp only [Oper.wp, execOp]
      go_simp
      refine Nxt.mk _ rfl (fun _ _ => ?_) hS (fun _ _ h => h)
      (rw [hV.out]; exact (onlyIf_pos HE.out).symm)
    · intro a W hd hS hdep hfree
      have x18 : a.tmps.getD 18 undef = .bool ((GA && GB) && (decide (xSrcBitsA ≤ xSrcBitsB))) := by have h := hdep 13 18 (by kernel_rfl) rfl; rw [hV.out] at h; exact h
      have x23 : a.tmps.getD 23 undef = onlyIf (((GA && GB) && (decide (xSrcBitsA ≤ xSrcBitsB))) == true) (.pointer (some ⟨w.heap.size, 3, none⟩)) := by have h := hdep 18 23 (by kernel_rfl) rfl; rw [hV.out] at h; exact h
      clear hd hdep hfree
      rcases (Bool.eq_false_or_eq_true ((((GA && GB) && (decide (xSrcBitsA ≤ xSrcBitsB))) == true))).symm with hE | hE
      · exact .inr ⟨(wanted_sym rfl rfl x18).trans hE, fun _ _ => by rw [hV.out]; exact (onlyIf_neg hE).symm⟩
      refine .inl ⟨(wanted_sym rfl rfl x18).trans hE, ?_⟩
      replace x23 := x23.trans (onlyIf_pos hE)
      have hG0 := eq_of_beq hE
      try (have hbits := HBT.out (by revert hE; cases GA <;> simp))
      have HE := Lib.hid hE
      clear hE hG0
      have c0 : W.cell? ⟨w.heap.size, 3, none⟩ = some (.int .i64 xSrcBitsA) := (HB1.out.below hS hg1).cell 3 (by simp)
      simp only [Oper.wp, execOp]
      go_simp
      refine Nxt.mk _ rfl (fun _ _ => ?_) hS (fun _ _ h => h)
      (rw [hV.out]; exact (onlyIf_pos HE.out).symm)
    · intro a W hd hS hdep hfree
      have x18 : a.tmps.getD 18 undef = .bool ((GA && GB) && (decide (xSrcBitsA ≤ xSrcBitsB))) := by have h := hdep 13 18 (by kernel_rfl) rfl; rw [hV.out] at h; exact h
      have x20 : a.tmps.getD 20 undef = onlyIf (((GA && GB) && (decide (xSrcBitsA ≤ xSrcBitsB))) == true) (.int .i64 xSrcIpA) := by have h := hdep 15 20 (by kernel_rfl) rfl; rw [hV.out] at h; exact h
      have x22 : a.tmps.getD 22 undef = onlyIf (((GA && GB) && (decide (xSrcBitsA ≤ xSrcBitsB))) == true) (.int .i64 xSrcIpB) := by have h := hdep 17 22 (by kernel_rfl) rfl; rw [hV.out] at h; exact h
      have x24 : a.tmps.getD 24 undef = onlyIf (((GA && GB) && (decide (xSrcBitsA ≤ xSrcBitsB))) == true) (.int .i64 xSrcBitsA) := by have h := hdep 19 24 (by kernel_rfl) rfl; rw [hV.out] at h; exact h
      clear hd hdep hfree
      rcases (Bool.eq_false_or_eq_true ((((GA && GB) && (decide (xSrcBitsA ≤ xSrcBitsB))) == true))).symm with hE | hE
      · exact .inr ⟨(wanted_sym rfl rfl x18).trans hE, fun _ _ => by rw [hV.out]; exact (onlyIf_neg hE).symm⟩
      refine .inl ⟨(wanted_sym rfl rfl x18).trans hE, ?_⟩
      replace x20 := x20.trans (onlyIf_pos hE)
      replace x22 := x22.trans (onlyIf_pos hE)
      replace x24 := x24.trans (onlyIf_pos hE)
      have hG0 := eq_of_beq hE
      try (have hbits := HBT.out (by revert hE; cases GA <;> simp))
      have HE := Lib.hid hE
      clear hE hG0
      simp only [Oper.wp, execOp]
      go_simp
      refine ((impl_samestart xSrcIpA xSrcIpB xSrcBitsA W hbits)).mono ?_
      rintro e W' ⟨rfl, hb⟩
      exact Nxt.mk _ rfl (fun _ _ => by (rw [hV.out]; exact (onlyIf_pos HE.out).symm)) (below_comp hS hb) (fun j u h => by rw [hV.out] at h ⊢; exact Vals.below hb j u h)
    · intro a W hd hS hdep hfree
      have x18 : a.tmps.getD 18 undef = .bool ((GA && GB) && (decide (xSrcBitsA ≤ xSrcBitsB))) := by have h := hdep 13 18 (by kernel_rfl) rfl; rw [hV.out] at h; exact h
      have x25 : a.tmps.getD 25 undef = onlyIf (((GA && GB) && (decide (xSrcBitsA ≤ xSrcBitsB))) == true) (.bool (same xSrcIpA xSrcIpB xSrcBitsA)) := by have h := hdep 20 25 (by kernel_rfl) rfl; rw [hV.out] at h; exact h
      clear hd hdep hfree
      refine .inl ⟨wanted_free rfl, ?_⟩
      rcases (Bool.eq_false_or_eq_true (((GA && GB) && (decide (xSrcBitsA ≤ xSrcBitsB))))).symm with hX | hX
      · rw [hX] at x18
        replace hX := Lib.hid hX
        simp only [Oper.wp, execOp]
        go_simp
        refine Nxt.mk _ rfl (fun _ _ => ?_) hS (fun _ _ h => h)
        rw [hV.out]; show (_ : Value) = .bool _; rw [hX.out]; rfl
      · have hp : (((GA && GB) && (decide (xSrcBitsA ≤ xSrcBitsB))) == true) = true := by simp [hX]
        replace x25 := x25.trans (onlyIf_pos hp)
        rw [hX] at x18
        replace hX := Lib.hid hX
        simp only [Oper.wp, execOp]
        go_simp
        refine Nxt.mk _ rfl (fun _ _ => ?_) hS (fun _ _ h => h)
        rw [hV.out]; show (_ : Value) = .bool _; rw [hX.out]; rfl
    · intro a W hd hS hdep hfree
      have x26 : a.tmps.getD 26 undef = .bool (((GA && GB) && (decide (xSrcBitsA ≤ xSrcBitsB))) && (same xSrcIpA xSrcIpB xSrcBitsA)) := by have h := hdep 21 26 (by kernel_rfl) rfl; rw [hV.out] at h; exact h
      clear hd hdep hfree
      refine .inl ⟨wanted_free rfl, ?_⟩
      simp only [Oper.wp, execOp]
      go_simp
      refine Nxt.mk _ rfl (fun _ _ => ?_) hS (fun _ _ h => h)
      (rw [hV.out]; rfl)
    · intro a W hd hS hdep hfree
      have x27 : a.tmps.getD 27 undef = .bool (((GA && GB) && (decide (xSrcBitsA ≤ xSrcBitsB))) && (same xSrcIpA xSrcIpB xSrcBitsA)) := by have h := hdep 22 27 (by kernel_rfl) rfl; rw [hV.out] at h; exact h
      have x2 : a.tmps.getD 2 undef = .pointer (some ⟨w.heap.size, 0, none⟩) := hfree 2 (by kernel_rfl)
      clear hd hdep hfree
      rcases (Bool.eq_false_or_eq_true (((((GA && GB) && (decide (xSrcBitsA ≤ xSrcBitsB))) && (same xSrcIpA xSrcIpB xSrcBitsA)) == true))).symm with hE | hE
      · exact .inr ⟨(wanted_sym rfl rfl x27).trans hE, fun _ _ => by rw [hV.out]; exact (onlyIf_neg hE).symm⟩
      refine .inl ⟨(wanted_sym rfl rfl x27).trans hE, ?_⟩
      have hG0 := eq_of_beq hE
      try (have hbits := HBT.out (by revert hE; cases GA <;> simp))
      have HE := Lib.hid hE
      clear hE hG0
      simp only [Oper.wp, execOp]
      go_simp
      refine Nxt.mk _ rfl (fun _ _ => ?_) hS (fun _ _ h => h)
      (rw [hV.out]; exact (onlyIf_pos HE.out).symm)
    · intro a W hd hS hdep hfree
      have x27 : a.tmps.getD 27 undef = .bool (((GA && GB) && (decide (xSrcBitsA ≤ xSrcBitsB))) && (same xSrcIpA xSrcIpB xSrcBitsA)) := by have h := hdep 22 27 (by kernel_rfl) rfl; rw [hV.out] at h; exact h
      have x28 : a.tmps.getD 28 undef = onlyIf ((((GA && GB) && (decide (xSrcBitsA ≤ xSrcBitsB))) && (same xSrcIpA xSrcIpB xSrcBitsA)) == true) (.pointer (some ⟨w.heap.size, 4, none⟩)) := by have h := hdep 23 28 (by kernel_rfl) rfl; rw [hV.out] at h; exact h
      clear hd hdep hfree
      rcases (Bool.eq_false_or_eq_true (((((GA && GB) && (decide (xSrcBitsA ≤ xSrcBitsB))) && (same xSrcIpA xSrcIpB xSrcBitsA)) == true))).symm with hE | hE
      · exact .inr ⟨(wanted_sym rfl rfl x27).trans hE, fun _ _ => by rw [hV.out]; exact (onlyIf_neg hE).symm⟩
      refine .inl ⟨(wanted_sym rfl rfl x27).trans hE, ?_⟩
      replace x28 := x28.trans (onlyIf_pos hE)
      have hG0 := eq_of_beq hE
      try (have hbits := HBT.out (by revert hE; cases GA <;> simp))
      have HE := Lib.hid hE
      clear hE hG0
      have c0 : W.cell? ⟨w.heap.size, 4, none⟩ = some (.int .i64 xFirstPortA) := (HB1.out.below hS hg1).cell 4 (by simp)
      simp only [Oper.wp, execOp]
      go_simp
      refine Nxt.mk _ rfl (fun _ _ => ?_) hS (fun _ _ h => h)
      (rw [hV.out]; exact (onlyIf_pos HE.out).symm)
    · intro a W hd hS hdep hfree
      have x27 : a.tmps.getD 27 undef = .bool (((GA && GB) && (decide (xSrcBitsA ≤ xSrcBitsB))) && (same xSrcIpA xSrcIpB xSrcBitsA)) := by have h := hdep 22 27 (by kernel_rfl) rfl; rw [hV.out] at h; exact h
      have x3 : a.tmps.getD 3 undef = .pointer (some ⟨w.heap.size + 1, 0, none⟩) := hfree 3 (by kernel_rfl)
      clear hd hdep hfree
      rcases (Bool.eq_false_or_eq_true (((((GA && GB) && (decide (xSrcBitsA ≤ xSrcBitsB))) && (same xSrcIpA xSrcIpB xSrcBitsA)) == true))).symm with hE | hE
      · exact .inr ⟨(wanted_sym rfl rfl x27).trans hE, fun _ _ => by rw [hV.out]; exact (onlyIf_neg hE).symm⟩
      refine .inl ⟨(wanted_sym rfl rfl x27).trans hE, ?_⟩
      have hG0 := eq_of_beq hE
      try (have hbits := HBT.out (by revert hE; cases GA <;> simp))
      have HE := Lib.hid hE
      clear hE hG0
      simp only [Oper.wp, execOp]
      go_simp
      refine Nxt.mk _ rfl (fun _ _ => ?_) hS (fun _ _ h => h)
      (rw [hV.out]; exact (onlyIf_pos HE.out).symm)
    · intro a W hd hS hdep hfree
      have x27 : a.tmps.getD 27 undef = .bool (((GA && GB) && (decide (xSrcBitsA ≤ xSrcBitsB))) && (same xSrcIpA xSrcIpB xSrcBitsA)) := by have h := hdep 22 27 (by kernel_rfl) rfl; rw [hV.out] at h; exact h
      have x30 : a.tmps.getD 30 undef = onlyIf ((((GA && GB) && (decide (xSrcBitsA ≤ xSrcBitsB))) && (same xSrcIpA xSrcIpB xSrcBitsA)) == true) (.pointer (some ⟨w.heap.size + 1, 4, none⟩)) := by have h := hdep 25 30 (by kernel_rfl) rfl; rw [hV.out] at h; exact h
      clear hd hdep hfree
      rcases (Bool.eq_false_or_eq_true (((((GA && GB) && (decide (xSrcBitsA ≤ xSrcBitsB))) && (same xSrcIpA xSrcIpB xSrcBitsA)) == true))).symm with hE | hE
      · exact .inr ⟨(wanted_sym rfl rfl x27).trans hE, fun _ _ => by rw [hV.out]; exact (onlyIf_neg hE).symm⟩
      refine .inl ⟨(wanted_sym rfl rfl x27).trans hE, ?_⟩
      replace x30 := x30.trans (onlyIf_pos hE)
      have hG0 := eq_of_beq hE
      try (have hbits := HBT.out (by revert hE; cases GA <;> simp))
      have HE := Lib.hid hE
      clear hE hG0
      have c0 : W.cell? ⟨w.heap.size + 1, 4, none⟩ = some (.int .i64 xFirstPortB) := (HB2.out.below hS hg2).cell 4 (by simp)
      simp only [Oper.wp, execOp]
      go_simp
      refine Nxt.mk _ rfl (fun _ _ => ?_) hS (fun _ _ h => h)
      (rw [hV.out]; exact (onlyIf_pos HE.out).symm)
    · intro a W hd hS hdep hfree
      have x27 : a.tmps.getD 27 undef = .bool (((GA && GB) && (decide (xSrcBitsA ≤ xSrcBitsB))) && (same xSrcIpA xSrcIpB xSrcBitsA)) := by have h := hdep 22 27 (by kernel_rfl) rfl; rw [hV.out] at h; exact h
      have x29 : a.tmps.getD 29 undef = onlyIf ((((GA && GB) && (decide (xSrcBitsA ≤ xSrcBitsB))) && (same xSrcIpA xSrcIpB xSrcBitsA)) == true) (.int .i64 xFirstPortA) := by have h := hdep 24 29 (by kernel_rfl) rfl; rw [hV.out] at h; exact h
      have x31 : a.tmps.getD 31 undef = onlyIf ((((GA && GB) && (decide (xSrcBitsA ≤ xSrcBitsB))) && (same xSrcIpA xSrcIpB xSrcBitsA)) == true) (.int .i64 xFirstPortB) := by have h := hdep 26 31 (by kernel_rfl) rfl; rw [hV.out] at h; exact h
      clear hd hdep hfree
      rcases (Bool.eq_false_or_eq_true (((((GA && GB) && (decide (xSrcBitsA ≤ xSrcBitsB))) && (same xSrcIpA xSrcIpB xSrcBitsA)) == true))).symm with hE | hE
      · exact .inr ⟨(wanted_sym rfl rfl x27).trans hE, fun _ _ => by rw [hV.out]; exact (onlyIf_neg hE).symm⟩
      refine .inl ⟨(wanted_sym rfl rfl x27).trans hE, ?_⟩
      replace x29 := x29.trans (onlyIf_pos hE)
      replace x31 := x31.trans (onlyIf_pos hE)
      have hG0 := eq_of_beq hE
      try (have hbits := HBT.out (by revert hE; cases GA <;> simp))
      have HE := Lib.hid hE
      clear hE hG0
      simp only [Oper.wp, execOp]
      go_simp
      refine Nxt.mk _ rfl (fun _ _ => ?_) hS (fun _ _ h => h)
      rw [hV.out]; first | exact (onlyIf_pos HE.out).symm | (show (_ : Value) = onlyIf _ _; rw [onlyIf_pos HE.out]; simp)
    · intro a W hd hS hdep hfree
      have x27 : a.tmps.getD 27 undef = .bool (((GA && GB) && (decide (xSrcBitsA ≤ xSrcBitsB))) && (same xSrcIpA xSrcIpB xSrcBitsA)) := by have h := hdep 22 27 (by kernel_rfl) rfl; rw [hV.out] at h; exact h
      have x32 : a.tmps.getD 32 undef = onlyIf ((((GA && GB) && (decide (xSrcBitsA ≤ xSrcBitsB))) && (same xSrcIpA xSrcIpB xSrcBitsA)) == true) (.bool (decide (xFirstPortA ≤ xFirstPortB))) := by have h := hdep 27 32 (by kernel_rfl) rfl; rw [hV.out] at h; exact h
      clear hd hdep hfree
      refine .inl ⟨wanted_free rfl, ?_⟩
      rcases (Bool.eq_false_or_eq_true ((((GA && GB) && (decide (xSrcBitsA ≤ xSrcBitsB))) && (same xSrcIpA xSrcIpB xSrcBitsA)))).symm with hX | hX
      · rw [hX] at x27
        replace hX := Lib.hid hX
        simp only [Oper.wp, execOp]
        go_simp
        refine Nxt.mk _ rfl (fun _ _ => ?_) hS (fun _ _ h => h)
        rw [hV.out]; show (_ : Value) = .bool _; rw [hX.out]; rfl
      · have hp : ((((GA && GB) && (decide (xSrcBitsA ≤ xSrcBitsB))) && (same xSrcIpA xSrcIpB xSrcBitsA)) == true) = true := by simp [hX]
        replace x32 := x32.trans (onlyIf_pos hp)
        rw [hX] at x27
        replace hX := Lib.hid hX
        simp only [Oper.wp, execOp]
        go_simp
        refine Nxt.mk _ rfl (fun _ _ => ?_) hS (fun _ _ h => h)
        rw [hV.out]; show (_ : Value) = .bool _; rw [hX.out]; rfl
    · intro a W hd hS hdep hfree
      have x33 : a.tmps.getD 33 undef = .bool ((((GA && GB) && (decide (xSrcBitsA ≤ xSrcBitsB))) && (same xSrcIpA xSrcIpB xSrcBitsA)) && (decide (xFirstPortA ≤ xFirstPortB))) := by have h := hdep 28 33 (by kernel_rfl) rfl; rw [hV.out] at h; exact h
      clear hd hdep hfree
      refine .inl ⟨wanted_free rfl, ?_⟩
      simp only [Oper.wp, execOp]
      go_simp
      refine Nxt.mk _ rfl (fun _ _ => ?_) hS (fun _ _ h => h)
      (rw [hV.out]; rfl)
    · intro a W hd hS hdep hfree
      have x34 : a.tmps.getD 34 undef = .bool ((((GA && GB) && (decide (xSrcBitsA ≤ xSrcBitsB))) && (same xSrcIpA xSrcIpB xSrcBitsA)) && (decide (xFirstPortA ≤ xFirstPortB))) := by have h := hdep 29 34 (by kernel_rfl) rfl; rw [hV.out] at h; exact h
      have x3 : a.tmps.getD 3 undef = .pointer (some ⟨w.heap.size + 1, 0, none⟩) := hfree 3 (by kernel_rfl)
      clear hd hdep hfree
      rcases (Bool.eq_false_or_eq_true ((((((GA && GB) && (decide (xSrcBitsA ≤ xSrcBitsB))) && (same xSrcIpA xSrcIpB xSrcBitsA)) && (decide (xFirstPortA ≤ xFirstPortB))) == true))).symm with hE | hE
      · exact .inr ⟨(wanted_sym rfl rfl x34).trans hE, fun _ _ => by rw [hV.out]; exact (onlyIf_neg hE).symm⟩
      refine .inl ⟨(wanted_sym rfl rfl x34).trans hE, ?_⟩
      have hG0 := eq_of_beq hE
      try (have hbits := HBT.out (by revert hE; cases GA <;> simp))
      have HE := Lib.hid hE
      clear hE hG0
      simp only [Oper.wp, execOp]
      go_simp
      refine Nxt.mk _ rfl (fun _ _ => ?_) hS (fun _ _ h => h)
      (rw [hV.out]; exact (onlyIf_pos HE.out).symm)
    · intro a W hd hS hdep hfree
      have x34 : a.tmps.getD 34 undef = .bool ((((GA && GB) && (decide (xSrcBitsA ≤ xSrcBitsB))) && (same xSrcIpA xSrcIpB xSrcBitsA)) && (decide (xFirstPortA ≤ xFirstPortB))) := by have h := hdep 29 34 (by kernel_rfl) rfl; rw [hV.out] at h; exact h
      have x35 : a.tmps.getD 35 undef = onlyIf (((((GA && GB) && (decide (xSrcBitsA ≤ xSrcBitsB))) && (same xSrcIpA xSrcIpB xSrcBitsA)) && (decide (xFirstPortA ≤ xFirstPortB))) == true) (.pointer (some ⟨w.heap.size + 1, 5, none⟩)) := by have h := hdep 30 35 (by kernel_rfl) rfl; rw [hV.out] at h; exact h
      clear hd hdep hfree
      rcases (Bool.eq_false_or_eq_true ((((((GA && GB) && (decide (xSrcBitsA ≤ xSrcBitsB))) && (same xSrcIpA xSrcIpB xSrcBitsA)) && (decide (xFirstPortA ≤ xFirstPortB))) == true))).symm with hE | hE
      · exact .inr ⟨(wanted_sym rfl rfl x34).trans hE, fun _ _ => by rw [hV.out]; exact (onlyIf_neg hE).symm⟩
      refine .inl ⟨(wanted_sym rfl rfl x34).trans hE, ?_⟩
      replace x35 := x35.trans (onlyIf_pos hE)
      have hG0 := eq_of_beq hE
      try (have hbits := HBT.out (by revert hE; cases GA <;> simp))
      have HE := Lib.hid hE
      clear hE hG0
      have c0 : W.cell? ⟨w.heap.size + 1, 5, none⟩ = some (.int .i64 xLastPortB) := (HB2.out.below hS hg2).cell 5 (by simp)
      simp only [Oper.wp, execOp]
      go_simp
      refine Nxt.mk _ rfl (fun _ _ => ?_) hS (fun _ _ h => h)
      (rw [hV.out]; exact (onlyIf_pos HE.out).symm)
    · intro a W hd hS hdep hfree
      have x34 : a.tmps.getD 34 undef = .bool ((((GA && GB) && (decide (xSrcBitsA ≤ xSrcBitsB))) && (same xSrcIpA xSrcIpB xSrcBitsA)) && (decide (xFirstPortA ≤ xFirstPortB))) := by have h := hdep 29 34 (by kernel_rfl) rfl; rw [hV.out] at h; exact h
      have x2 : a.tmps.getD 2 undef = .pointer (some ⟨w.heap.size, 0, none⟩) := hfree 2 (by kernel_rfl)
      clear hd hdep hfree
      rcases (Bool.eq_false_or_eq_true ((((((GA && GB) && (decide (xSrcBitsA ≤ xSrcBitsB))) && (same xSrcIpA xSrcIpB xSrcBitsA)) && (decide (xFirstPortA ≤ xFirstPortB))) == true))).symm with hE | hE
      · exact .inr ⟨(wanted_sym rfl rfl x34).trans hE, fun _ _ => by rw [hV.out]; exact (onlyIf_neg hE).symm⟩
      refine .inl ⟨(wanted_sym rfl rfl x34).trans hE, ?_⟩
      have hG0 := eq_of_beq hE
      try (have hbits := HBT.out (by revert hE; cases GA <;> simp))
      have HE := Lib.hid hE
      clear hE hG0
      simp only [Oper.wp, execOp]
      go_simp
      refine Nxt.mk _ rfl (fun _ _ => ?_) hS (fun _ _ h => h)
      (rw [hV.out]; exact (onlyIf_pos HE.out).symm)
    · intro a W hd hS hdep hfree
      have x34 : a.tmps.getD 34 undef = .bool ((((GA && GB) && (decide (xSrcBitsA ≤ xSrcBitsB))) && (same xSrcIpA xSrcIpB xSrcBitsA)) && (decide (xFirstPortA ≤ xFirstPortB))) := by have h := hdep 29 34 (by kernel_rfl) rfl; rw [hV.out] at h; exact h
      have x37 : a.tmps.getD 37 undef = onlyIf (((((GA && GB) && (decide (xSrcBitsA ≤ xSrcBitsB))) && (same xSrcIpA xSrcIpB xSrcBitsA)) && (decide (xFirstPortA ≤ xFirstPortB))) == true) (.pointer (some ⟨w.heap.size, 5, none⟩)) := by have h := hdep 32 37 (by kernel_rfl) rfl; rw [hV.out] at h; exact h
      clear hd hdep hfree
      rcases (Bool.eq_false_or_eq_true ((((((GA && GB) && (decide (xSrcBitsA ≤ xSrcBitsB))) && (same xSrcIpA xSrcIpB xSrcBitsA)) && (decide (xFirstPortA ≤ xFirstPortB))) == true))).symm with hE | hE
      · exact .inr ⟨(wanted_sym rfl rfl x34).trans hE, fun _ _ => by rw [hV.out]; exact (onlyIf_neg hE).symm⟩
      refine .inl ⟨(wanted_sym rfl rfl x34).trans hE, ?_⟩
      replace x37 := x37.trans (onlyIf_pos hE)
      have hG0 := eq_of_beq hE
      try (have hbits := HBT.out (by revert hE; cases GA <;> simp))
      have HE := Lib.hid hE
      clear hE hG0
      have c0 : W.cell? ⟨w.heap.size, 5, none⟩ = some (.int .i64 xLastPortA) := (HB1.out.below hS hg1).cell 5 (by simp)
      simp only [Oper.wp, execOp]
      go_simp
      refine Nxt.mk _ rfl (fun _ _ => ?_) hS (fun _ _ h => h)
      (rw [hV.out]; exact (onlyIf_pos HE.out).symm)
    · intro a W hd hS hdep hfree
      have x34 : a.tmps.getD 34 undef = .bool ((((GA && GB) && (decide (xSrcBitsA ≤ xSrcBitsB))) && (same xSrcIpA xSrcIpB xSrcBitsA)) && (decide (xFirstPortA ≤ xFirstPortB))) := by have h := hdep 29 34 (by kernel_rfl) rfl; rw [hV.out] at h; exact h
      have x36 : a.tmps.getD 36 undef = onlyIf (((((GA && GB) && (decide (xSrcBitsA ≤ xSrcBitsB))) && (same xSrcIpA xSrcIpB xSrcBitsA)) && (decide (xFirstPortA ≤ xFirstPortB))) == true) (.int .i64 xLastPortB) := by have h := hdep 31 36 (by kernel_rfl) rfl; rw [hV.out] at h; exact h
      have x38 : a.tmps.getD 38 undef = onlyIf (((((GA && GB) && (decide (xSrcBitsA ≤ xSrcBitsB))) && (same xSrcIpA xSrcIpB xSrcBitsA)) && (decide (xFirstPortA ≤ xFirstPortB))) == true) (.int .i64 xLastPortA) := by have h := hdep 33 38 (by kernel_rfl) rfl; rw [hV.out] at h; exact h
      clear hd hdep hfree
      rcases (Bool.eq_false_or_eq_true ((((((GA && GB) && (decide (xSrcBitsA ≤ xSrcBitsB))) && (same xSrcIpA xSrcIpB xSrcBitsA)) && (decide (xFirstPortA ≤ xFirstPortB))) == true))).symm with hE | hE
      · exact .inr ⟨(wanted_sym rfl rfl x34).trans hE, fun _ _ => by rw [hV.out]; exact (onlyIf_neg hE).symm⟩
      refine .inl ⟨(wanted_sym rfl rfl x34).trans hE, ?_⟩
      replace x36 := x36.trans (onlyIf_pos hE)
      replace x38 := x38.trans (onlyIf_pos hE)
      have hG0 := eq_of_beq hE
      try (have hbits := HBT.out (by revert hE; cases GA <;> simp))
      have HE := Lib.hid hE
      clear hE hG0
      simp only [Oper.wp, execOp]
      go_simp
      refine Nxt.mk _ rfl (fun _ _ => ?_) hS (fun _ _ h => h)
      rw [hV.out]; first | exact (onlyIf_pos HE.out).symm | (show (_ : Value) = onlyIf _ _; rw [onlyIf_pos HE.out]; simp)
    · intro a W hd hS hdep hfree
      have x34 : a.tmps.getD 34 undef = .bool ((((GA && GB) && (decide (xSrcBitsA ≤ xSrcBitsB))) && (same xSrcIpA xSrcIpB xSrcBitsA)) && (decide (xFirstPortA ≤ xFirstPortB))) := by have h := hdep 29 34 (by kernel_rfl) rfl; rw [hV.out] at h; exact h
      have x39 : a.tmps.getD 39 undef = onlyIf (((((GA && GB) && (decide (xSrcBitsA ≤ xSrcBitsB))) && (same xSrcIpA xSrcIpB xSrcBitsA)) && (decide (xFirstPortA ≤ xFirstPortB))) == true) (.bool (decide (xLastPortB ≤ xLastPortA))) := by have h := hdep 34 39 (by kernel_rfl) rfl; rw [hV.out] at h; exact h
      clear hd hdep hfree
      refine .inl ⟨wanted_free rfl, ?_⟩
      rcases (Bool.eq_false_or_eq_true (((((GA && GB) && (decide (xSrcBitsA ≤ xSrcBitsB))) && (same xSrcIpA xSrcIpB xSrcBitsA)) && (decide (xFirstPortA ≤ xFirstPortB))))).symm with hX | hX
      · rw [hX] at x34
        replace hX := Lib.hid hX
        simp only [Oper.wp, execOp]
        go_simp
        refine Nxt.mk _ rfl (fun _ _ => ?_) hS (fun _ _ h => h)
        rw [hV.out]; show (_ : Value) = .bool _; rw [hX.out]; rfl
      · have hp : (((((GA && GB) && (decide (xSrcBitsA ≤ xSrcBitsB))) && (same xSrcIpA xSrcIpB xSrcBitsA)) && (decide (xFirstPortA ≤ xFirstPortB))) == true) = true := by simp [hX]
        replace x39 := x39.trans (onlyIf_pos hp)
        rw [hX] at x34
        replace hX := Lib.hid hX
        simp only [Oper.wp, execOp]
        go_simp
        refine Nxt.mk _ rfl (fun _ _ => ?_) hS (fun _ _ h => h)
        rw [hV.out]; show (_ : Value) = .bool _; rw [hX.out]; rfl
    · intro a W hd hS hdep hfree
      have x40 : a.tmps.getD 40 undef = .bool (((((GA && GB) && (decide (xSrcBitsA ≤ xSrcBitsB))) && (same xSrcIpA xSrcIpB xSrcBitsA)) && (decide (xFirstPortA ≤ xFirstPortB))) && (decide (xLastPortB ≤ xLastPortA))) := by have h := hdep 35 40 (by kernel_rfl) rfl; rw [hV.out] at h; exact h
      clear hd hdep hfree
      refine .inl ⟨wanted_free rfl, ?_⟩
      simp only [Oper.wp, execOp]
      go_simp
      refine Nxt.mk _ rfl (fun _ _ => ?_) hS (fun _ _ h => h)
      (rw [hV.out]; rfl)
    · intro a W hd hS hdep hfree
      have x41 : a.tmps.getD 41 undef = .bool (((((GA && GB) && (decide (xSrcBitsA ≤ xSrcBitsB))) && (same xSrcIpA xSrcIpB xSrcBitsA)) && (decide (xFirstPortA ≤ xFirstPortB))) && (decide (xLastPortB ≤ xLastPortA))) := by have h := hdep 36 41 (by kernel_rfl) rfl; rw [hV.out] at h; exact h
      have x2 : a.tmps.getD 2 undef = .pointer (some ⟨w.heap.size, 0, none⟩) := hfree 2 (by kernel_rfl)
      clear hd hdep hfree
      rcases (Bool.eq_false_or_eq_true (((((((GA && GB) && (decide (xSrcBitsA ≤ xSrcBitsB))) && (same xSrcIpA xSrcIpB xSrcBitsA)) && (decide (xFirstPortA ≤ xFirstPortB))) && (decide (xLastPortB ≤ xLastPortA))) == true))).symm with hE | hE
      · exact .inr ⟨(wanted_sym rfl rfl x41).trans hE, fun _ _ => by rw [hV.out]; exact (onlyIf_neg hE).symm⟩
      refine .inl ⟨(wanted_sym rfl rfl x41).trans hE, ?_⟩
      have hG0 := eq_of_beq hE
      try (have hbits := HBT.out (by revert hE; cases GA <;> simp))
      have HE := Lib.hid hE
      clear hE hG0
      have c0 : W.cell? ⟨w.heap.size, 0, none⟩ = some (.int .i64 xPriorityA) := (HB1.out.below hS hg1).cell 0 (by simp)
      have c1 : W.cell? ⟨w.heap.size, 1, none⟩ = some (.int .i64 xKindA) := (HB1.out.below hS hg1).cell 1 (by simp)
      have c2 : W.cell? ⟨w.heap.size, 2, none⟩ = some (.int .i64 xSrcIpA) := (HB1.out.below hS hg1).cell 2 (by simp)
      have c3 : W.cell? ⟨w.heap.size, 3, none⟩ = some (.int .i64 xSrcBitsA) := (HB1.out.below hS hg1).cell 3 (by simp)
      have c4 : W.cell? ⟨w.heap.size, 4, none⟩ = some (.int .i64 xFirstPortA) := (HB1.out.below hS hg1).cell 4 (by simp)
      have c5 : W.cell? ⟨w.heap.size, 5, none⟩ = some (.int .i64 xLastPortA) := (HB1.out.below hS hg1).cell 5 (by simp)
      have c6 : W.cell? ⟨w.heap.size, 6, none⟩ = some (.int .i64 xVlanA) := (HB1.out.below hS hg1).cell 6 (by simp)
      have c7 : W.cell? ⟨w.heap.size, 7, none⟩ = some (.int .i64 xActionA) := (HB1.out.below hS hg1).cell 7 (by simp)
      have c8 : W.cell? ⟨w.heap.size, 8, none⟩ = some (.int .i64 xQueueA) := (HB1.out.below hS hg1).cell 8 (by simp)
      simp only [Oper.wp, execOp]
      go_simp
      refine Nxt.mk _ rfl (fun _ _ => ?_) hS (fun _ _ h => h)
      (rw [hV.out]; exact (onlyIf_pos HE.out).symm)
    · intro a W hd hS hdep hfree
      have x41 : a.tmps.getD 41 undef = .bool (((((GA && GB) && (decide (xSrcBitsA ≤ xSrcBitsB))) && (same xSrcIpA xSrcIpB xSrcBitsA)) && (decide (xFirstPortA ≤ xFirstPortB))) && (decide (xLastPortB ≤ xLastPortA))) := by have h := hdep 36 41 (by kernel_rfl) rfl; rw [hV.out] at h; exact h
      have x3 : a.tmps.getD 3 undef = .pointer (some ⟨w.heap.size + 1, 0, none⟩) := hfree 3 (by kernel_rfl)
      clear hd hdep hfree
      rcases (Bool.eq_false_or_eq_true (((((((GA && GB) && (decide (xSrcBitsA ≤ xSrcBitsB))) && (same xSrcIpA xSrcIpB xSrcBitsA)) && (decide (xFirstPortA ≤ xFirstPortB))) && (decide (xLastPortB ≤ xLastPortA))) == true))).symm with hE | hE
      · exact .inr ⟨(wanted_sym rfl rfl x41).trans hE, fun _ _ => by rw [hV.out]; exact (onlyIf_neg hE).symm⟩
      refine .inl ⟨(wanted_sym rfl rfl x41).trans hE, ?_⟩
      have hG0 := eq_of_beq hE
      try (have hbits := HBT.out (by revert hE; cases GA <;> simp))
      have HE := Lib.hid hE
      clear hE hG0
      simp only [Oper.wp, execOp]
      go_simp
      refine Nxt.mk _ rfl (fun _ _ => ?_) hS (fun _ _ h => h)
      (rw [hV.out]; exact (onlyIf_pos HE.out).symm)
    · intro a W hd hS hdep hfree
      have x41 : a.tmps.getD 41 undef = .bool (((((GA && GB) && (decide (xSrcBitsA ≤ xSrcBitsB))) && (same xSrcIpA xSrcIpB xSrcBitsA)) && (decide (xFirstPortA ≤ xFirstPortB))) && (decide (xLastPortB ≤ xLastPortA))) := by have h := hdep 36 41 (by kernel_rfl) rfl; rw [hV.out] at h; exact h
      have x43 : a.tmps.getD 43 undef = onlyIf ((((((GA && GB) && (decide (xSrcBitsA ≤ xSrcBitsB))) && (same xSrcIpA xSrcIpB xSrcBitsA)) && (decide (xFirstPortA ≤ xFirstPortB))) && (decide (xLastPortB ≤ xLastPortA))) == true) (.pointer (some ⟨w.heap.size + 1, 1, none⟩)) := by have h := hdep 38 43 (by kernel_rfl) rfl; rw [hV.out] at h; exact h
      clear hd hdep hfree
      rcases (Bool.eq_false_or_eq_true (((((((GA && GB) && (decide (xSrcBitsA ≤ xSrcBitsB))) && (same xSrcIpA xSrcIpB xSrcBitsA)) && (decide (xFirstPortA ≤ xFirstPortB))) && (decide (xLastPortB ≤ xLastPortA))) == true))).symm with hE | hE
      · exact .inr ⟨(wanted_sym rfl rfl x41).trans hE, fun _ _ => by rw [hV.out]; exact (onlyIf_neg hE).symm⟩
      refine .inl ⟨(wanted_sym rfl rfl x41).trans hE, ?_⟩
      replace x43 := x43.trans (onlyIf_pos hE)
      have hG0 := eq_of_beq hE
      try (have hbits := HBT.out (by revert hE; cases GA <;> simp))
      have HE := Lib.hid hE
      clear hE hG0
      have c0 : W.cell? ⟨w.heap.size + 1, 1, none⟩ = some (.int .i64 xKindB) := (HB2.out.below hS hg2).cell 1 (by simp)
      simp only [Oper.wp, execOp]
      go_simp
      refine Nxt.mk _ rfl (fun _ _ => ?_) hS (fun _ _ h => h)
      (rw [hV.out]; exact (onlyIf_pos HE.out).symm)
    · intro a W hd hS hdep hfree
      have x41 : a.tmps.getD 41 undef = .bool (((((GA && GB) && (decide (xSrcBitsA ≤ xSrcBitsB))) && (same xSrcIpA xSrcIpB xSrcBitsA)) && (decide (xFirstPortA ≤ xFirstPortB))) && (decide (xLastPortB ≤ xLastPortA))) := by have h := hdep 36 41 (by kernel_rfl) rfl; rw [hV.out] at h; exact h
      have x3 : a.tmps.getD 3 undef = .pointer (some ⟨w.heap.size + 1, 0, none⟩) := hfree 3 (by kernel_rfl)
      clear hd hdep hfree
      rcases (Bool.eq_false_or_eq_true (((((((GA && GB) && (decide (xSrcBitsA ≤ xSrcBitsB))) && (same xSrcIpA xSrcIpB xSrcBitsA)) && (decide (xFirstPortA ≤ xFirstPortB))) && (decide (xLastPortB ≤ xLastPortA))) == true))).symm with hE | hE
      · exact .inr ⟨(wanted_sym rfl rfl x41).trans hE, fun _ _ => by rw [hV.out]; exact (onlyIf_neg hE).symm⟩
      refine .inl ⟨(wanted_sym rfl rfl x41).trans hE, ?_⟩
      have hG0 := eq_of_beq hE
      try (have hbits := HBT.out (by revert hE; cases GA <;> simp))
      have HE := Lib.hid hE
      clear hE hG0
      simp only [Oper.wp, execOp]
      go_simp
      refine Nxt.mk _ rfl (fun _ _ => ?_) hS (fun _ _ h => h)
      (rw [hV.out]; exact (onlyIf_pos HE.out).symm)
    · intro a W hd hS hdep hfree
      have x41 : a.tmps.getD 41 undef = .bool (((((GA && GB) && (decide (xSrcBitsA ≤ xSrcBitsB))) && (same xSrcIpA xSrcIpB xSrcBitsA)) && (decide (xFirstPortA ≤ xFirstPortB))) && (decide (xLastPortB ≤ xLastPortA))) := by have h := hdep 36 41 (by kernel_rfl) rfl; rw [hV.out] at h; exact h
      have x45 : a.tmps.getD 45 undef = onlyIf ((((((GA && GB) && (decide (xSrcBitsA ≤ xSrcBitsB))) && (same xSrcIpA xSrcIpB xSrcBitsA)) && (decide (xFirstPortA ≤ xFirstPortB))) && (decide (xLastPortB ≤ xLastPortA))) == true) (.pointer (some ⟨w.heap.size + 1, 6, none⟩)) := by have h := hdep 40 45 (by kernel_rfl) rfl; rw [hV.out] at h; exact h
      clear hd hdep hfree
      rcases (Bool.eq_false_or_eq_true (((((((GA && GB) && (decide (xSrcBitsA ≤ xSrcBitsB))) && (same xSrcIpA xSrcIpB xSrcBitsA)) && (decide (xFirstPortA ≤ xFirstPortB))) && (decide (xLastPortB ≤ xLastPortA))) == true))).symm with hE | hE
      · exact .inr ⟨(wanted_sym rfl rfl x41).trans hE, fun _ _ => by rw [hV.out]; exact (onlyIf_neg hE).symm⟩
      refine .inl ⟨(wanted_sym rfl rfl x41).trans hE, ?_⟩
      replace x45 := x45.trans (onlyIf_pos hE)
      have hG0 := eq_of_beq hE
      try (have hbits := HBT.out (by revert hE; cases GA <;> simp))
      have HE := Lib.hid hE
      clear hE hG0
      have c0 : W.cell? ⟨w.heap.size + 1, 6, none⟩ = some (.int .i64 xVlanB) := (HB2.out.below hS hg2).cell 6 (by simp)
      simp only [Oper.wp, execOp]
      go_simp
      refine Nxt.mk _ rfl (fun _ _ => ?_) hS (fun _ _ h => h)
      (rw [hV.out]; exact (onlyIf_pos HE.out).symm)
    · intro a W hd hS hdep hfree
      have x41 : a.tmps.getD 41 undef = .bool (((((GA && GB) && (decide (xSrcBitsA ≤ xSrcBitsB))) && (same xSrcIpA xSrcIpB xSrcBitsA)) && (decide (xFirstPortA ≤ xFirstPortB))) && (decide (xLastPortB ≤ xLastPortA))) := by have h := hdep 36 41 (by kernel_rfl) rfl; rw [hV.out] at h; exact h
      have x42 : a.tmps.getD 42 undef = onlyIf ((((((GA && GB) && (decide (xSrcBitsA ≤ xSrcBitsB))) && (same xSrcIpA xSrcIpB xSrcBitsA)) && (decide (xFirstPortA ≤ xFirstPortB))) && (decide (xLastPortB ≤ xLastPortA))) == true) (.agg #[.int .i64 xPriorityA, .int .i64 xKindA, .int .i64 xSrcIpA, .int .i64 xSrcBitsA, .int .i64 xFirstPortA, .int .i64 xLastPortA, .int .i64 xVlanA, .int .i64 xActionA, .int .i64 xQueueA]) := by have h := hdep 37 42 (by kernel_rfl) rfl; rw [hV.out] at h; exact h
      have x44 : a.tmps.getD 44 undef = onlyIf ((((((GA && GB) && (decide (xSrcBitsA ≤ xSrcBitsB))) && (same xSrcIpA xSrcIpB xSrcBitsA)) && (decide (xFirstPortA ≤ xFirstPortB))) && (decide (xLastPortB ≤ xLastPortA))) == true) (.int .i64 xKindB) := by have h := hdep 39 44 (by kernel_rfl) rfl; rw [hV.out] at h; exact h
      have x46 : a.tmps.getD 46 undef = onlyIf ((((((GA && GB) && (decide (xSrcBitsA ≤ xSrcBitsB))) && (same xSrcIpA xSrcIpB xSrcBitsA)) && (decide (xFirstPortA ≤ xFirstPortB))) && (decide (xLastPortB ≤ xLastPortA))) == true) (.int .i64 xVlanB) := by have h := hdep 41 46 (by kernel_rfl) rfl; rw [hV.out] at h; exact h
      clear hd hdep hfree
      rcases (Bool.eq_false_or_eq_true (((((((GA && GB) && (decide (xSrcBitsA ≤ xSrcBitsB))) && (same xSrcIpA xSrcIpB xSrcBitsA)) && (decide (xFirstPortA ≤ xFirstPortB))) && (decide (xLastPortB ≤ xLastPortA))) == true))).symm with hE | hE
      · exact .inr ⟨(wanted_sym rfl rfl x41).trans hE, fun _ _ => by rw [hV.out]; exact (onlyIf_neg hE).symm⟩
      refine .inl ⟨(wanted_sym rfl rfl x41).trans hE, ?_⟩
      replace x42 := x42.trans (onlyIf_pos hE)
      replace x44 := x44.trans (onlyIf_pos hE)
      replace x46 := x46.trans (onlyIf_pos hE)
      have hG0 := eq_of_beq hE
      try (have hbits := HBT.out (by revert hE; cases GA <;> simp))
      have HE := Lib.hid hE
      clear hE hG0
      simp only [Oper.wp, execOp]
      go_simp
      refine ((impl_fits ⟨xPriorityA, xKindA, xSrcIpA, xSrcBitsA, xFirstPortA, xLastPortA, xVlanA, xActionA, xQueueA⟩ xKindB xVlanB W)).mono ?_
      rintro e W' ⟨rfl, hb⟩
      exact Nxt.mk _ rfl (fun _ _ => by (rw [hV.out]; exact (onlyIf_pos HE.out).symm)) (below_comp hS hb) (fun j u h => by rw [hV.out] at h ⊢; exact Vals.below hb j u h)
    · intro a W hd hS hdep hfree
      have x41 : a.tmps.getD 41 undef = .bool (((((GA && GB) && (decide (xSrcBitsA ≤ xSrcBitsB))) && (same xSrcIpA xSrcIpB xSrcBitsA)) && (decide (xFirstPortA ≤ xFirstPortB))) && (decide (xLastPortB ≤ xLastPortA))) := by have h := hdep 36 41 (by kernel_rfl) rfl; rw [hV.out] at h; exact h
      have x47 : a.tmps.getD 47 undef = onlyIf ((((((GA && GB) && (decide (xSrcBitsA ≤ xSrcBitsB))) && (same xSrcIpA xSrcIpB xSrcBitsA)) && (decide (xFirstPortA ≤ xFirstPortB))) && (decide (xLastPortB ≤ xLastPortA))) == true) (.bool (decide (RuleM.Fits ⟨xPriorityA, xKindA, xSrcIpA, xSrcBitsA, xFirstPortA, xLastPortA, xVlanA, xActionA, xQueueA⟩ xKindB xVlanB))) := by have h := hdep 42 47 (by kernel_rfl) rfl; rw [hV.out] at h; exact h
      clear hd hdep hfree
      refine .inl ⟨wanted_free rfl, ?_⟩
      rcases (Bool.eq_false_or_eq_true ((((((GA && GB) && (decide (xSrcBitsA ≤ xSrcBitsB))) && (same xSrcIpA xSrcIpB xSrcBitsA)) && (decide (xFirstPortA ≤ xFirstPortB))) && (decide (xLastPortB ≤ xLastPortA))))).symm with hX | hX
      · rw [hX] at x41
        replace hX := Lib.hid hX
        simp only [Oper.wp, execOp]
        go_simp
        refine Nxt.mk _ rfl (fun _ _ => ?_) hS (fun _ _ h => h)
        rw [hV.out]; show (_ : Value) = .bool _; rw [hX.out]; rfl
      · have hp : ((((((GA && GB) && (decide (xSrcBitsA ≤ xSrcBitsB))) && (same xSrcIpA xSrcIpB xSrcBitsA)) && (decide (xFirstPortA ≤ xFirstPortB))) && (decide (xLastPortB ≤ xLastPortA))) == true) = true := by simp [hX]
        replace x47 := x47.trans (onlyIf_pos hp)
        rw [hX] at x41
        replace hX := Lib.hid hX
        simp only [Oper.wp, execOp]
        go_simp
        refine Nxt.mk _ rfl (fun _ _ => ?_) hS (fun _ _ h => h)
        rw [hV.out]; show (_ : Value) = .bool _; rw [hX.out]; rfl
    · intro a W hd hS hdep hfree
      have x48 : a.tmps.getD 48 undef = .bool ((((((GA && GB) && (decide (xSrcBitsA ≤ xSrcBitsB))) && (same xSrcIpA xSrcIpB xSrcBitsA)) && (decide (xFirstPortA ≤ xFirstPortB))) && (decide (xLastPortB ≤ xLastPortA))) && (decide (RuleM.Fits ⟨xPriorityA, xKindA, xSrcIpA, xSrcBitsA, xFirstPortA, xLastPortA, xVlanA, xActionA, xQueueA⟩ xKindB xVlanB))) := by have h := hdep 43 48 (by kernel_rfl) rfl; rw [hV.out] at h; exact h
      clear hd hdep hfree
      refine .inl ⟨wanted_free rfl, ?_⟩
      simp only [Oper.wp, execOp]
      go_simp
      refine Nxt.mk _ rfl (fun _ _ => ?_) hS (fun _ _ h => h)
      (rw [hV.out]; rfl)
  intro a W2 hs hd hS2 hdone hrest
  have ea := written_all ((.agg #[.int .i64 xPriorityA, .int .i64 xKindA, .int .i64 xSrcIpA, .int .i64 xSrcBitsA, .int .i64 xFirstPortA, .int .i64 xLastPortA, .int .i64 xVlanA, .int .i64 xActionA, .int .i64 xQueueA] : Value) :: (.bool GA : Value) :: (.bool GA : Value) :: onlyIf (GA == true) (.agg #[.int .i64 xPriorityB, .int .i64 xKindB, .int .i64 xSrcIpB, .int .i64 xSrcBitsB, .int .i64 xFirstPortB, .int .i64 xLastPortB, .int .i64 xVlanB, .int .i64 xActionB, .int .i64 xQueueB]) :: onlyIf (GA == true) (.bool GB) :: (.bool (GA && GB) : Value) :: (.bool (GA && GB) : Value) :: onlyIf ((GA && GB) == true) (.pointer (some ⟨w.heap.size, 3, none⟩)) :: onlyIf ((GA && GB) == true) (.int .i64 xSrcBitsA) :: onlyIf ((GA && GB) == true) (.pointer (some ⟨w.heap.size + 1, 3, none⟩)) :: onlyIf ((GA && GB) == true) (.int .i64 xSrcBitsB) :: onlyIf ((GA && GB) == true) (.bool (decide (xSrcBitsA ≤ xSrcBitsB))) :: (.bool ((GA && GB) && (decide (xSrcBitsA ≤ xSrcBitsB))) : Value) :: (.bool ((GA && GB) && (decide (xSrcBitsA ≤ xSrcBitsB))) : Value) :: onlyIf (((GA && GB) && (decide (xSrcBitsA ≤ xSrcBitsB))) == true) (.pointer (some ⟨w.heap.size, 2, none⟩)) :: onlyIf (((GA && GB) && (decide (xSrcBitsA ≤ xSrcBitsB))) == true) (.int .i64 xSrcIpA) :: onlyIf (((GA && GB) && (decide (xSrcBitsA ≤ xSrcBitsB))) == true) (.pointer (some ⟨w.heap.size + 1, 2, none⟩)) :: onlyIf (((GA && GB) && (decide (xSrcBitsA ≤ xSrcBitsB))) == true) (.int .i64 xSrcIpB) :: onlyIf (((GA && GB) && (decide (xSrcBitsA ≤ xSrcBitsB))) == true) (.pointer (some ⟨w.heap.size, 3, none⟩)) :: onlyIf (((GA && GB) && (decide (xSrcBitsA ≤ xSrcBitsB))) == true) (.int .i64 xSrcBitsA) :: onlyIf (((GA && GB) && (decide (xSrcBitsA ≤ xSrcBitsB))) == true) (.bool (same xSrcIpA xSrcIpB xSrcBitsA)) :: (.bool (((GA && GB) && (decide (xSrcBitsA ≤ xSrcBitsB))) && (same xSrcIpA xSrcIpB xSrcBitsA)) : Value) :: (.bool (((GA && GB) && (decide (xSrcBitsA ≤ xSrcBitsB))) && (same xSrcIpA xSrcIpB xSrcBitsA)) : Value) :: onlyIf ((((GA && GB) && (decide (xSrcBitsA ≤ xSrcBitsB))) && (same xSrcIpA xSrcIpB xSrcBitsA)) == true) (.pointer (some ⟨w.heap.size, 4, none⟩)) :: onlyIf ((((GA && GB) && (decide (xSrcBitsA ≤ xSrcBitsB))) && (same xSrcIpA xSrcIpB xSrcBitsA)) == true) (.int .i64 xFirstPortA) :: onlyIf ((((GA && GB) && (decide (xSrcBitsA ≤ xSrcBitsB))) && (same xSrcIpA xSrcIpB xSrcBitsA)) == true) (.pointer (some ⟨w.heap.size + 1, 4, none⟩)) :: onlyIf ((((GA && GB) && (decide (xSrcBitsA ≤ xSrcBitsB))) && (same xSrcIpA xSrcIpB xSrcBitsA)) == true) (.int .i64 xFirstPortB) :: onlyIf ((((GA && GB) && (decide (xSrcBitsA ≤ xSrcBitsB))) && (same xSrcIpA xSrcIpB xSrcBitsA)) == true) (.bool (decide (xFirstPortA ≤ xFirstPortB))) :: (.bool ((((GA && GB) && (decide (xSrcBitsA ≤ xSrcBitsB))) && (same xSrcIpA xSrcIpB xSrcBitsA)) && (decide (xFirstPortA ≤ xFirstPortB))) : Value) :: (.bool ((((GA && GB) && (decide (xSrcBitsA ≤ xSrcBitsB))) && (same xSrcIpA xSrcIpB xSrcBitsA)) && (decide (xFirstPortA ≤ xFirstPortB))) : Value) :: onlyIf (((((GA && GB) && (decide (xSrcBitsA ≤ xSrcBitsB))) && (same xSrcIpA xSrcIpB xSrcBitsA)) && (decide (xFirstPortA ≤ xFirstPortB))) == true) (.pointer (some ⟨w.heap.size + 1, 5, none⟩)) :: onlyIf (((((GA && GB) && (decide (xSrcBitsA ≤ xSrcBitsB))) && (same xSrcIpA xSrcIpB xSrcBitsA)) && (decide (xFirstPortA ≤ xFirstPortB))) == true) (.int .i64 xLastPortB) :: onlyIf (((((GA && GB) && (decide (xSrcBitsA ≤ xSrcBitsB))) && (same xSrcIpA xSrcIpB xSrcBitsA)) && (decide (xFirstPortA ≤ xFirstPortB))) == true) (.pointer (some ⟨w.heap.size, 5, none⟩)) :: onlyIf (((((GA && GB) && (decide (xSrcBitsA ≤ xSrcBitsB))) && (same xSrcIpA xSrcIpB xSrcBitsA)) && (decide (xFirstPortA ≤ xFirstPortB))) == true) (.int .i64 xLastPortA) :: onlyIf (((((GA && GB) && (decide (xSrcBitsA ≤ xSrcBitsB))) && (same xSrcIpA xSrcIpB xSrcBitsA)) && (decide (xFirstPortA ≤ xFirstPortB))) == true) (.bool (decide (xLastPortB ≤ xLastPortA))) :: (.bool (((((GA && GB) && (decide (xSrcBitsA ≤ xSrcBitsB))) && (same xSrcIpA xSrcIpB xSrcBitsA)) && (decide (xFirstPortA ≤ xFirstPortB))) && (decide (xLastPortB ≤ xLastPortA))) : Value) :: (.bool (((((GA && GB) && (decide (xSrcBitsA ≤ xSrcBitsB))) && (same xSrcIpA xSrcIpB xSrcBitsA)) && (decide (xFirstPortA ≤ xFirstPortB))) && (decide (xLastPortB ≤ xLastPortA))) : Value) :: onlyIf ((((((GA && GB) && (decide (xSrcBitsA ≤ xSrcBitsB))) && (same xSrcIpA xSrcIpB xSrcBitsA)) && (decide (xFirstPortA ≤ xFirstPortB))) && (decide (xLastPortB ≤ xLastPortA))) == true) (.agg #[.int .i64 xPriorityA, .int .i64 xKindA, .int .i64 xSrcIpA, .int .i64 xSrcBitsA, .int .i64 xFirstPortA, .int .i64 xLastPortA, .int .i64 xVlanA, .int .i64 xActionA, .int .i64 xQueueA]) :: onlyIf ((((((GA && GB) && (decide (xSrcBitsA ≤ xSrcBitsB))) && (same xSrcIpA xSrcIpB xSrcBitsA)) && (decide (xFirstPortA ≤ xFirstPortB))) && (decide (xLastPortB ≤ xLastPortA))) == true) (.pointer (some ⟨w.heap.size + 1, 1, none⟩)) :: onlyIf ((((((GA && GB) && (decide (xSrcBitsA ≤ xSrcBitsB))) && (same xSrcIpA xSrcIpB xSrcBitsA)) && (decide (xFirstPortA ≤ xFirstPortB))) && (decide (xLastPortB ≤ xLastPortA))) == true) (.int .i64 xKindB) :: onlyIf ((((((GA && GB) && (decide (xSrcBitsA ≤ xSrcBitsB))) && (same xSrcIpA xSrcIpB xSrcBitsA)) && (decide (xFirstPortA ≤ xFirstPortB))) && (decide (xLastPortB ≤ xLastPortA))) == true) (.pointer (some ⟨w.heap.size + 1, 6, none⟩)) :: onlyIf ((((((GA && GB) && (decide (xSrcBitsA ≤ xSrcBitsB))) && (same xSrcIpA xSrcIpB xSrcBitsA)) && (decide (xFirstPortA ≤ xFirstPortB))) && (decide (xLastPortB ≤ xLastPortA))) == true) (.int .i64 xVlanB) :: onlyIf ((((((GA && GB) && (decide (xSrcBitsA ≤ xSrcBitsB))) && (same xSrcIpA xSrcIpB xSrcBitsA)) && (decide (xFirstPortA ≤ xFirstPortB))) && (decide (xLastPortB ≤ xLastPortA))) == true) (.bool (decide (RuleM.Fits ⟨xPriorityA, xKindA, xSrcIpA, xSrcBitsA, xFirstPortA, xLastPortA, xVlanA, xActionA, xQueueA⟩ xKindB xVlanB))) :: (.bool ((((((GA && GB) && (decide (xSrcBitsA ≤ xSrcBitsB))) && (same xSrcIpA xSrcIpB xSrcBitsA)) && (decide (xFirstPortA ≤ xFirstPortB))) && (decide (xLastPortB ≤ xLastPortA))) && (decide (RuleM.Fits ⟨xPriorityA, xKindA, xSrcIpA, xSrcBitsA, xFirstPortA, xLastPortA, xVlanA, xActionA, xQueueA⟩ xKindB xVlanB))) : Value) :: (.bool ((((((GA && GB) && (decide (xSrcBitsA ≤ xSrcBitsB))) && (same xSrcIpA xSrcIpB xSrcBitsA)) && (decide (xFirstPortA ≤ xFirstPortB))) && (decide (xLastPortB ≤ xLastPortA))) && (decide (RuleM.Fits ⟨xPriorityA, xKindA, xSrcIpA, xSrcBitsA, xFirstPortA, xLastPortA, xVlanA, xActionA, xQueueA⟩ xKindB xVlanB))) : Value) :: ([] : List Value)) rfl hs hd hrest (fun j d hj => by have h := hdone j d hj; rw [hV.out] at h; exact h)
  clear hs hd hdone hrest hV V
  subst ea
  simp only [written, List.append_eq, Array.toList_append, List.append_toArray, List.map_append, List.cons_append, List.nil_append, List.map_cons, List.map_nil, List.zip_cons_cons, List.zip_nil_right, putAll]
  simp only [Exit.then, Act.put, List.setIfInBounds_toArray, List.set_cons_zero, List.set_cons_succ]
  have HF : Hid ((((((((GA && GB) && (decide (xSrcBitsA ≤ xSrcBitsB))) && (same xSrcIpA xSrcIpB xSrcBitsA)) && (decide (xFirstPortA ≤ xFirstPortB))) && (decide (xLastPortB ≤ xLastPortA))) && (decide (RuleM.Fits ⟨xPriorityA, xKindA, xSrcIpA, xSrcBitsA, xFirstPortA, xLastPortA, xVlanA, xActionA, xQueueA⟩ xKindB xVlanB)))) = B) := Lib.hid ((impl_cov_eq _ _ _ _ _ _ _ _ _ _ _ _ _ _ _ _ _ _ GA GB hGA.out hGB.out).trans HB.out.symm)
  rw [HF.out]
  go_wp2
  go_ret
  exact ⟨rfl, below_comp hb1 hS2⟩

end Go.Proofs.Ytfbnjemmmgobkaa
