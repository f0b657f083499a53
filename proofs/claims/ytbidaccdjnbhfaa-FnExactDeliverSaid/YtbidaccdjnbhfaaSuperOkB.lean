/- SuperOk and PacketOk of both sides. -/
import Derived.Test.YtbidaccdjnbhfaaSegOkB
namespace Go.Proofs.Ytbidaccdjnbhfaa
open Go.RowKit
set_option linter.unusedSimpArgs false
set_option linter.unusedVariables false
/-- Nothing but data: FlagAck, and nothing else but FlagPsh and FlagFin. -/
def dataF (f : Int) : Prop := f = 16 ∨ f = 17 ∨ f = 24 ∨ f = 25
instance (f : Int) : Decidable (dataF f) := by unfold dataF; infer_instance
theorem andNot9_all : ∀ n : Fin 32, (bits .andNot .i64 ((n.val : Nat) : Int) 9 = 16 ↔ dataF ((n.val : Nat) : Int)) := by decide +kernel
theorem andNot9 (f : Int) (h0 : 0 ≤ f) (h1 : f ≤ 31) : bits .andNot .i64 f 9 = 16 ↔ dataF f := by
  obtain ⟨n, rfl⟩ : ∃ n : Nat, f = n := ⟨f.toNat, by omega⟩
  exact andNot9_all ⟨n, by omega⟩
def PktM.SuperOk (p : PktM) : Prop := (0 ≤ p.dmac ∧ p.dmac ≤ 281474976710655) ∧ (0 ≤ p.smac ∧ p.smac ≤ 281474976710655) ∧ (-1 ≤ p.vlan ∧ p.vlan ≤ 4095) ∧ (0 ≤ p.tos ∧ p.tos ≤ 255) ∧ (0 ≤ p.ttl ∧ p.ttl ≤ 255) ∧
  (0 ≤ p.id ∧ p.id ≤ 65535) ∧ (0 ≤ p.sip ∧ p.sip ≤ 4294967295) ∧ (0 ≤ p.dip ∧ p.dip ≤ 4294967295) ∧ p.seg.Ok ∧ ((p.seg.body.size : Int) ≤ 128 ∨ (p.seg.kind = 6 ∧ dataF p.seg.flags))
instance instDecPktSuperOk (p : PktM) : Decidable p.SuperOk := by unfold PktM.SuperOk; infer_instance
def PktM.Ok (p : PktM) : Prop := p.SuperOk ∧ (p.seg.body.size : Int) ≤ 128
instance instDecPktOk (p : PktM) : Decidable p.Ok := by unfold PktM.Ok; infer_instance

theorem impl_onlyData (f A : Int) (hA : bits .andNot .i64 f 9 = A) (w : World) :
    Calls Try.prog 90 #[.int .i64 f] w fun r w' => r = .returned (.bool (A == 16)) ∧ w = w' := by
  go_enter Try.func90, Try.ntmps90
  go_wp2
  go_ret
  exact ⟨rfl, rfl⟩
set_option maxHeartbeats 8000000 in
set_option maxRecDepth 100000 in
theorem spec_superok (p : PktM) (w : World) :
    Calls Try.prog 70 #[p.val] w fun r w' => r = .returned (.bool (decide p.SuperOk)) ∧ Below w.heap.size w w' := by
  have HS := Lib.hid fun W => spec_segmentok p.seg W
  obtain ⟨dm, sm, vl, ts, id, tl, si, di, ⟨k, sp, dp, q, c, f, n, b⟩⟩ := p
  obtain ⟨B, HB⟩ : ∃ B : Bool, Hid (B = decide (PktM.SuperOk ⟨dm, sm, vl, ts, id, tl, si, di, ⟨k, sp, dp, q, c, f, n, b⟩⟩) ∧ (B = true ↔ PktM.SuperOk ⟨dm, sm, vl, ts, id, tl, si, di, ⟨k, sp, dp, q, c, f, n, b⟩⟩)) := ⟨_, Lib.hid ⟨rfl, decide_eq_true_iff⟩⟩
  rw [← HB.out.1]
  obtain ⟨G, HG⟩ : ∃ G : Bool, Hid (decide (SegM.Ok ⟨k, sp, dp, q, c, f, n, b⟩) = G ∧ (G = true ↔ SegM.Ok ⟨k, sp, dp, q, c, f, n, b⟩)) := ⟨_, Lib.hid ⟨rfl, decide_eq_true_iff⟩⟩
  dsimp only at HS
  rw [HG.out.1] at HS
  obtain ⟨A, hA, HA⟩ : ∃ A : Int, bits .andNot .i64 f 9 = A ∧ Hid (0 ≤ f → f ≤ 31 → (A = 16 ↔ dataF f)) := ⟨_, rfl, Lib.hid fun h0 h1 => andNot9 f h0 h1⟩
  unfold PktM.val
  unfold SegM.val at HS
  dsimp only at *
  cases G
  all_goals
    go_enter Try.func70, Try.ntmps70
    go_wp2_with (first
      | (go_at_call 71; refine (spec_in _ _ _ _).mono ?_; rintro e w' ⟨rfl, rfl⟩)
      | (go_at_call 97; refine (HS.out _).mono ?_; rintro e w1 ⟨rfl, hb1⟩; obtain ⟨hc, hf, _⟩ := bcell hb1; have hg : w.heap.size < w1.heap.size := by (have hz := hb1.size; (try simp at hz); omega)))
    all_goals
      go_ret
      refine ⟨ret_bool ?_, by first | exact below_new _ | exact below_comp (below_new _) (by assumption)⟩
      rw [Bool.eq_iff_iff, HB.out.2]
      have HA' := HA.out
      have HG' := HG.out.2
      unfold PktM.SuperOk dataF
      unfold dataF at HA'
      unfold SegM.Ok at HG' ⊢
      dsimp only at HG' ⊢
      simp only [Bool.and_eq_true, Bool.or_eq_true, decide_eq_true_eq, bne_iff_ne, beq_iff_eq, Bool.false_eq_true, ne_eq, false_iff, true_iff, true_and, and_true] at *
      omega
set_option maxHeartbeats 8000000 in
set_option maxRecDepth 100000 in
theorem impl_superok (p : PktM) (w : World) :
    Calls Try.prog 68 #[p.val] w fun r w' => r = .returned (.bool (decide p.SuperOk)) ∧ Below w.heap.size w w' := by
  have HS := Lib.hid fun W => impl_segmentok p.seg W
  obtain ⟨dm, sm, vl, ts, id, tl, si, di, ⟨k, sp, dp, q, c, f, n, b⟩⟩ := p
  obtain ⟨B, HB⟩ : ∃ B : Bool, Hid (B = decide (PktM.SuperOk ⟨dm, sm, vl, ts, id, tl, si, di, ⟨k, sp, dp, q, c, f, n, b⟩⟩) ∧ (B = true ↔ PktM.SuperOk ⟨dm, sm, vl, ts, id, tl, si, di, ⟨k, sp, dp, q, c, f, n, b⟩⟩)) := ⟨_, Lib.hid ⟨rfl, decide_eq_true_iff⟩⟩
  rw [← HB.out.1]
  obtain ⟨G, HG⟩ : ∃ G : Bool, Hid (decide (SegM.Ok ⟨k, sp, dp, q, c, f, n, b⟩) = G ∧ (G = true ↔ SegM.Ok ⟨k, sp, dp, q, c, f, n, b⟩)) := ⟨_, Lib.hid ⟨rfl, decide_eq_true_iff⟩⟩
  dsimp only at HS
  rw [HG.out.1] at HS
  obtain ⟨A, hA, HA⟩ : ∃ A : Int, bits .andNot .i64 f 9 = A ∧ Hid (0 ≤ f → f ≤ 31 → (A = 16 ↔ dataF f)) := ⟨_, rfl, Lib.hid fun h0 h1 => andNot9 f h0 h1⟩
  have HD := Lib.hid fun W => impl_onlyData f A hA W
  unfold PktM.val
  unfold SegM.val at HS
  dsimp only at *
  cases G
  all_goals
    go_enter Try.func68, Try.ntmps68
    go_wp2_with (first
      | (go_at_call 69; refine (impl_in _ _ _ _).mono ?_; rintro e w' ⟨rfl, rfl⟩)
      | (go_at_call 96; refine (HS.out _).mono ?_; rintro e w1 ⟨rfl, hb1⟩; obtain ⟨hc, hf, _⟩ := bcell hb1; have hg : w.heap.size < w1.heap.size := by (have hz := hb1.size; (try simp at hz); omega))
      | (go_at_call 90; refine (HD.out _).mono ?_; rintro e w' ⟨rfl, rfl⟩))
    all_goals
      go_ret
      refine ⟨ret_bool ?_, by first | exact below_new _ | exact below_comp (below_new _) (by assumption)⟩
      rw [Bool.eq_iff_iff, HB.out.2]
      have HA' := HA.out
      have HG' := HG.out.2
      unfold PktM.SuperOk dataF
      unfold dataF at HA'
      unfold SegM.Ok at HG' ⊢
      dsimp only at HG' ⊢
      simp only [Bool.and_eq_true, Bool.or_eq_true, decide_eq_true_eq, bne_iff_ne, beq_iff_eq, Bool.false_eq_true, ne_eq, false_iff, true_iff, true_and, and_true] at *
      omega
set_option maxHeartbeats 4000000 in
set_option maxRecDepth 100000 in
theorem spec_packetok (p : PktM) (w : World) :
    Calls Try.prog 86 #[p.val] w fun r w' => r = .returned (.bool (decide p.Ok)) ∧ Below w.heap.size w w' := by
  have HS := Lib.hid fun W => spec_superok p W
  obtain ⟨G, HG⟩ : ∃ G : Bool, Hid (decide p.SuperOk = G ∧ (G = true ↔ p.SuperOk)) := ⟨_, Lib.hid ⟨rfl, decide_eq_true_iff⟩⟩
  rw [HG.out.1] at HS
  have HB : Hid (decide p.Ok = (G && decide ((p.seg.body.size : Int) ≤ 128))) := Lib.hid (by rw [Bool.eq_iff_iff]; simp only [decide_eq_true_iff, Bool.and_eq_true, HG.out.2]; exact Iff.rfl)
  rw [HB.out]
  clear HB HG
  obtain ⟨dm, sm, vl, ts, id, tl, si, di, ⟨k, sp, dp, q, c, f, n, b⟩⟩ := p
  unfold PktM.val at *
  dsimp only at *
  cases G
  all_goals
    go_enter Try.func86, Try.ntmps86
    go_wp2_with (go_at_call 70; refine (HS.out _).mono ?_; rintro e w1 ⟨rfl, hb1⟩; obtain ⟨hc, hf, _⟩ := bcell hb1; have hg : w.heap.size < w1.heap.size := by (have hz := hb1.size; (try simp at hz); omega))
    all_goals
      go_ret
      exact ⟨by simp, below_comp (below_new _) hb1⟩
set_option maxHeartbeats 4000000 in
set_option maxRecDepth 100000 in
theorem impl_packetok (p : PktM) (w : World) :
    Calls Try.prog 88 #[p.val] w fun r w' => r = .returned (.bool (decide p.Ok)) ∧ Below w.heap.size w w' := by
  have HS := Lib.hid fun W => impl_superok p W
  obtain ⟨G, HG⟩ : ∃ G : Bool, Hid (decide p.SuperOk = G ∧ (G = true ↔ p.SuperOk)) := ⟨_, Lib.hid ⟨rfl, decide_eq_true_iff⟩⟩
  rw [HG.out.1] at HS
  have HB : Hid (decide p.Ok = (G && decide ((p.seg.body.size : Int) ≤ 128))) := Lib.hid (by rw [Bool.eq_iff_iff]; simp only [decide_eq_true_iff, Bool.and_eq_true, HG.out.2]; exact Iff.rfl)
  rw [HB.out]
  clear HB HG
  obtain ⟨dm, sm, vl, ts, id, tl, si, di, ⟨k, sp, dp, q, c, f, n, b⟩⟩ := p
  unfold PktM.val at *
  dsimp only at *
  cases G
  all_goals
    go_enter Try.func88, Try.ntmps88
    go_wp2_with (go_at_call 68; refine (HS.out _).mono ?_; rintro e w1 ⟨rfl, hb1⟩; obtain ⟨hc, hf, _⟩ := bcell hb1; have hg : w.heap.size < w1.heap.size := by (have hz := hb1.size; (try simp at hz); omega))
    all_goals
      go_ret
      exact ⟨by simp, below_comp (below_new _) hb1⟩
end Go.Proofs.Ytbidaccdjnbhfaa
