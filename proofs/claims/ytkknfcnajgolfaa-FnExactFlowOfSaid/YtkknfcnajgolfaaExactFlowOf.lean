/- At every argument FlowOf answers as the model does: the law FnExactFlowOf returns true for every input, and its arguments read as before. No condition. -/
import Derived.Test.YtkknfcnajgolfaaLawPacket
import Derived.Test.YtkknfcnajgolfaaFlowB
import Derived.Test.YtkknfcnajgolfaaOpenPacket
import Derived.Deep.DeepCutAuto
import Derived.OpenShut
import Derived.ShutString
import Derived.ChangeOld
namespace Go.Proofs.Ytkknfcnajgolfaa.fnExactFlowOf
open Go.ChangeShapes Go.WideShapes Go.ChangeAt Go.RowKit
open Go.ChangeMaps (open_string shut_string)
set_option linter.unusedVariables false

theorem own : ownKnob Try.prog.godebug = none := by kernel_rfl
theorem laidOut : laidOutB Try.prog = true := by kernel_rfl

set_option maxHeartbeats 4000000 in
set_option maxRecDepth 100000 in
theorem walk (w : World) (a0 : PktM) (w0 : a0.Wf) :
    Calls Try.prog 7 #[a0.val] w fun e w' => e = .returned (.bool true) ∧ Below w.heap.size w w' := by
  have HT : Hid (∀ W, _) := Lib.hid fun W => to_packet a0 W
  have HZ : Hid (∀ W, _) := Lib.hid fun W => sz_packet a0 1048576 W w0 (by omega)
  have HS : Hid (∀ W, _) := Lib.hid fun W => spec_flowof a0 W
  have HI : Hid (∀ W, _) := Lib.hid fun W => impl_flowof a0 W
  have HE : Hid (∀ W, _) := Lib.hid fun W => eq_flow a0.flow W
  by_cases hl : 1048576 < (a0.seg.body.size : Int)
  · rw [if_pos hl] at HZ
    obtain ⟨dm, sm, vl, ts, id, tl, si, di, ⟨k, sp, dp, q, c, f, n, b⟩⟩ := a0
    unfold PktM.val at *
    dsimp only at *
    go_enter Try.func7, Try.ntmps7
    go_wp2_with (go_at_call 13; refine (HZ.out _).mono ?_; rintro e w1 ⟨rfl, hb1⟩)
    go_ret
    exact ⟨rfl, below_comp (below_new _) hb1⟩
  · rw [if_neg hl] at HZ
    obtain ⟨dm, sm, vl, ts, id, tl, si, di, ⟨k, sp, dp, q, c, f, n, b⟩⟩ := a0
    unfold PktM.val at *
    unfold PktM.flow FlowM.val at HS HI HE
    dsimp only at *
    go_enter Try.func7, Try.ntmps7
    go_upto_region 6 with (first
      | (go_at_call 13; refine (HZ.out _).mono ?_; rintro e w1 ⟨rfl, hb1⟩; obtain ⟨hc, hf, _⟩ := bcell hb1; have hg1 : w.heap.size < w1.heap.size := by (have hz := hb1.size; (try simp at hz); omega))
      | (go_at_call 15; refine (HT.out _).mono ?_; rintro e w2 ⟨rfl, hb2⟩; obtain ⟨hc2, hf2, _⟩ := bcell hb2; have hg2 : w.heap.size < w2.heap.size := by (have hz := hb2.size; (try simp at hz); omega))
      | (go_at_call 23; refine (HS.out _).mono ?_; rintro e w3 ⟨rfl, hb3⟩; obtain ⟨hc3, hf3, _⟩ := bcell hb3; have hg3 : w.heap.size < w3.heap.size := by (have hz := hb3.size; (try simp at hz); omega)))
    go_wp2_with fail
    refine (HT.out _).mono ?_
    rintro e w4 ⟨rfl, hb4⟩
    obtain ⟨hc4, hf4, _⟩ := bcell hb4
    have hz4 := hb4.size
    simp at hz4
    have hg4 : w.heap.size < w4.heap.size := by omega
    have hS4 : w3.heap.size < w4.heap.size := by omega
    go_wp2_with fail
    refine (HI.out _).mono ?_
    rintro e w5 ⟨rfl, hb5⟩
    obtain ⟨hc5, hf5, _⟩ := bcell hb5
    have hz5 := hb5.size
    have hg5 : w.heap.size < w5.heap.size := by omega
    have hS5 : w3.heap.size < w5.heap.size := by omega
    go_wp2_with fail
    refine (HE.out _).mono ?_
    rintro e w6 ⟨rfl, hb6⟩
    go_wp2
    go_ret
    exact ⟨rfl, below_comp (below_comp (below_comp (below_comp (below_comp (below_comp (below_comp (below_comp (below_new _) hb1) hb2) hb3) (below_new _)) hb4) hb5) (below_new _)) hb6⟩

set_option maxRecDepth 100000 in
theorem lifted (os : Os) (started : os.Started) (H : Type) (enc : TypeId × Value → H) :
    ReturnsInHanded {} Try.checked os 7 .any (Rows.fnExactFlowOfSpec.pre6 enc Try.prog Try.f7 Rows.fnExactFlowOfRow.domain false) (Rows.fnExactFlowOfSpec.post enc Try.prog Try.f7 false true false false) := by
  refine returnsInHanded_of_change (C := Try.checked) own started (by kernel_rfl) Try.func7
    (ChangeSpec.witness6 (enc := enc) (C := Try.checked) false ⟨#[], #[.agg #[.int .i64 0, .int .i64 0, .int .i64 0, .int .i64 0, .int .i64 0, .int .i64 0, .int .i64 0, .int .i64 0, .int .i64 0, .int .i64 0, .int .i64 0, .int .i64 0, .int .i64 0, .int .i64 0, .int .i64 0, .string ByteArray.empty]], []⟩ 8 (by kernel_rfl) (by kernel_rfl) (by kernel_rfl) (by kernel_rfl)) ?_
  intro W base args ds gs before hval0 hW hcnd _
  have hval : ∀ (j : Nat) t v, Try.f7.params[j]? = some t → args[j]? = some v → Value.okWide Try.prog W .any base t v := hval0
  have hW' := hW
  obtain ⟨p, q, hA0, hV, rfl, hfz, hnd⟩ := hW
  have hA : DataW.TrodAll enc Try.prog W 0 (fun _ => true) true Try.f7.params.toList args.toList ds p := hA0
  rw [Try.params7] at hA hval
  obtain ⟨v0, vs0, d0, ds0, p0, q0, hargs, rfl, rfl, h0, r0⟩ := trodAll_cons hA
  obtain ⟨rfl, rfl, rfl⟩ := trodAll_nil r0
  obtain rfl : args = #[v0] := by cases args; simp_all
  obtain ⟨rfl, rfl⟩ := trodVars_none hV
  have lt0 : ∀ x ∈ p0, x.block < W.heap.size := by obtain ⟨m, hm⟩ := h0; exact DataW.trod_lt m _ _ _ hm
  have k0 := h0
  obtain ⟨a0, rfl, w0⟩ := OpPacket.opened (hval 0 25 v0 rfl rfl) h0
  clear hA0 hval0
  refine (walk W a0 w0).mono fun e W' ⟨he, bel⟩ => ?_
  subst he
  exact ⟨_, rfl, _, _, _, [], _, [], hW', trodAll_mk1 (shut_bool Try.underlying4 _), (trodAll_cons_mk (Below.trod laidOut (by kernel_rfl) (of_decide_eq_true (by kernel_rfl)) k0 bel lt0) trodAll_mk0), rfl, bel.frame _, fun h => by cases h⟩

theorem over : Rows.fnExactFlowOfRow.holds Try.pinned (OpenSpec.ofChange Rows.fnExactFlowOfSpec) :=
  OpenClaim.holds_of_wide 7 Try.f7 rfl rfl rfl rfl rfl rfl rfl ⟨rfl, rfl, rfl, rfl, rfl⟩ rfl rfl rfl rfl rfl (by kernel_rfl) Try.func7 (by kernel_rfl)
    (of_decide_eq_true (by kernel_rfl)) (by unfold Func.isWrapper; first | (rw [if_pos (by decide +kernel)]; kernel_rfl) | (rw [if_neg (by decide +kernel)]; exact ⟨rfl, rfl⟩))
    (fun os started H enc _ => lifted os started H enc)

/-- The statement. -/
theorem proved : Rows.FnExactFlowOfSaid := over

end Go.Proofs.Ytkknfcnajgolfaa.fnExactFlowOf
