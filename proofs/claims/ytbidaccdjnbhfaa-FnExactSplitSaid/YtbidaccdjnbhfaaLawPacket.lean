/- The laws' own help for packets: toPacket, szPacket. -/
import Derived.Test.YtbidaccdjnbhfaaLawSegment
namespace Go.Proofs.Ytbidaccdjnbhfaa
open Go.RowKit
set_option linter.unusedSimpArgs false
set_option linter.unusedVariables false
set_option maxHeartbeats 4000000 in
set_option maxRecDepth 100000 in
theorem to_packet (p : PktM) (w : World) :
    Calls Try.prog 25 #[p.val] w fun r w' => r = .returned p.val ∧ Below w.heap.size w w' := by
  have HT := Lib.hid fun W => to_segment p.seg W
  obtain ⟨dm, sm, vl, ts, id, tl, si, di, ⟨k, sp, dp, q, c, f, n, b⟩⟩ := p
  unfold PktM.val
  unfold SegM.val at HT
  dsimp only at *
  go_enter Try.func25, Try.ntmps25
  go_wp2_with fail
  refine (HT.out _).mono ?_
  rintro e w1 ⟨rfl, hb1⟩
  obtain ⟨hc, hf, _⟩ := bcell hb1
  have hz := hb1.size
  simp at hz
  have hg0 : w.heap.size < w1.heap.size := by omega
  have hg1 : w.heap.size + 1 < w1.heap.size := by omega
  have hg2 : w.heap.size + 1 + 1 < w1.heap.size := by omega
  go_wp2
  refine bodyPost_ret (v := .agg #[.int .i64 dm, .int .i64 sm, .int .i64 vl, .int .i64 ts, .int .i64 id, .int .i64 tl, .int .i64 si, .int .i64 di, .int .i64 k, .int .i64 sp, .int .i64 dp, .int .i64 q, .int .i64 c, .int .i64 f, .int .i64 n, .string b]) (by simp [results, Try.results25, go_sem, hc, hg0, hg1, hg2]) rfl ⟨rfl, ?_⟩
  have hb3 : Below w.heap.size w w1 := below_comp (below_comp (below_comp (below_new _) (below_new _)) (below_new _)) hb1
  repeat (with_reducible refine Below.setCell ?_ (by dsimp only; omega) _)
  exact hb3
theorem sz_packet (p : PktM) (left : Int) (w : World) (hw : p.Wf) (h : 0 ≤ left ∧ left ≤ 4194304) :
    Calls Try.prog 23 #[p.val, .int .i64 left] w fun r w' => r = .returned (.int .i64 (if left < p.seg.body.size then -1 else left - p.seg.body.size)) ∧ Below w.heap.size w w' := by
  have HZ := Lib.hid fun W => sz_segment p.seg left W hw.2.2.2.2.2.2.2.2 h
  obtain ⟨dm, sm, vl, ts, id, tl, si, di, ⟨k, sp, dp, q, c, f, n, b⟩⟩ := p
  have hb : b.size ≤ 9223372036854775807 := hw.2.2.2.2.2.2.2.2.2.2.2.2.2.2.2
  unfold PktM.val
  unfold SegM.val at HZ
  dsimp only at *
  by_cases hl : left < b.size
  case' pos =>
    rw [if_pos hl] at HZ ⊢
    have h1 : left - b.size < 0 := by omega
  case' neg =>
    rw [if_neg hl] at HZ ⊢
    have h1 : ¬ left - b.size < 0 := by omega
  all_goals
    go_enter Try.func23, Try.ntmps23
    go_wp2_with (go_at_call 66; refine (HZ.out _).mono ?_; rintro e w1 ⟨rfl, hb1⟩)
    go_ret
    exact ⟨rfl, below_comp (below_new _) hb1⟩
end Go.Proofs.Ytbidaccdjnbhfaa
