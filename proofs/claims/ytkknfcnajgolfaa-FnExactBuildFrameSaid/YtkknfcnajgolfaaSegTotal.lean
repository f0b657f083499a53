/- BuildSegment of both sides, at every argument. -/
import Derived.Test.YtkknfcnajgolfaaSegSpec
import Derived.Test.YtkknfcnajgolfaaSegImpl
namespace Go.Proofs.Ytkknfcnajgolfaa
open Go.RowKit
set_option linter.unusedSimpArgs false
set_option linter.unusedVariables false

set_option maxHeartbeats 4000000 in
theorem spec_seg_bad (g : SegM) (x y : Int) (w : World) (h : ¬ g.Ok) :
    Calls Try.prog 46 #[.int .i64 x, .int .i64 y, g.val] w fun r w' => r = .returned (.tuple #[.string ⟨#[]⟩, .bool false]) ∧ Below w.heap.size w w' := by
  have HV : Hid (∀ w1, Calls Try.prog 41 #[g.val] w1 fun r w' => r = .returned (.bool false) ∧ Below w1.heap.size w1 w') := Lib.hid fun w1 => by have := spec_segmentok g w1; rwa [decide_eq_false h] at this
  clear h
  obtain ⟨k, sp, dp, q, c, f, n, b⟩ := g
  unfold SegM.val at *
  dsimp only at *
  go_enter Try.func46, Try.ntmps46
  go_wp2_with (go_at_call 41; refine (HV.out _).mono ?_; rintro e w1 ⟨rfl, hb1⟩)
  go_ret2
  exact ⟨rfl, below_comp (below_new _) hb1⟩
theorem spec_buildseg (g : SegM) (x y : Int) (w : World) :
    Calls Try.prog 46 #[.int .i64 x, .int .i64 y, g.val] w fun r w' => r = .returned (.tuple #[.string (g.built x y), .bool (decide (g.OkB x y))]) ∧ Below w.heap.size w w' := by
  by_cases h : g.Ok
  · have hk : g.kind = 17 ∨ g.kind = 6 := by have := h.2.2.2; omega
    obtain ⟨k, sp, dp, q, c, f, n, b⟩ := g
    dsimp only at hk
    by_cases hp : pseudoOk x y k (SegM.len ⟨k, sp, dp, q, c, f, n, b⟩)
    · have hb : SegM.OkB ⟨k, sp, dp, q, c, f, n, b⟩ x y := ⟨h, hp⟩
      rw [decide_eq_true hb, show SegM.built ⟨k, sp, dp, q, c, f, n, b⟩ x y = _ from if_pos hb]
      rcases hk with rfl | rfl
      · exact spec_seg_udp_yes x y sp dp q c f n b w h hp
      · exact spec_seg_tcp_yes x y sp dp q c f n b w h hp
    · have hb : ¬ SegM.OkB ⟨k, sp, dp, q, c, f, n, b⟩ x y := fun hb => hp hb.2
      rw [decide_eq_false hb, show SegM.built ⟨k, sp, dp, q, c, f, n, b⟩ x y = _ from if_neg hb]
      rcases hk with rfl | rfl
      · exact spec_seg_udp_no x y sp dp q c f n b w h hp
      · exact spec_seg_tcp_no x y sp dp q c f n b w h hp
  · have hb : ¬ g.OkB x y := fun hb => h hb.1
    rw [decide_eq_false hb, show g.built x y = _ from if_neg hb]
    exact spec_seg_bad g x y w h

set_option maxHeartbeats 4000000 in
theorem impl_seg_bad (g : SegM) (x y : Int) (w : World) (h : ¬ g.Ok) :
    Calls Try.prog 50 #[.int .i64 x, .int .i64 y, g.val] w fun r w' => r = .returned (.tuple #[.string ⟨#[]⟩, .bool false]) ∧ Below w.heap.size w w' := by
  have HV : Hid (∀ w1, Calls Try.prog 44 #[g.val] w1 fun r w' => r = .returned (.bool false) ∧ Below w1.heap.size w1 w') := Lib.hid fun w1 => by have := impl_segmentok g w1; rwa [decide_eq_false h] at this
  clear h
  obtain ⟨k, sp, dp, q, c, f, n, b⟩ := g
  unfold SegM.val at *
  dsimp only at *
  go_enter Try.func50, Try.ntmps50
  go_wp2_with (go_at_call 44; refine (HV.out _).mono ?_; rintro e w1 ⟨rfl, hb1⟩)
  go_ret2
  exact ⟨rfl, below_comp (below_new _) hb1⟩
theorem impl_buildseg (g : SegM) (x y : Int) (w : World) :
    Calls Try.prog 50 #[.int .i64 x, .int .i64 y, g.val] w fun r w' => r = .returned (.tuple #[.string (g.built x y), .bool (decide (g.OkB x y))]) ∧ Below w.heap.size w w' := by
  by_cases h : g.Ok
  · have hk : g.kind = 17 ∨ g.kind = 6 := by have := h.2.2.2; omega
    obtain ⟨k, sp, dp, q, c, f, n, b⟩ := g
    dsimp only at hk
    by_cases hp : pseudoOk x y k (SegM.len ⟨k, sp, dp, q, c, f, n, b⟩)
    · have hb : SegM.OkB ⟨k, sp, dp, q, c, f, n, b⟩ x y := ⟨h, hp⟩
      rw [decide_eq_true hb, show SegM.built ⟨k, sp, dp, q, c, f, n, b⟩ x y = _ from if_pos hb]
      rcases hk with rfl | rfl
      · exact impl_seg_udp_yes x y sp dp q c f n b w h hp
      · exact impl_seg_tcp_yes x y sp dp q c f n b w h hp
    · have hb : ¬ SegM.OkB ⟨k, sp, dp, q, c, f, n, b⟩ x y := fun hb => hp hb.2
      rw [decide_eq_false hb, show SegM.built ⟨k, sp, dp, q, c, f, n, b⟩ x y = _ from if_neg hb]
      rcases hk with rfl | rfl
      · exact impl_seg_udp_no x y sp dp q c f n b w h hp
      · exact impl_seg_tcp_no x y sp dp q c f n b w h hp
  · have hb : ¬ g.OkB x y := fun hb => h hb.1
    rw [decide_eq_false hb, show g.built x y = _ from if_neg hb]
    exact impl_seg_bad g x y w h

end Go.Proofs.Ytkknfcnajgolfaa
