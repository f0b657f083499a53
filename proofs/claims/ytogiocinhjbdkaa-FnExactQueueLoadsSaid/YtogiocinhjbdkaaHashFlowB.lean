/- HashFlow of both sides. -/
import Derived.Test.YtogiocinhjbdkaaHashB
import Derived.Test.YtogiocinhjbdkaaHashInputB
namespace Go.Proofs.Ytogiocinhjbdkaa
open Go.RowKit
set_option linter.unusedSimpArgs false
set_option linter.unusedVariables false

theorem input_size (f : FlowM) : f.input.size ≤ 12 := by
  unfold FlowM.input
  simp only [ByteArray.size_append]
  have z1 := w32V_size f.sip
  have z2 := w32V_size f.dip
  have z3 := w16V_size f.sport
  have z4 := w16V_size f.dport
  omega

set_option maxHeartbeats 2000000 in
set_option maxRecDepth 100000 in
theorem spec_hashflow (key : ByteArray) (f : FlowM) (w : World) (hk : key.size ≤ 4194304) :
    Calls Try.prog 172 #[.string key, f.val] w fun r w' => r = .returned (.int .i64 (hashV key f.input)) ∧ Below w.heap.size w w' := by
  have HI := Lib.hid fun W => spec_hashinput f W
  have HH := Lib.hid fun W => spec_hash key f.input W hk (by have := input_size f; omega)
  generalize f.input = I at HI HH ⊢
  generalize hashV key I = R at HH ⊢
  obtain ⟨fk, fa, fb, fc, fd⟩ := f
  unfold FlowM.val at *
  dsimp only at *
  go_enter Try.func172, Try.ntmps172
  go_wp2_with (first
    | (go_at_call 179; refine (HI.out _).mono ?_; rintro e w1 ⟨rfl, hb1⟩)
    | (go_at_call 178; refine (HH.out _).mono ?_; rintro e w2 ⟨rfl, hb2⟩))
  go_ret
  exact ⟨rfl, below_comp (below_comp (below_new _) hb1) hb2⟩

set_option maxHeartbeats 2000000 in
set_option maxRecDepth 100000 in
theorem impl_hashflow (key : ByteArray) (f : FlowM) (w : World) (hk : key.size ≤ 4194304) :
    Calls Try.prog 173 #[.string key, f.val] w fun r w' => r = .returned (.int .i64 (hashV key f.input)) ∧ Below w.heap.size w w' := by
  have HI := Lib.hid fun W => impl_hashinput f W
  have HH := Lib.hid fun W => impl_hash key f.input W hk (by have := input_size f; omega)
  generalize f.input = I at HI HH ⊢
  generalize hashV key I = R at HH ⊢
  obtain ⟨fk, fa, fb, fc, fd⟩ := f
  unfold FlowM.val at *
  dsimp only at *
  go_enter Try.func173, Try.ntmps173
  go_wp2_with (first
    | (go_at_call 181; refine (HI.out _).mono ?_; rintro e w1 ⟨rfl, hb1⟩)
    | (go_at_call 180; refine (HH.out _).mono ?_; rintro e w2 ⟨rfl, hb2⟩))
  go_ret
  exact ⟨rfl, below_comp (below_comp (below_new _) hb1) hb2⟩

end Go.Proofs.Ytogiocinhjbdkaa
