/- IpHeader and BuildIp of both sides, at every datagram. -/
import Derived.Test.YtkknfcnajgolfaaIpHeadB
namespace Go.Proofs.Ytkknfcnajgolfaa
open Go.RowKit
set_option linter.unusedSimpArgs false
theorem head_yes {e : IpM} (h : e.Ok) : e.head = e.header := if_pos h
theorem head_no {e : IpM} (h : ¬ e.Ok) : e.head = ⟨#[]⟩ := if_neg h
theorem ipbuilt_yes {e : IpM} (h : e.Ok) : e.built = e.bytes := if_pos h
theorem ipbuilt_no {e : IpM} (h : ¬ e.Ok) : e.built = ⟨#[]⟩ := if_neg h

set_option maxHeartbeats 2000000 in
theorem spec_header_no (e : IpM) (w : World) (h : ¬ e.Ok) :
    Calls Try.prog 69 #[e.val] w fun r w' => r = .returned (.tuple #[.string ⟨#[]⟩, .bool false]) ∧ Below w.heap.size w w' := by
  have HV : Hid (∀ w1, Calls Try.prog 88 #[e.val] w1 fun r w' => r = .returned (.bool false) ∧ Below w1.heap.size w1 w') := Lib.hid fun w1 => by have := spec_ipok e w1; rwa [decide_eq_false h] at this
  clear h
  obtain ⟨o, n, t, p, x, y, b⟩ := e
  unfold IpM.val at *
  dsimp only at *
  go_enter Try.func69, Try.ntmps69
  go_wp2_with (go_at_call 88; refine (HV.out _).mono ?_; rintro e w1 ⟨rfl, hb1⟩)
  go_ret2
  exact ⟨rfl, below_comp (below_new _) hb1⟩
theorem spec_header (e : IpM) (w : World) :
    Calls Try.prog 69 #[e.val] w fun r w' => r = .returned (.tuple #[.string e.head, .bool (decide e.Ok)]) ∧ Below w.heap.size w w' := by
  by_cases h : e.Ok
  · rw [head_yes h, decide_eq_true h]; exact spec_header_yes e w h
  · rw [head_no h, decide_eq_false h]; exact spec_header_no e w h
set_option maxHeartbeats 2000000 in
theorem spec_buildip (e : IpM) (w : World) :
    Calls Try.prog 47 #[e.val] w fun r w' => r = .returned (.tuple #[.string e.built, .bool (decide e.Ok)]) ∧ Below w.heap.size w w' := by
  have HV := Lib.hid fun W => spec_header e W
  by_cases h : e.Ok
  case' pos =>
    have HR : Hid (e.header ++ e.body = e.built) := Lib.hid (ipbuilt_yes h).symm
    have hz : e.header.size ≤ 20 := by rw [e.header_size]; omega
    have h7 : (e.body.size : Int) ≤ 380 := h.2.2.2.2.2.2
    rw [head_yes h, decide_eq_true h] at HV
    rw [decide_eq_true h]
  case' neg =>
    have HR : Hid (⟨#[]⟩ = e.built) := Lib.hid (ipbuilt_no h).symm
    rw [head_no h, decide_eq_false h] at HV
    rw [decide_eq_false h]
    have h7 : True := trivial
    have hz : True := trivial
  all_goals
    clear h
    generalize e.built = R at HR ⊢
    try generalize e.header = H at HR HV hz
    obtain ⟨o, n, t, p, x, y, b⟩ := e
    unfold IpM.val at *
    dsimp only at *
    try have k : ¬ 9223372036854775807 < H.size + b.size := by omega
    go_enter Try.func47, Try.ntmps47
    go_wp2_with (go_at_call 69; refine (HV.out _).mono ?_; rintro e w1 ⟨rfl, hb1⟩; obtain ⟨hc, hf, _⟩ := bcell hb1)
    go_ret2
    exact ⟨ret_str_bool (by first | exact HR.out | rfl) rfl, below_comp (below_new _) hb1⟩

set_option maxHeartbeats 2000000 in
theorem impl_header_no (e : IpM) (w : World) (h : ¬ e.Ok) :
    Calls Try.prog 76 #[e.val] w fun r w' => r = .returned (.tuple #[.string ⟨#[]⟩, .bool false]) ∧ Below w.heap.size w w' := by
  have HV : Hid (∀ w1, Calls Try.prog 91 #[e.val] w1 fun r w' => r = .returned (.bool false) ∧ Below w1.heap.size w1 w') := Lib.hid fun w1 => by have := impl_ipok e w1; rwa [decide_eq_false h] at this
  clear h
  obtain ⟨o, n, t, p, x, y, b⟩ := e
  unfold IpM.val at *
  dsimp only at *
  go_enter Try.func76, Try.ntmps76
  go_wp2_with (go_at_call 91; refine (HV.out _).mono ?_; rintro e w1 ⟨rfl, hb1⟩)
  go_ret2
  exact ⟨rfl, below_comp (below_new _) hb1⟩
theorem impl_header (e : IpM) (w : World) :
    Calls Try.prog 76 #[e.val] w fun r w' => r = .returned (.tuple #[.string e.head, .bool (decide e.Ok)]) ∧ Below w.heap.size w w' := by
  by_cases h : e.Ok
  · rw [head_yes h, decide_eq_true h]; exact impl_header_yes e w h
  · rw [head_no h, decide_eq_false h]; exact impl_header_no e w h
set_option maxHeartbeats 2000000 in
theorem impl_buildip (e : IpM) (w : World) :
    Calls Try.prog 51 #[e.val] w fun r w' => r = .returned (.tuple #[.string e.built, .bool (decide e.Ok)]) ∧ Below w.heap.size w w' := by
  have HV := Lib.hid fun W => impl_header e W
  by_cases h : e.Ok
  case' pos =>
    have HR : Hid (e.header ++ e.body = e.built) := Lib.hid (ipbuilt_yes h).symm
    have hz : e.header.size ≤ 20 := by rw [e.header_size]; omega
    have h7 : (e.body.size : Int) ≤ 380 := h.2.2.2.2.2.2
    rw [head_yes h, decide_eq_true h] at HV
    rw [decide_eq_true h]
  case' neg =>
    have HR : Hid (⟨#[]⟩ = e.built) := Lib.hid (ipbuilt_no h).symm
    rw [head_no h, decide_eq_false h] at HV
    rw [decide_eq_false h]
    have h7 : True := trivial
    have hz : True := trivial
  all_goals
    clear h
    generalize e.built = R at HR ⊢
    try generalize e.header = H at HR HV hz
    obtain ⟨o, n, t, p, x, y, b⟩ := e
    unfold IpM.val at *
    dsimp only at *
    try have k : ¬ 9223372036854775807 < H.size + b.size := by omega
    go_enter Try.func51, Try.ntmps51
    go_wp2_with (go_at_call 76; refine (HV.out _).mono ?_; rintro e w1 ⟨rfl, hb1⟩; obtain ⟨hc, hf, _⟩ := bcell hb1)
    go_ret2
    exact ⟨ret_str_bool (by first | exact HR.out | rfl) rfl, below_comp (below_new _) hb1⟩

end Go.Proofs.Ytkknfcnajgolfaa
