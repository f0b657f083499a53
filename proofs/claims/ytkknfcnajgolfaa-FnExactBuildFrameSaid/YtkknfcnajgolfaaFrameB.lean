/- BuildFrame of both sides. -/
import Derived.Test.YtkknfcnajgolfaaImageB
import Derived.Test.YtkknfcnajgolfaaCrcMake
import Derived.Test.YtkknfcnajgolfaaCrcWith
namespace Go.Proofs.Ytkknfcnajgolfaa
open Go.RowKit
set_option linter.unusedSimpArgs false
set_option linter.unusedVariables false
def PktM.frame (p : PktM) : ByteArray := if p.Ok then withF p.image else ⟨#[]⟩
theorem withsum_size (g : SegM) (c : Int) : (g.withSum c).size ≤ 20 + g.body.size := by
  unfold SegM.withSum
  split
  · rw [SegM.udp_size]; omega
  · rw [SegM.tcp_size]; omega
theorem segB_ok (p : PktM) (h : p.SuperOk) : p.seg.OkB p.sip p.dip := by
  refine ⟨h.2.2.2.2.2.2.2.2.1, h.2.2.2.2.2.2.1, h.2.2.2.2.2.2.2.1, ?_, ?_⟩
  · have := h.2.2.2.2.2.2.2.2.1.2.2.2; omega
  · have h1 := h.2.2.2.2.2.2.2.2.1.2.2.1
    have h2 := withsum_size p.seg 0
    unfold SegM.len
    omega
theorem segB_size (p : PktM) : p.segB.size ≤ 20 + p.seg.body.size := by
  unfold PktM.segB SegM.built
  split
  · exact withsum_size _ _
  · exact Nat.zero_le _
theorem ip_ok (p : PktM) (h : p.SuperOk) : p.ip.Ok := by
  obtain ⟨h1, h2, h3, h4, h5, h6, h7, h8, h9, h10⟩ := h
  have hk := h9.2.2.2
  have hb := h9.2.2.1
  have hs := segB_size p
  refine ⟨h4, h5, ?_, h6, h7, h8, ?_⟩
  · show 0 ≤ p.seg.kind ∧ p.seg.kind ≤ 255
    omega
  · show (p.segB.size : Int) ≤ 380
    omega
theorem padB_size (s : ByteArray) (h : s.size ≤ 400) : 46 ≤ (padB s).size ∧ (padB s).size ≤ 400 := by
  unfold padB
  split
  · rw [ByteArray.size_append, longB_size]; omega
  · omega
theorem eth_ok (p : PktM) (h : p.SuperOk) : p.eth.Ok := by
  obtain ⟨h1, h2, h3, _⟩ := h
  exact ⟨h1, h2, h3, ⟨by show (1536 : Int) ≤ 2048; decide, by show (2048 : Int) ≤ 65535; decide⟩, by show (2048 : Int) ≠ 33024; decide, padB_size _ (ipbuilt_size _)⟩
theorem imageOk_super (p : PktM) (h : p.SuperOk) : p.imageOk = true := by
  unfold PktM.imageOk
  rw [decide_eq_true h, decide_eq_true (eth_ok p h)]
  rfl
theorem ethbytes_size (e : EthM) (h : e.Ok) : e.bytes.size ≤ 420 := by
  have := h.2.2.2.2.2
  unfold EthM.bytes EthM.tag
  simp only [ByteArray.size_append]
  have h1 : (mac e.dst).size = 6 := rfl
  have h2 : (mac e.src).size = 6 := rfl
  have h3 : (w16 e.type).size = 2 := rfl
  split
  · have h4 : (w16 33024 ++ w16 e.vlan).size = 4 := rfl
    omega
  · have h4 : (⟨#[]⟩ : ByteArray).size = 0 := rfl
    omega
theorem image_size (p : PktM) : p.image.size ≤ 420 := by
  unfold PktM.image EthM.built
  split
  · split
    · exact ethbytes_size _ (by assumption)
    · exact Nat.zero_le _
  · exact Nat.zero_le _

set_option maxHeartbeats 8000000 in
set_option maxRecDepth 100000 in
theorem spec_frame (p : PktM) (w : World) :
    Calls Try.prog 21 #[p.val] w fun r w' => r = .returned (.tuple #[.string p.frame, .bool (decide p.Ok)]) ∧ Below w.heap.size w w' := by
  have HV := Lib.hid fun W => spec_packetok p W
  have HW := Lib.hid fun W => spec_with p.image W (by have := image_size p; omega)
  by_cases h : p.Ok
  case' pos =>
    have HI : Hid (∀ W, Calls Try.prog 19 #[p.val] W fun r w' => r = .returned (.tuple #[.string p.image, .bool true]) ∧ Below W.heap.size W w') := Lib.hid fun W => by have := spec_image p W; rwa [imageOk_super p h.1] at this
    rw [show p.frame = withF p.image from if_pos h, decide_eq_true h]
    rw [decide_eq_true h] at HV
  case' neg =>
    have HI : Hid True := Lib.hid trivial
    rw [show p.frame = ⟨#[]⟩ from if_neg h, decide_eq_false h]
    rw [decide_eq_false h] at HV
  all_goals
    clear h
    generalize p.image = I at HW HI ⊢
    generalize withF I = R at HW ⊢
    obtain ⟨dm, sm, vl, ts, id, tl, si, di, ⟨k, sp, dp, q, c, f, n, b⟩⟩ := p
    unfold PktM.val at *
    dsimp only at *
    go_enter Try.func21, Try.ntmps21
    go_wp2_with fail
    refine (HV.out _).mono ?_
    rintro e w1 ⟨rfl, hb1⟩
    obtain ⟨hc, hf, _⟩ := bcell hb1
    have hg1 : w.heap.size < w1.heap.size := by have := hb1.size; simp at this; omega
    go_wp2_with (first
      | (go_at_call 19; refine (HI.out _).mono ?_; rintro e w2 ⟨rfl, hb2⟩)
      | (go_at_call 54; refine (HW.out _).mono ?_; rintro e w3 ⟨rfl, hb3⟩))
    go_ret2
    refine ⟨rfl, ?_⟩
    first | exact below_comp (below_comp (below_comp (below_new _) hb1) hb2) hb3 | exact below_comp (below_new _) hb1

set_option maxHeartbeats 8000000 in
set_option maxRecDepth 100000 in
theorem impl_frame (p : PktM) (w : World) :
    Calls Try.prog 22 #[p.val] w fun r w' => r = .returned (.tuple #[.string p.frame, .bool (decide p.Ok)]) ∧ Below w.heap.size w w' := by
  have HV := Lib.hid fun W => impl_packetok p W
  have HW := Lib.hid fun W => impl_with p.image W (by have := image_size p; omega)
  by_cases h : p.Ok
  case' pos =>
    have HI : Hid (∀ W, Calls Try.prog 20 #[p.val] W fun r w' => r = .returned (.tuple #[.string p.image, .bool true]) ∧ Below W.heap.size W w') := Lib.hid fun W => by have := impl_image p W; rwa [imageOk_super p h.1] at this
    rw [show p.frame = withF p.image from if_pos h, decide_eq_true h]
    rw [decide_eq_true h] at HV
  case' neg =>
    have HI : Hid True := Lib.hid trivial
    rw [show p.frame = ⟨#[]⟩ from if_neg h, decide_eq_false h]
    rw [decide_eq_false h] at HV
  all_goals
    clear h
    generalize p.image = I at HW HI ⊢
    generalize withF I = R at HW ⊢
    obtain ⟨dm, sm, vl, ts, id, tl, si, di, ⟨k, sp, dp, q, c, f, n, b⟩⟩ := p
    unfold PktM.val at *
    dsimp only at *
    go_enter Try.func22, Try.ntmps22
    go_wp2_with fail
    refine (HV.out _).mono ?_
    rintro e w1 ⟨rfl, hb1⟩
    obtain ⟨hc, hf, _⟩ := bcell hb1
    have hg1 : w.heap.size < w1.heap.size := by have := hb1.size; simp at this; omega
    go_wp2_with (first
      | (go_at_call 20; refine (HI.out _).mono ?_; rintro e w2 ⟨rfl, hb2⟩)
      | (go_at_call 55; refine (HW.out _).mono ?_; rintro e w3 ⟨rfl, hb3⟩))
    go_ret2
    refine ⟨rfl, ?_⟩
    first | exact below_comp (below_comp (below_comp (below_new _) hb1) hb2) hb3 | exact below_comp (below_new _) hb1

end Go.Proofs.Ytkknfcnajgolfaa
