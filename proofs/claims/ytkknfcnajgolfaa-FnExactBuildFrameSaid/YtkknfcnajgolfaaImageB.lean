/- BuildImage of both sides. -/
import Derived.Test.YtkknfcnajgolfaaSuperOkB
import Derived.Test.YtkknfcnajgolfaaSegTotal
import Derived.Test.YtkknfcnajgolfaaIpTotal
import Derived.Test.YtkknfcnajgolfaaEthTotal
import Derived.Test.YtkknfcnajgolfaaPadB
namespace Go.Proofs.Ytkknfcnajgolfaa
open Go.RowKit
set_option linter.unusedSimpArgs false
set_option linter.unusedVariables false
def PktM.segB (p : PktM) : ByteArray := p.seg.built p.sip p.dip
def PktM.ip (p : PktM) : IpM := ⟨p.tos, p.id, p.ttl, p.seg.kind, p.sip, p.dip, p.segB⟩
def PktM.eth (p : PktM) : EthM := ⟨p.dmac, p.smac, p.vlan, 2048, padB p.ip.built⟩
def PktM.image (p : PktM) : ByteArray := if p.SuperOk then p.eth.built else ⟨#[]⟩
def PktM.imageOk (p : PktM) : Bool := decide p.SuperOk && decide p.eth.Ok
theorem ipbuilt_size (e : IpM) : e.built.size ≤ 400 := by
  by_cases h : e.Ok
  · have h7 := h.2.2.2.2.2.2
    rw [ipbuilt_yes h]
    unfold IpM.bytes
    rw [ByteArray.size_append, e.header_size]
    omega
  · rw [ipbuilt_no h]
    decide

set_option maxHeartbeats 8000000 in
set_option maxRecDepth 100000 in
theorem spec_image_yes (p : PktM) (w : World) (h : p.SuperOk) :
    Calls Try.prog 19 #[p.val] w fun r w' => r = .returned (.tuple #[.string p.eth.built, .bool (decide p.eth.Ok)]) ∧ Below w.heap.size w w' := by
  have HV : Hid (∀ W, Calls Try.prog 14 #[p.val] W fun r w' => r = .returned (.bool true) ∧ Below W.heap.size W w') := Lib.hid fun W => by have := spec_superok p W; rwa [decide_eq_true h] at this
  have HSeg := Lib.hid fun W => spec_buildseg p.seg p.sip p.dip W
  have HIp := Lib.hid fun W => spec_buildip p.ip W
  have HPad := Lib.hid fun W => spec_pad p.ip.built W (by have := ipbuilt_size p.ip; omega)
  have HEth := Lib.hid fun W => spec_build p.eth W
  obtain ⟨R, HR⟩ : ∃ R, Hid (p.eth.built = R) := ⟨_, Lib.hid rfl⟩
  rw [HR.out] at HEth ⊢
  obtain ⟨B, HB⟩ : ∃ B, Hid (decide p.eth.Ok = B) := ⟨_, Lib.hid rfl⟩
  rw [HB.out] at HEth ⊢
  unfold PktM.eth EthM.val at HEth
  dsimp only at HEth
  obtain ⟨Q, HQ⟩ : ∃ Q, Hid (padB p.ip.built = Q) := ⟨_, Lib.hid rfl⟩
  rw [HQ.out] at HEth HPad
  obtain ⟨D, HD⟩ : ∃ D, Hid (p.ip.built = D) := ⟨_, Lib.hid rfl⟩
  rw [HD.out] at HPad HIp
  generalize decide p.ip.Ok = B2 at HIp
  unfold PktM.ip IpM.val PktM.segB at HIp
  dsimp only at HIp
  obtain ⟨G, HG⟩ : ∃ G, Hid (p.seg.built p.sip p.dip = G) := ⟨_, Lib.hid rfl⟩
  rw [HG.out] at HIp HSeg
  generalize decide (p.seg.OkB p.sip p.dip) = B3 at HSeg
  clear HG HD HQ HB HR h
  obtain ⟨dm, sm, vl, ts, id, tl, si, di, ⟨k, sp, dp, q, c, f, n, b⟩⟩ := p
  unfold PktM.val at *
  unfold SegM.val at HSeg
  dsimp only at *
  go_enter Try.func19, Try.ntmps19
  go_wp2_with fail
  refine (HV.out _).mono ?_
  rintro e w1 ⟨rfl, hb1⟩
  obtain ⟨hc, hf, _⟩ := bcell hb1
  have hg1 : w.heap.size < w1.heap.size := by have := hb1.size; simp at this; omega
  have HB1 := Lib.hid ((Box.new w #[.int .i64 dm, .int .i64 sm, .int .i64 vl, .int .i64 ts, .int .i64 id, .int .i64 tl, .int .i64 si, .int .i64 di, .int .i64 k, .int .i64 sp, .int .i64 dp, .int .i64 q, .int .i64 c, .int .i64 f, .int .i64 n, .string b] 30).below hb1 (by simp))
  have hb01 := below_comp (below_new _) hb1
  clear hb1
  go_wp2_with fail
  refine (HSeg.out _).mono ?_
  rintro e w2 ⟨rfl, hb2⟩
  obtain ⟨hc2, hf2, _⟩ := bcell hb2
  have hg2 : w.heap.size < w2.heap.size := Nat.lt_of_lt_of_le hg1 hb2.size
  go_wp2_with fail
  refine (HIp.out _).mono ?_
  rintro e w3 ⟨rfl, hb3⟩
  have hg3 : w.heap.size < w3.heap.size := Nat.lt_of_lt_of_le hg2 hb3.size
  have HB3 := Lib.hid ((HB1.out.below hb2 hg1).below hb3 hg2)
  have hb03 := below_comp (below_comp hb01 hb2) hb3
  clear hc hf hc2 hf2 hb2 hb3 hb01
  go_wp2_with fail
  refine wp_region_values (by kernel_rfl) (fun W => Below w3.heap.size w3 W) (Vals [.pointer (some ⟨w.heap.size, 0, none⟩), .int .i64 dm, .pointer (some ⟨w.heap.size, 1, none⟩), .int .i64 sm, .pointer (some ⟨w.heap.size, 2, none⟩), .int .i64 vl, .string D, .string Q, .agg #[.int .i64 dm, .int .i64 sm, .int .i64 vl, .int .i64 2048, .string Q], .tuple #[.string R, .bool B], .string R, .bool B, .string R, .bool B] [])
    52 rfl (by kernel_rfl) (by kernel_rfl) below_drew (eachOp_all ?_) ?_
  · refine ⟨?_, ?_, ?_, ?_, ?_, ?_, ?_, ?_, ?_, ?_, ?_, ?_, ?_, ?_, trivial⟩
    · intro a W hd hS hdep hfree
      have x1 : a.tmps.getD 1 undef = .pointer (some ⟨w.heap.size, 0, none⟩) := hfree 1 rfl
      clear hd hdep hfree
      simp only [Oper.wp, execOp]
      go_simp
      refine Nxt.mk _ rfl (fun _ _ => ?_) hS (fun _ _ h => h)
      rfl
    · intro a W hd hS hdep hfree
      have x40 : a.tmps.getD 40 undef = .pointer (some ⟨w.heap.size, 0, none⟩) := hdep 0 40 rfl rfl
      clear hd hdep hfree
      have c : W.cell? ⟨w.heap.size, 0, none⟩ = some (.int .i64 dm) := (HB3.out.below hS hg3).cell 0 (by simp)
      simp only [Oper.wp, execOp]
      go_simp
      refine Nxt.mk _ rfl (fun _ _ => ?_) hS (fun _ _ h => h)
      rfl
    · intro a W hd hS hdep hfree
      have x1 : a.tmps.getD 1 undef = .pointer (some ⟨w.heap.size, 0, none⟩) := hfree 1 rfl
      clear hd hdep hfree
      simp only [Oper.wp, execOp]
      go_simp
      refine Nxt.mk _ rfl (fun _ _ => ?_) hS (fun _ _ h => h)
      rfl
    · intro a W hd hS hdep hfree
      have x42 : a.tmps.getD 42 undef = .pointer (some ⟨w.heap.size, 1, none⟩) := hdep 2 42 rfl rfl
      clear hd hdep hfree
      have c : W.cell? ⟨w.heap.size, 1, none⟩ = some (.int .i64 sm) := (HB3.out.below hS hg3).cell 1 (by simp)
      simp only [Oper.wp, execOp]
      go_simp
      refine Nxt.mk _ rfl (fun _ _ => ?_) hS (fun _ _ h => h)
      rfl
    · intro a W hd hS hdep hfree
      have x1 : a.tmps.getD 1 undef = .pointer (some ⟨w.heap.size, 0, none⟩) := hfree 1 rfl
      clear hd hdep hfree
      simp only [Oper.wp, execOp]
      go_simp
      refine Nxt.mk _ rfl (fun _ _ => ?_) hS (fun _ _ h => h)
      rfl
    · intro a W hd hS hdep hfree
      have x44 : a.tmps.getD 44 undef = .pointer (some ⟨w.heap.size, 2, none⟩) := hdep 4 44 rfl rfl
      clear hd hdep hfree
      have c : W.cell? ⟨w.heap.size, 2, none⟩ = some (.int .i64 vl) := (HB3.out.below hS hg3).cell 2 (by simp)
      simp only [Oper.wp, execOp]
      go_simp
      refine Nxt.mk _ rfl (fun _ _ => ?_) hS (fun _ _ h => h)
      rfl
    · intro a W hd hS hdep hfree
      have x6 : a.tmps.getD 6 undef = .string D := hfree 6 rfl
      clear hd hdep hfree
      simp only [Oper.wp, execOp]
      go_simp
      refine Nxt.mk _ rfl (fun _ _ => ?_) hS (fun _ _ h => h)
      rfl
    · intro a W hd hS hdep hfree
      have x46 : a.tmps.getD 46 undef = .string D := hdep 6 46 rfl rfl
      clear hd hdep hfree
      simp only [Oper.wp, execOp]
      go_simp
      refine (HPad.out W).mono ?_
      rintro e W' ⟨rfl, hb⟩
      exact Nxt.mk _ rfl (fun _ _ => rfl) (below_comp hS hb) (fun j u h => Vals.below hb j u h)
    · intro a W hd hS hdep hfree
      have x41 : a.tmps.getD 41 undef = .int .i64 dm := hdep 1 41 rfl rfl
      have x43 : a.tmps.getD 43 undef = .int .i64 sm := hdep 3 43 rfl rfl
      have x45 : a.tmps.getD 45 undef = .int .i64 vl := hdep 5 45 rfl rfl
      have x47 : a.tmps.getD 47 undef = .string Q := hdep 7 47 rfl rfl
      have y41 : a.tmps[41]?.getD undef = .int .i64 dm := by rw [← Array.getD_eq_getD_getElem?]; exact x41
      have y43 : a.tmps[43]?.getD undef = .int .i64 sm := by rw [← Array.getD_eq_getD_getElem?]; exact x43
      have y45 : a.tmps[45]?.getD undef = .int .i64 vl := by rw [← Array.getD_eq_getD_getElem?]; exact x45
      have y47 : a.tmps[47]?.getD undef = .string Q := by rw [← Array.getD_eq_getD_getElem?]; exact x47
      clear hd hdep hfree
      simp only [Oper.wp, execOp]
      go_simp
      refine Nxt.mk _ rfl (fun _ _ => ?_) hS (fun _ _ h => h)
      rfl
    · intro a W hd hS hdep hfree
      have x48 : a.tmps.getD 48 undef = .agg #[.int .i64 dm, .int .i64 sm, .int .i64 vl, .int .i64 2048, .string Q] := hdep 8 48 rfl rfl
      clear hd hdep hfree
      simp only [Oper.wp, execOp]
      go_simp
      refine (HEth.out W).mono ?_
      rintro e W' ⟨rfl, hb⟩
      exact Nxt.mk _ rfl (fun _ _ => rfl) (below_comp hS hb) (fun j u h => Vals.below hb j u h)
    · intro a W hd hS hdep hfree
      have x49 : a.tmps.getD 49 undef = .tuple #[.string R, .bool B] := hdep 9 49 rfl rfl
      clear hd hdep hfree
      simp only [Oper.wp, execOp]
      go_simp
      refine Nxt.mk _ rfl (fun _ _ => ?_) hS (fun _ _ h => h)
      rfl
    · intro a W hd hS hdep hfree
      have x49 : a.tmps.getD 49 undef = .tuple #[.string R, .bool B] := hdep 9 49 rfl rfl
      clear hd hdep hfree
      simp only [Oper.wp, execOp]
      go_simp
      refine Nxt.mk _ rfl (fun _ _ => ?_) hS (fun _ _ h => h)
      rfl
    · intro a W hd hS hdep hfree
      have x50 : a.tmps.getD 50 undef = .string R := hdep 10 50 rfl rfl
      clear hd hdep hfree
      simp only [Oper.wp, execOp]
      go_simp
      refine Nxt.mk _ rfl (fun _ _ => ?_) hS (fun _ _ h => h)
      rfl
    · intro a W hd hS hdep hfree
      have x51 : a.tmps.getD 51 undef = .bool B := hdep 11 51 rfl rfl
      clear hd hdep hfree
      simp only [Oper.wp, execOp]
      go_simp
      refine Nxt.mk _ rfl (fun _ _ => ?_) hS (fun _ _ h => h)
      rfl
  intro a W4 hs hd hS4 hdone hrest
  have ea := written_all [.pointer (some ⟨w.heap.size, 0, none⟩), .int .i64 dm, .pointer (some ⟨w.heap.size, 1, none⟩), .int .i64 sm, .pointer (some ⟨w.heap.size, 2, none⟩), .int .i64 vl, .string D, .string Q, .agg #[.int .i64 dm, .int .i64 sm, .int .i64 vl, .int .i64 2048, .string Q], .tuple #[.string R, .bool B], .string R, .bool B, .string R, .bool B] rfl hs hd hrest hdone
  clear hs hd hdone hrest
  subst ea
  simp only [written, List.map_cons, List.map_nil, List.zip_cons_cons, List.zip_nil_right, putAll]
  simp only [Exit.then, Act.put, List.setIfInBounds_toArray, List.set_cons_zero, List.set_cons_succ]
  go_wp2
  go_ret2
  exact ⟨rfl, below_comp hb03 hS4⟩
set_option maxHeartbeats 4000000 in
set_option maxRecDepth 100000 in
theorem spec_image_no (p : PktM) (w : World) (h : ¬ p.SuperOk) :
    Calls Try.prog 19 #[p.val] w fun r w' => r = .returned (.tuple #[.string ⟨#[]⟩, .bool false]) ∧ Below w.heap.size w w' := by
  have HV : Hid (∀ W, Calls Try.prog 14 #[p.val] W fun r w' => r = .returned (.bool false) ∧ Below W.heap.size W w') := Lib.hid fun W => by have := spec_superok p W; rwa [decide_eq_false h] at this
  clear h
  obtain ⟨dm, sm, vl, ts, id, tl, si, di, ⟨k, sp, dp, q, c, f, n, b⟩⟩ := p
  unfold PktM.val at *
  dsimp only at *
  go_enter Try.func19, Try.ntmps19
  go_wp2_with fail
  refine (HV.out _).mono ?_
  rintro e w1 ⟨rfl, hb1⟩
  go_wp2
  go_ret2
  exact ⟨rfl, below_comp (below_new _) hb1⟩
theorem spec_image (p : PktM) (w : World) :
    Calls Try.prog 19 #[p.val] w fun r w' => r = .returned (.tuple #[.string p.image, .bool p.imageOk]) ∧ Below w.heap.size w w' := by
  by_cases h : p.SuperOk
  · rw [show p.image = p.eth.built from if_pos h, show p.imageOk = decide p.eth.Ok from by unfold PktM.imageOk; rw [decide_eq_true h, Bool.true_and]]; exact spec_image_yes p w h
  · rw [show p.image = ⟨#[]⟩ from if_neg h, show p.imageOk = false from by unfold PktM.imageOk; rw [decide_eq_false h, Bool.false_and]]; exact spec_image_no p w h

set_option maxHeartbeats 8000000 in
set_option maxRecDepth 100000 in
theorem impl_image_yes (p : PktM) (w : World) (h : p.SuperOk) :
    Calls Try.prog 20 #[p.val] w fun r w' => r = .returned (.tuple #[.string p.eth.built, .bool (decide p.eth.Ok)]) ∧ Below w.heap.size w w' := by
  have HV : Hid (∀ W, Calls Try.prog 16 #[p.val] W fun r w' => r = .returned (.bool true) ∧ Below W.heap.size W w') := Lib.hid fun W => by have := impl_superok p W; rwa [decide_eq_true h] at this
  have HSeg := Lib.hid fun W => impl_buildseg p.seg p.sip p.dip W
  have HIp := Lib.hid fun W => impl_buildip p.ip W
  have HPad := Lib.hid fun W => impl_pad p.ip.built W (by have := ipbuilt_size p.ip; omega)
  have HEth := Lib.hid fun W => impl_build p.eth W
  obtain ⟨R, HR⟩ : ∃ R, Hid (p.eth.built = R) := ⟨_, Lib.hid rfl⟩
  rw [HR.out] at HEth ⊢
  obtain ⟨B, HB⟩ : ∃ B, Hid (decide p.eth.Ok = B) := ⟨_, Lib.hid rfl⟩
  rw [HB.out] at HEth ⊢
  unfold PktM.eth EthM.val at HEth
  dsimp only at HEth
  obtain ⟨Q, HQ⟩ : ∃ Q, Hid (padB p.ip.built = Q) := ⟨_, Lib.hid rfl⟩
  rw [HQ.out] at HEth HPad
  obtain ⟨D, HD⟩ : ∃ D, Hid (p.ip.built = D) := ⟨_, Lib.hid rfl⟩
  rw [HD.out] at HPad HIp
  generalize decide p.ip.Ok = B2 at HIp
  unfold PktM.ip IpM.val PktM.segB at HIp
  dsimp only at HIp
  obtain ⟨G, HG⟩ : ∃ G, Hid (p.seg.built p.sip p.dip = G) := ⟨_, Lib.hid rfl⟩
  rw [HG.out] at HIp HSeg
  generalize decide (p.seg.OkB p.sip p.dip) = B3 at HSeg
  clear HG HD HQ HB HR h
  obtain ⟨dm, sm, vl, ts, id, tl, si, di, ⟨k, sp, dp, q, c, f, n, b⟩⟩ := p
  unfold PktM.val at *
  unfold SegM.val at HSeg
  dsimp only at *
  go_enter Try.func20, Try.ntmps20
  go_wp2_with fail
  refine (HV.out _).mono ?_
  rintro e w1 ⟨rfl, hb1⟩
  obtain ⟨hc, hf, _⟩ := bcell hb1
  have hg1 : w.heap.size < w1.heap.size := by have := hb1.size; simp at this; omega
  have HB1 := Lib.hid ((Box.new w #[.int .i64 dm, .int .i64 sm, .int .i64 vl, .int .i64 ts, .int .i64 id, .int .i64 tl, .int .i64 si, .int .i64 di, .int .i64 k, .int .i64 sp, .int .i64 dp, .int .i64 q, .int .i64 c, .int .i64 f, .int .i64 n, .string b] 30).below hb1 (by simp))
  have hb01 := below_comp (below_new _) hb1
  clear hb1
  go_wp2_with fail
  refine (HSeg.out _).mono ?_
  rintro e w2 ⟨rfl, hb2⟩
  obtain ⟨hc2, hf2, _⟩ := bcell hb2
  have hg2 : w.heap.size < w2.heap.size := Nat.lt_of_lt_of_le hg1 hb2.size
  go_wp2_with fail
  refine (HIp.out _).mono ?_
  rintro e w3 ⟨rfl, hb3⟩
  have hg3 : w.heap.size < w3.heap.size := Nat.lt_of_lt_of_le hg2 hb3.size
  have HB3 := Lib.hid ((HB1.out.below hb2 hg1).below hb3 hg2)
  have hb03 := below_comp (below_comp hb01 hb2) hb3
  clear hc hf hc2 hf2 hb2 hb3 hb01
  go_wp2_with fail
  refine wp_region_values (by kernel_rfl) (fun W => Below w3.heap.size w3 W) (Vals [.pointer (some ⟨w.heap.size, 0, none⟩), .int .i64 dm, .pointer (some ⟨w.heap.size, 1, none⟩), .int .i64 sm, .pointer (some ⟨w.heap.size, 2, none⟩), .int .i64 vl, .string D, .string Q, .agg #[.int .i64 dm, .int .i64 sm, .int .i64 vl, .int .i64 2048, .string Q], .tuple #[.string R, .bool B], .string R, .bool B, .string R, .bool B] [])
    52 rfl (by kernel_rfl) (by kernel_rfl) below_drew (eachOp_all ?_) ?_
  · refine ⟨?_, ?_, ?_, ?_, ?_, ?_, ?_, ?_, ?_, ?_, ?_, ?_, ?_, ?_, trivial⟩
    · intro a W hd hS hdep hfree
      have x1 : a.tmps.getD 1 undef = .pointer (some ⟨w.heap.size, 0, none⟩) := hfree 1 rfl
      clear hd hdep hfree
      simp only [Oper.wp, execOp]
      go_simp
      refine Nxt.mk _ rfl (fun _ _ => ?_) hS (fun _ _ h => h)
      rfl
    · intro a W hd hS hdep hfree
      have x40 : a.tmps.getD 40 undef = .pointer (some ⟨w.heap.size, 0, none⟩) := hdep 0 40 rfl rfl
      clear hd hdep hfree
      have c : W.cell? ⟨w.heap.size, 0, none⟩ = some (.int .i64 dm) := (HB3.out.below hS hg3).cell 0 (by simp)
      simp only [Oper.wp, execOp]
      go_simp
      refine Nxt.mk _ rfl (fun _ _ => ?_) hS (fun _ _ h => h)
      rfl
    · intro a W hd hS hdep hfree
      have x1 : a.tmps.getD 1 undef = .pointer (some ⟨w.heap.size, 0, none⟩) := hfree 1 rfl
      clear hd hdep hfree
      simp only [Oper.wp, execOp]
      go_simp
      refine Nxt.mk _ rfl (fun _ _ => ?_) hS (fun _ _ h => h)
      rfl
    · intro a W hd hS hdep hfree
      have x42 : a.tmps.getD 42 undef = .pointer (some ⟨w.heap.size, 1, none⟩) := hdep 2 42 rfl rfl
      clear hd hdep hfree
      have c : W.cell? ⟨w.heap.size, 1, none⟩ = some (.int .i64 sm) := (HB3.out.below hS hg3).cell 1 (by simp)
      simp only [Oper.wp, execOp]
      go_simp
      refine Nxt.mk _ rfl (fun _ _ => ?_) hS (fun _ _ h => h)
      rfl
    · intro a W hd hS hdep hfree
      have x1 : a.tmps.getD 1 undef = .pointer (some ⟨w.heap.size, 0, none⟩) := hfree 1 rfl
      clear hd hdep hfree
      simp only [Oper.wp, execOp]
      go_simp
      refine Nxt.mk _ rfl (fun _ _ => ?_) hS (fun _ _ h => h)
      rfl
    · intro a W hd hS hdep hfree
      have x44 : a.tmps.getD 44 undef = .pointer (some ⟨w.heap.size, 2, none⟩) := hdep 4 44 rfl rfl
      clear hd hdep hfree
      have c : W.cell? ⟨w.heap.size, 2, none⟩ = some (.int .i64 vl) := (HB3.out.below hS hg3).cell 2 (by simp)
      simp only [Oper.wp, execOp]
      go_simp
      refine Nxt.mk _ rfl (fun _ _ => ?_) hS (fun _ _ h => h)
      rfl
    · intro a W hd hS hdep hfree
      have x6 : a.tmps.getD 6 undef = .string D := hfree 6 rfl
      clear hd hdep hfree
      simp only [Oper.wp, execOp]
      go_simp
      refine Nxt.mk _ rfl (fun _ _ => ?_) hS (fun _ _ h => h)
      rfl
    · intro a W hd hS hdep hfree
      have x46 : a.tmps.getD 46 undef = .string D := hdep 6 46 rfl rfl
      clear hd hdep hfree
      simp only [Oper.wp, execOp]
      go_simp
      refine (HPad.out W).mono ?_
      rintro e W' ⟨rfl, hb⟩
      exact Nxt.mk _ rfl (fun _ _ => rfl) (below_comp hS hb) (fun j u h => Vals.below hb j u h)
    · intro a W hd hS hdep hfree
      have x41 : a.tmps.getD 41 undef = .int .i64 dm := hdep 1 41 rfl rfl
      have x43 : a.tmps.getD 43 undef = .int .i64 sm := hdep 3 43 rfl rfl
      have x45 : a.tmps.getD 45 undef = .int .i64 vl := hdep 5 45 rfl rfl
      have x47 : a.tmps.getD 47 undef = .string Q := hdep 7 47 rfl rfl
      have y41 : a.tmps[41]?.getD undef = .int .i64 dm := by rw [← Array.getD_eq_getD_getElem?]; exact x41
      have y43 : a.tmps[43]?.getD undef = .int .i64 sm := by rw [← Array.getD_eq_getD_getElem?]; exact x43
      have y45 : a.tmps[45]?.getD undef = .int .i64 vl := by rw [← Array.getD_eq_getD_getElem?]; exact x45
      have y47 : a.tmps[47]?.getD undef = .string Q := by rw [← Array.getD_eq_getD_getElem?]; exact x47
      clear hd hdep hfree
      simp only [Oper.wp, execOp]
      go_simp
      refine Nxt.mk _ rfl (fun _ _ => ?_) hS (fun _ _ h => h)
      rfl
    · intro a W hd hS hdep hfree
      have x48 : a.tmps.getD 48 undef = .agg #[.int .i64 dm, .int .i64 sm, .int .i64 vl, .int .i64 2048, .string Q] := hdep 8 48 rfl rfl
      clear hd hdep hfree
      simp only [Oper.wp, execOp]
      go_simp
      refine (HEth.out W).mono ?_
      rintro e W' ⟨rfl, hb⟩
      exact Nxt.mk _ rfl (fun _ _ => rfl) (below_comp hS hb) (fun j u h => Vals.below hb j u h)
    · intro a W hd hS hdep hfree
      have x49 : a.tmps.getD 49 undef = .tuple #[.string R, .bool B] := hdep 9 49 rfl rfl
      clear hd hdep hfree
      simp only [Oper.wp, execOp]
      go_simp
      refine Nxt.mk _ rfl (fun _ _ => ?_) hS (fun _ _ h => h)
      rfl
    · intro a W hd hS hdep hfree
      have x49 : a.tmps.getD 49 undef = .tuple #[.string R, .bool B] := hdep 9 49 rfl rfl
      clear hd hdep hfree
      simp only [Oper.wp, execOp]
      go_simp
      refine Nxt.mk _ rfl (fun _ _ => ?_) hS (fun _ _ h => h)
      rfl
    · intro a W hd hS hdep hfree
      have x50 : a.tmps.getD 50 undef = .string R := hdep 10 50 rfl rfl
      clear hd hdep hfree
      simp only [Oper.wp, execOp]
      go_simp
      refine Nxt.mk _ rfl (fun _ _ => ?_) hS (fun _ _ h => h)
      rfl
    · intro a W hd hS hdep hfree
      have x51 : a.tmps.getD 51 undef = .bool B := hdep 11 51 rfl rfl
      clear hd hdep hfree
      simp only [Oper.wp, execOp]
      go_simp
      refine Nxt.mk _ rfl (fun _ _ => ?_) hS (fun _ _ h => h)
      rfl
  intro a W4 hs hd hS4 hdone hrest
  have ea := written_all [.pointer (some ⟨w.heap.size, 0, none⟩), .int .i64 dm, .pointer (some ⟨w.heap.size, 1, none⟩), .int .i64 sm, .pointer (some ⟨w.heap.size, 2, none⟩), .int .i64 vl, .string D, .string Q, .agg #[.int .i64 dm, .int .i64 sm, .int .i64 vl, .int .i64 2048, .string Q], .tuple #[.string R, .bool B], .string R, .bool B, .string R, .bool B] rfl hs hd hrest hdone
  clear hs hd hdone hrest
  subst ea
  simp only [written, List.map_cons, List.map_nil, List.zip_cons_cons, List.zip_nil_right, putAll]
  simp only [Exit.then, Act.put, List.setIfInBounds_toArray, List.set_cons_zero, List.set_cons_succ]
  go_wp2
  go_ret2
  exact ⟨rfl, below_comp hb03 hS4⟩
set_option maxHeartbeats 4000000 in
set_option maxRecDepth 100000 in
theorem impl_image_no (p : PktM) (w : World) (h : ¬ p.SuperOk) :
    Calls Try.prog 20 #[p.val] w fun r w' => r = .returned (.tuple #[.string ⟨#[]⟩, .bool false]) ∧ Below w.heap.size w w' := by
  have HV : Hid (∀ W, Calls Try.prog 16 #[p.val] W fun r w' => r = .returned (.bool false) ∧ Below W.heap.size W w') := Lib.hid fun W => by have := impl_superok p W; rwa [decide_eq_false h] at this
  clear h
  obtain ⟨dm, sm, vl, ts, id, tl, si, di, ⟨k, sp, dp, q, c, f, n, b⟩⟩ := p
  unfold PktM.val at *
  dsimp only at *
  go_enter Try.func20, Try.ntmps20
  go_wp2_with fail
  refine (HV.out _).mono ?_
  rintro e w1 ⟨rfl, hb1⟩
  go_wp2
  go_ret2
  exact ⟨rfl, below_comp (below_new _) hb1⟩
theorem impl_image (p : PktM) (w : World) :
    Calls Try.prog 20 #[p.val] w fun r w' => r = .returned (.tuple #[.string p.image, .bool p.imageOk]) ∧ Below w.heap.size w w' := by
  by_cases h : p.SuperOk
  · rw [show p.image = p.eth.built from if_pos h, show p.imageOk = decide p.eth.Ok from by unfold PktM.imageOk; rw [decide_eq_true h, Bool.true_and]]; exact impl_image_yes p w h
  · rw [show p.image = ⟨#[]⟩ from if_neg h, show p.imageOk = false from by unfold PktM.imageOk; rw [decide_eq_false h, Bool.false_and]]; exact impl_image_no p w h

end Go.Proofs.Ytkknfcnajgolfaa
