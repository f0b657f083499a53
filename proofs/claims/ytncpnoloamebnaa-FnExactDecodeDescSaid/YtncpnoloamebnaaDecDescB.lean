/- DecodeDesc of both sides. -/
import Derived.Test.YtncpnoloamebnaaEncDescI
import Derived.Test.YtncpnoloamebnaaRegion3
import Derived.Test.YtncpnoloamebnaaGet32Impl
import Derived.Test.YtncpnoloamebnaaGetsAnySpec
import Derived.Deep.QuietTactic
import Derived.BigQuiet
import Derived.Deep.DeepCutAuto
import Derived.Laws.Rows
import Derived.Laws.Tables
namespace Go.Proofs.Ytncpnoloamebnaa
open Go.RowKit
set_option linter.unusedSimpArgs false
set_option linter.unusedVariables false

def descOf (s : ByteArray) : DescM := ⟨byteI s 0, byteI s 1, get16 s 2, get32 s 4, get16 s 8, get16 s 10⟩
def decDesc (s : ByteArray) : DescM × Bool := if s.size = 16 ∧ (descOf s).enc = s then (descOf s, true) else (⟨0, 0, 0, 0, 0, 0⟩, false)

set_option maxHeartbeats 4000000 in
set_option maxRecDepth 100000 in
theorem spec_decdesc (s : ByteArray) (w : World) (hs : s.size ≤ maxLen) :
    Calls Try.prog 39 #[.string s] w fun r w' => r = .returned (.tuple #[(decDesc s).1.val, .bool (decDesc s).2]) ∧ Below w.heap.size w w' := by
  by_cases h16 : s.size = 16
  case neg =>
    have e1 : decDesc s = (⟨0, 0, 0, 0, 0, 0⟩, false) := if_neg (fun hh => h16 hh.1)
    have h16' : ¬ (s.size : Int) = 16 := by omega
    rw [e1]
    unfold DescM.val
    dsimp only
    clear e1 h16 hs
    go_enter Try.func39, Try.ntmps39
    go_wp2
    refine bodyPost_ret (v := .tuple #[.agg #[.int .i64 0, .int .i64 0, .int .i64 0, .int .i64 0, .int .i64 0, .int .i64 0], .bool false]) (by simp [results, Try.results39, go_sem]) rfl ⟨rfl, ?_⟩
    repeat (first | exact Below.refl _ _ | exact below_new _ | (refine below_comp ?_ (below_new _)))
  have Hs := Lib.hid hs
  have G0 : Hid (byteI s 0 = (s[0].toNat : Int)) := Lib.hid (byteI_at s 0 (by omega))
  have G1 : Hid (byteI s 1 = (s[1].toNat : Int)) := Lib.hid (byteI_at s 1 (by omega))
  have h0 : 0 < s.size := by omega
  have h1 : 1 < s.size := by omega
  have c0 : (0 : Int) < (s.size : Int) := by omega
  have c1 : (1 : Int) < (s.size : Int) := by omega
  have b0 : s[0].toNat < 256 := UInt8.toNat_lt _
  have b1 : s[1].toNat < 256 := UInt8.toNat_lt _
  have h16' : (s.size : Int) = 16 := by omega
  have HW2 := Lib.hid fun W => spec_get16_any s 2 W Hs.out (by decide)
  have HW4 := Lib.hid fun W => spec_get32_any s 4 W Hs.out (by decide)
  have HW8 := Lib.hid fun W => spec_get16_any s 8 W Hs.out (by decide)
  have HW10 := Lib.hid fun W => spec_get16_any s 10 W Hs.out (by decide)
  obtain ⟨E, HE⟩ : ∃ E, Hid (E = (descOf s).enc) := ⟨_, Lib.hid rfl⟩
  have HENC := Lib.hid fun W => spec_encdesc (descOf s) W
  rw [← HE.out] at HENC
  unfold descOf DescM.val at HENC
  dsimp only at HENC
  rw [G0.out, G1.out] at HENC
  clear hs
  go_enter Try.func39, Try.ntmps39
  go_upto_region 3 with fail
  obtain ⟨w1, hw1⟩ : ∃ w1, w1 = w.alloc (.cells #[.int .i64 0, .int .i64 0, .int .i64 0, .int .i64 0, .int .i64 0, .int .i64 0] 43) := ⟨_, rfl⟩
  have hb1 : Below w.heap.size w w1 := hw1 ▸ below_new _
  have HB1 : Hid (Box w1 w.heap.size #[.int .i64 0, .int .i64 0, .int .i64 0, .int .i64 0, .int .i64 0, .int .i64 0] 43) := Lib.hid (hw1 ▸ Box.new w _ 43)
  have hg1 : w.heap.size < w1.heap.size := by rw [hw1]; simp
  rw [← hw1]
  clear hw1
  obtain ⟨V, hV⟩ : ∃ V, Hid (V = Vals3 [.string s, .int .u8 (s[0].toNat : Int), .int .i64 (s[0].toNat : Int), .string s, .int .u8 (s[1].toNat : Int), .int .i64 (s[1].toNat : Int), .string s, .int .i64 (get16 s 2), .string s, .int .i64 (get32 s 4), .string s, .int .i64 (get16 s 8), .string s, .int .i64 (get16 s 10), .agg #[.int .i64 (s[0].toNat : Int), .int .i64 (s[1].toNat : Int), .int .i64 (get16 s 2), .int .i64 (get32 s 4), .int .i64 (get16 s 8), .int .i64 (get16 s 10)], undef, undef] 15 16 w1.heap.size #[.int .i64 (s[0].toNat : Int), .int .i64 (s[1].toNat : Int), .int .i64 (get16 s 2), .int .i64 (get32 s 4), .int .i64 (get16 s 8), .int .i64 (get16 s 10)] 43) := ⟨_, Lib.hid rfl⟩
  refine wp_region_values2 (by kernel_rfl) [(16, 4)] (fun W => Below w1.heap.size w1 W) V
    (by kernel_rfl) (by kernel_rfl) (by kernel_rfl) below_drew (eachOp_all ?_) ?_
  · refine ⟨?_, ?_, ?_, ?_, ?_, ?_, ?_, ?_, ?_, ?_, ?_, ?_, ?_, ?_, ?_, ?_, ?_, trivial⟩
    · intro a W hsz hd hS hdep hfree
      replace hsz := Lib.hid hsz
      have x0 : a.tmps.getD 0 undef = .string s := hfree 0 (by kernel_rfl)
      clear hd hdep hfree
      simp only [Oper.wp, execOp]
      go_simp
      refine Nxt2.mk _ rfl rfl rfl (by rw [hsz.out]; show 9 < 30; decide) ?_ hS (fun _ _ h => h)
      rw [hV.out]; rfl
    · intro a W hsz hd hS hdep hfree
      replace hsz := Lib.hid hsz
      have x9 : a.tmps.getD 9 undef = .string s := by have h := hdep 0 9 (by kernel_rfl) rfl; rw [hV.out] at h; exact h
      clear hd hdep hfree
      simp only [Oper.wp, execOp]
      go_simp
      refine Nxt2.mk _ rfl rfl rfl (by rw [hsz.out]; show 10 < 30; decide) ?_ hS (fun _ _ h => h)
      rw [hV.out]; rfl
    · intro a W hsz hd hS hdep hfree
      replace hsz := Lib.hid hsz
      have x10 : a.tmps.getD 10 undef = .int .u8 (s[0].toNat : Int) := by have h := hdep 1 10 (by kernel_rfl) rfl; rw [hV.out] at h; exact h
      clear hd hdep hfree
      have k : IntKind.i64.wrap ((s[0].toNat : Int)) = (s[0].toNat : Int) := wrap_in _ (by omega) (by omega)
      simp only [Oper.wp, execOp]
      go_simp
      refine Nxt2.mk _ rfl rfl rfl (by rw [hsz.out]; show 11 < 30; decide) ?_ hS (fun _ _ h => h)
      rw [hV.out]; rfl
    · intro a W hsz hd hS hdep hfree
      replace hsz := Lib.hid hsz
      have x0 : a.tmps.getD 0 undef = .string s := hfree 0 (by kernel_rfl)
      clear hd hdep hfree
      simp only [Oper.wp, execOp]
      go_simp
      refine Nxt2.mk _ rfl rfl rfl (by rw [hsz.out]; show 12 < 30; decide) ?_ hS (fun _ _ h => h)
      rw [hV.out]; rfl
    · intro a W hsz hd hS hdep hfree
      replace hsz := Lib.hid hsz
      have x12 : a.tmps.getD 12 undef = .string s := by have h := hdep 3 12 (by kernel_rfl) rfl; rw [hV.out] at h; exact h
      clear hd hdep hfree
      simp only [Oper.wp, execOp]
      go_simp
      refine Nxt2.mk _ rfl rfl rfl (by rw [hsz.out]; show 13 < 30; decide) ?_ hS (fun _ _ h => h)
      rw [hV.out]; rfl
    · intro a W hsz hd hS hdep hfree
      replace hsz := Lib.hid hsz
      have x13 : a.tmps.getD 13 undef = .int .u8 (s[1].toNat : Int) := by have h := hdep 4 13 (by kernel_rfl) rfl; rw [hV.out] at h; exact h
      clear hd hdep hfree
      have k : IntKind.i64.wrap ((s[1].toNat : Int)) = (s[1].toNat : Int) := wrap_in _ (by omega) (by omega)
      simp only [Oper.wp, execOp]
      go_simp
      refine Nxt2.mk _ rfl rfl rfl (by rw [hsz.out]; show 14 < 30; decide) ?_ hS (fun _ _ h => h)
      rw [hV.out]; rfl
    · intro a W hsz hd hS hdep hfree
      replace hsz := Lib.hid hsz
      have x0 : a.tmps.getD 0 undef = .string s := hfree 0 (by kernel_rfl)
      clear hd hdep hfree
      simp only [Oper.wp, execOp]
      go_simp
      refine Nxt2.mk _ rfl rfl rfl (by rw [hsz.out]; show 15 < 30; decide) ?_ hS (fun _ _ h => h)
      rw [hV.out]; rfl
    · intro a W hsz hd hS hdep hfree
      replace hsz := Lib.hid hsz
      have x15 : a.tmps.getD 15 undef = .string s := by have h := hdep 6 15 (by kernel_rfl) rfl; rw [hV.out] at h; exact h
      clear hd hdep hfree
      simp only [Oper.wp, execOp]
      go_simp
      refine (HW2.out W).mono ?_
      rintro e W' ⟨rfl, hb⟩
      exact Nxt2.mk _ rfl rfl rfl (by rw [hsz.out]; show 16 < 30; decide) (by rw [hV.out]; rfl) (below_comp hS hb) (fun j u h => by rw [hV.out] at h ⊢; exact Vals3.below hb j u h)
    · intro a W hsz hd hS hdep hfree
      replace hsz := Lib.hid hsz
      have x0 : a.tmps.getD 0 undef = .string s := hfree 0 (by kernel_rfl)
      clear hd hdep hfree
      simp only [Oper.wp, execOp]
      go_simp
      refine Nxt2.mk _ rfl rfl rfl (by rw [hsz.out]; show 17 < 30; decide) ?_ hS (fun _ _ h => h)
      rw [hV.out]; rfl
    · intro a W hsz hd hS hdep hfree
      replace hsz := Lib.hid hsz
      have x17 : a.tmps.getD 17 undef = .string s := by have h := hdep 8 17 (by kernel_rfl) rfl; rw [hV.out] at h; exact h
      clear hd hdep hfree
      simp only [Oper.wp, execOp]
      go_simp
      refine (HW4.out W).mono ?_
      rintro e W' ⟨rfl, hb⟩
      exact Nxt2.mk _ rfl rfl rfl (by rw [hsz.out]; show 18 < 30; decide) (by rw [hV.out]; rfl) (below_comp hS hb) (fun j u h => by rw [hV.out] at h ⊢; exact Vals3.below hb j u h)
    · intro a W hsz hd hS hdep hfree
      replace hsz := Lib.hid hsz
      have x0 : a.tmps.getD 0 undef = .string s := hfree 0 (by kernel_rfl)
      clear hd hdep hfree
      simp only [Oper.wp, execOp]
      go_simp
      refine Nxt2.mk _ rfl rfl rfl (by rw [hsz.out]; show 19 < 30; decide) ?_ hS (fun _ _ h => h)
      rw [hV.out]; rfl
    · intro a W hsz hd hS hdep hfree
      replace hsz := Lib.hid hsz
      have x19 : a.tmps.getD 19 undef = .string s := by have h := hdep 10 19 (by kernel_rfl) rfl; rw [hV.out] at h; exact h
      clear hd hdep hfree
      simp only [Oper.wp, execOp]
      go_simp
      refine (HW8.out W).mono ?_
      rintro e W' ⟨rfl, hb⟩
      exact Nxt2.mk _ rfl rfl rfl (by rw [hsz.out]; show 20 < 30; decide) (by rw [hV.out]; rfl) (below_comp hS hb) (fun j u h => by rw [hV.out] at h ⊢; exact Vals3.below hb j u h)
    · intro a W hsz hd hS hdep hfree
      replace hsz := Lib.hid hsz
      have x0 : a.tmps.getD 0 undef = .string s := hfree 0 (by kernel_rfl)
      clear hd hdep hfree
      simp only [Oper.wp, execOp]
      go_simp
      refine Nxt2.mk _ rfl rfl rfl (by rw [hsz.out]; show 21 < 30; decide) ?_ hS (fun _ _ h => h)
      rw [hV.out]; rfl
    · intro a W hsz hd hS hdep hfree
      replace hsz := Lib.hid hsz
      have x21 : a.tmps.getD 21 undef = .string s := by have h := hdep 12 21 (by kernel_rfl) rfl; rw [hV.out] at h; exact h
      clear hd hdep hfree
      simp only [Oper.wp, execOp]
      go_simp
      refine (HW10.out W).mono ?_
      rintro e W' ⟨rfl, hb⟩
      exact Nxt2.mk _ rfl rfl rfl (by rw [hsz.out]; show 22 < 30; decide) (by rw [hV.out]; rfl) (below_comp hS hb) (fun j u h => by rw [hV.out] at h ⊢; exact Vals3.below hb j u h)
    · intro a W hsz hd hS hdep hfree
      replace hsz := Lib.hid hsz
      have x11 : a.tmps.getD 11 undef = .int .i64 (s[0].toNat : Int) := by have h := hdep 2 11 (by kernel_rfl) rfl; rw [hV.out] at h; exact h
      have x14 : a.tmps.getD 14 undef = .int .i64 (s[1].toNat : Int) := by have h := hdep 5 14 (by kernel_rfl) rfl; rw [hV.out] at h; exact h
      have x16 : a.tmps.getD 16 undef = .int .i64 (get16 s 2) := by have h := hdep 7 16 (by kernel_rfl) rfl; rw [hV.out] at h; exact h
      have x18 : a.tmps.getD 18 undef = .int .i64 (get32 s 4) := by have h := hdep 9 18 (by kernel_rfl) rfl; rw [hV.out] at h; exact h
      have x20 : a.tmps.getD 20 undef = .int .i64 (get16 s 8) := by have h := hdep 11 20 (by kernel_rfl) rfl; rw [hV.out] at h; exact h
      have x22 : a.tmps.getD 22 undef = .int .i64 (get16 s 10) := by have h := hdep 13 22 (by kernel_rfl) rfl; rw [hV.out] at h; exact h
      clear hd hdep hfree
      have y11 := x11
      rw [Array.getD_eq_getD_getElem?] at y11
      have y14 := x14
      rw [Array.getD_eq_getD_getElem?] at y14
      have y16 := x16
      rw [Array.getD_eq_getD_getElem?] at y16
      have y18 := x18
      rw [Array.getD_eq_getD_getElem?] at y18
      have y20 := x20
      rw [Array.getD_eq_getD_getElem?] at y20
      have y22 := x22
      rw [Array.getD_eq_getD_getElem?] at y22
      simp only [Oper.wp, execOp]
      go_simp
      refine Nxt2.mk _ rfl rfl rfl (by rw [hsz.out]; show 23 < 30; decide) ?_ hS (fun _ _ h => h)
      rw [hV.out]; rfl
    · intro a W hsz hd hS hdep hfree
      replace hsz := Lib.hid hsz
      clear hd hdep hfree
      simp only [Oper.wp, execOp]
      go_simp
      refine Nxt2.mk _ rfl rfl rfl (by rw [hsz.out]; show 4 < 30; decide) ?_ (below_comp hS (below_new _)) (fun j u h => by rw [hV.out] at h ⊢; exact Vals3.below (below_new _) j u h)
      rw [hV.out]
      exact ⟨W.heap.size, _, rfl, hS.size, heap_alloc_new W _, rfl, by simp⟩
    · intro a W hsz hd hS hdep hfree
      replace hsz := Lib.hid hsz
      have x23 : a.tmps.getD 23 undef = .agg #[.int .i64 (s[0].toNat : Int), .int .i64 (s[1].toNat : Int), .int .i64 (get16 s 2), .int .i64 (get32 s 4), .int .i64 (get16 s 8), .int .i64 (get16 s 10)] := by have h := hdep 14 23 (by kernel_rfl) rfl; rw [hV.out] at h; exact h
      have xp : OwnV w1.heap.size 6 43 (a.tmps.getD 4 undef) W := by have h := hdep 15 4 (by kernel_rfl) rfl; rw [hV.out] at h; exact h
      clear hd hdep hfree
      obtain ⟨g, old, e1, e2, e3, e4, e5⟩ := xp
      refine wp_store_row 43 (.tmp 4) (.tmp 23) rfl g #[.int .i64 (s[0].toNat : Int), .int .i64 (s[1].toNat : Int), .int .i64 (get16 s 2), .int .i64 (get32 s 4), .int .i64 (get16 s 8), .int .i64 (get16 s 10)] (by simpa [Act.eval] using e1) (by simpa [Act.eval] using x23) 43 old e3 (by kernel_rfl) e4 (by simp [Value.oneCell']) ?_
      refine Nxt2.store _ rfl rfl rfl ?_ (below_setRow hS e2 _) (fun j u h => by rw [hV.out] at h ⊢; exact Vals3.store e3 j u h)
      rw [hV.out]
      exact ⟨g, e1, e2, setRow_heap W g old _ _ (0, 0) e3, by simpa [World.setRow] using e5⟩
  intro a W2 hs hd hS2 hdone hrest
  obtain ⟨g, hp, hge, hbx, hlt⟩ : BoxV w1.heap.size #[.int .i64 (s[0].toNat : Int), .int .i64 (s[1].toNat : Int), .int .i64 (get16 s 2), .int .i64 (get32 s 4), .int .i64 (get16 s 8), .int .i64 (get16 s 10)] 43 (a.tmps.getD 4 undef) W2 := by have h := hdone 16 4 rfl; rw [hV.out] at h; exact h
  have ea := written_all [.string s, .int .u8 (s[0].toNat : Int), .int .i64 (s[0].toNat : Int), .string s, .int .u8 (s[1].toNat : Int), .int .i64 (s[1].toNat : Int), .string s, .int .i64 (get16 s 2), .string s, .int .i64 (get32 s 4), .string s, .int .i64 (get16 s 8), .string s, .int .i64 (get16 s 10), .agg #[.int .i64 (s[0].toNat : Int), .int .i64 (s[1].toNat : Int), .int .i64 (get16 s 2), .int .i64 (get32 s 4), .int .i64 (get16 s 8), .int .i64 (get16 s 10)], .pointer (some ⟨g, 0, none⟩), undef] rfl hs hd hrest (fun j d hj => by
    match j, hj with
    | 0, hj => have h := hdone 0 d (show slotOf _ _ 0 = some d from hj); rw [hV.out] at h; exact h
    | 1, hj => have h := hdone 1 d (show slotOf _ _ 1 = some d from hj); rw [hV.out] at h; exact h
    | 2, hj => have h := hdone 2 d (show slotOf _ _ 2 = some d from hj); rw [hV.out] at h; exact h
    | 3, hj => have h := hdone 3 d (show slotOf _ _ 3 = some d from hj); rw [hV.out] at h; exact h
    | 4, hj => have h := hdone 4 d (show slotOf _ _ 4 = some d from hj); rw [hV.out] at h; exact h
    | 5, hj => have h := hdone 5 d (show slotOf _ _ 5 = some d from hj); rw [hV.out] at h; exact h
    | 6, hj => have h := hdone 6 d (show slotOf _ _ 6 = some d from hj); rw [hV.out] at h; exact h
    | 7, hj => have h := hdone 7 d (show slotOf _ _ 7 = some d from hj); rw [hV.out] at h; exact h
    | 8, hj => have h := hdone 8 d (show slotOf _ _ 8 = some d from hj); rw [hV.out] at h; exact h
    | 9, hj => have h := hdone 9 d (show slotOf _ _ 9 = some d from hj); rw [hV.out] at h; exact h
    | 10, hj => have h := hdone 10 d (show slotOf _ _ 10 = some d from hj); rw [hV.out] at h; exact h
    | 11, hj => have h := hdone 11 d (show slotOf _ _ 11 = some d from hj); rw [hV.out] at h; exact h
    | 12, hj => have h := hdone 12 d (show slotOf _ _ 12 = some d from hj); rw [hV.out] at h; exact h
    | 13, hj => have h := hdone 13 d (show slotOf _ _ 13 = some d from hj); rw [hV.out] at h; exact h
    | 14, hj => have h := hdone 14 d (show slotOf _ _ 14 = some d from hj); rw [hV.out] at h; exact h
    | 15, hj => exact (Option.some.inj hj) ▸ hp
    | 16, hj => cases hj
    | n + 17, hj => exact absurd (dstOf_lt hj) (by simp))
  clear hs hd hdone hrest hV V hp
  subst ea
  simp only [written, List.append_eq, Array.toList_append, List.append_toArray, List.map_append, List.cons_append, List.nil_append, List.map_cons, List.map_nil, List.zip_cons_cons, List.zip_nil_right, putAll]
  simp only [Exit.then, Act.put, List.setIfInBounds_toArray, List.set_cons_zero, List.set_cons_succ]
  have hz := hS2.size
  have hgw : w.heap.size < W2.heap.size := by omega
  have HB2 : Hid (Box W2 w.heap.size #[.int .i64 0, .int .i64 0, .int .i64 0, .int .i64 0, .int .i64 0, .int .i64 0] 43) := Lib.hid (HB1.out.below hS2 hg1)
  have HG2 : Hid (Box W2 g #[.int .i64 (s[0].toNat : Int), .int .i64 (s[1].toNat : Int), .int .i64 (get16 s 2), .int .i64 (get32 s 4), .int .i64 (get16 s 8), .int .i64 (get16 s 10)] 43) := Lib.hid hbx
  have hb02 := below_comp hb1 hS2
  by_cases heq : E = s
  case' neg =>
    have hne := str_ne heq
    have e1 := Lib.hid (show decDesc s = (⟨0, 0, 0, 0, 0, 0⟩, false) from if_neg (fun hh => heq (HE.out.trans hh.2)))
  case' pos =>
    have hne : (E.toList == s.toList) = true := by rw [heq]; simp
    have e1 := Lib.hid (show decDesc s = (descOf s, true) from if_pos ⟨h16, HE.out.symm.trans heq⟩)
  all_goals
    go_wp2_with (first
      | (refine wpList_load_row rfl 43 (.tmp 4) rfl g rfl 43 #[.int .i64 (s[0].toNat : Int), .int .i64 (s[1].toNat : Int), .int .i64 (get16 s 2), .int .i64 (get32 s 4), .int .i64 (get16 s 8), .int .i64 (get16 s 10)] (0, 0) _ (by first | exact HG2.out | exact HG3.out) Try.underlying43 rfl (by kernel_rfl) ?_)
      | (go_at_call 37; refine (HENC.out _).mono ?_; rintro e w3 ⟨rfl, hb3⟩; have HB3 := Lib.hid (HB2.out.below hb3 hgw); have HG3 := Lib.hid (HG2.out.below hb3 hlt))
      | (refine wpList_store_row rfl 43 (.tmp 2) (.tmp 28) rfl w.heap.size #[.int .i64 0, .int .i64 0, .int .i64 0, .int .i64 0, .int .i64 0, .int .i64 0] rfl rfl 43 #[.int .i64 0, .int .i64 0, .int .i64 0, .int .i64 0, .int .i64 0, .int .i64 0] HB3.out (by kernel_rfl) rfl (by simp [Value.oneCell']) ?_)
      | (refine wpList_store_row rfl 43 (.tmp 2) (.tmp 29) rfl w.heap.size #[.int .i64 (s[0].toNat : Int), .int .i64 (s[1].toNat : Int), .int .i64 (get16 s 2), .int .i64 (get32 s 4), .int .i64 (get16 s 8), .int .i64 (get16 s 10)] rfl rfl 43 #[.int .i64 0, .int .i64 0, .int .i64 0, .int .i64 0, .int .i64 0, .int .i64 0] HB3.out (by kernel_rfl) rfl (by simp [Value.oneCell']) ?_))
  · have K : Box (w3.setRow w.heap.size #[.int .i64 (s[0].toNat : Int), .int .i64 (s[1].toNat : Int), .int .i64 (get16 s 2), .int .i64 (get32 s 4), .int .i64 (get16 s 8), .int .i64 (get16 s 10)]) w.heap.size #[.int .i64 (s[0].toNat : Int), .int .i64 (s[1].toNat : Int), .int .i64 (get16 s 2), .int .i64 (get32 s 4), .int .i64 (get16 s 8), .int .i64 (get16 s 10)] 43 := setRow_heap _ _ _ _ _ _ HB3.out
    have k0 := K.cell 0 (by simp)
    have k1 := K.cell 1 (by simp)
    have k2 := K.cell 2 (by simp)
    have k3 := K.cell 3 (by simp)
    have k4 := K.cell 4 (by simp)
    have k5 := K.cell 5 (by simp)
    refine bodyPost_ret (v := .tuple #[.agg #[.int .i64 (s[0].toNat : Int), .int .i64 (s[1].toNat : Int), .int .i64 (get16 s 2), .int .i64 (get32 s 4), .int .i64 (get16 s 8), .int .i64 (get16 s 10)], .bool true]) (by simp [results, Try.results39, go_sem, k0, k1, k2, k3, k4, k5]) rfl ⟨?_, below_setRow (below_comp hb02 hb3) (Nat.le_refl _) _⟩
    rw [e1.out]
    unfold DescM.val
    try unfold descOf
    dsimp only
    try rw [G0.out, G1.out]
  · have K : Box (w3.setRow w.heap.size #[.int .i64 0, .int .i64 0, .int .i64 0, .int .i64 0, .int .i64 0, .int .i64 0]) w.heap.size #[.int .i64 0, .int .i64 0, .int .i64 0, .int .i64 0, .int .i64 0, .int .i64 0] 43 := setRow_heap _ _ _ _ _ _ HB3.out
    have k0 := K.cell 0 (by simp)
    have k1 := K.cell 1 (by simp)
    have k2 := K.cell 2 (by simp)
    have k3 := K.cell 3 (by simp)
    have k4 := K.cell 4 (by simp)
    have k5 := K.cell 5 (by simp)
    refine bodyPost_ret (v := .tuple #[.agg #[.int .i64 0, .int .i64 0, .int .i64 0, .int .i64 0, .int .i64 0, .int .i64 0], .bool false]) (by simp [results, Try.results39, go_sem, k0, k1, k2, k3, k4, k5]) rfl ⟨?_, below_setRow (below_comp hb02 hb3) (Nat.le_refl _) _⟩
    rw [e1.out]
    unfold DescM.val
    try unfold descOf
    dsimp only
    try rw [G0.out, G1.out]

set_option maxHeartbeats 4000000 in
set_option maxRecDepth 100000 in
theorem impl_decdesc (s : ByteArray) (w : World) (hs : s.size ≤ maxLen) :
    Calls Try.prog 40 #[.string s] w fun r w' => r = .returned (.tuple #[(decDesc s).1.val, .bool (decDesc s).2]) ∧ Below w.heap.size w w' := by
  by_cases h16 : s.size = 16
  case neg =>
    have e1 : decDesc s = (⟨0, 0, 0, 0, 0, 0⟩, false) := if_neg (fun hh => h16 hh.1)
    have h16' : ¬ (s.size : Int) = 16 := by omega
    rw [e1]
    unfold DescM.val
    dsimp only
    clear e1 h16 hs
    go_enter Try.func40, Try.ntmps40
    go_wp2
    refine bodyPost_ret (v := .tuple #[.agg #[.int .i64 0, .int .i64 0, .int .i64 0, .int .i64 0, .int .i64 0, .int .i64 0], .bool false]) (by simp [results, Try.results40, go_sem]) rfl ⟨rfl, ?_⟩
    repeat (first | exact Below.refl _ _ | exact below_new _ | (refine below_comp ?_ (below_new _)))
  have Hs := Lib.hid hs
  have G0 : Hid (byteI s 0 = (s[0].toNat : Int)) := Lib.hid (byteI_at s 0 (by omega))
  have G1 : Hid (byteI s 1 = (s[1].toNat : Int)) := Lib.hid (byteI_at s 1 (by omega))
  have h0 : 0 < s.size := by omega
  have h1 : 1 < s.size := by omega
  have c0 : (0 : Int) < (s.size : Int) := by omega
  have c1 : (1 : Int) < (s.size : Int) := by omega
  have b0 : s[0].toNat < 256 := UInt8.toNat_lt _
  have b1 : s[1].toNat < 256 := UInt8.toNat_lt _
  have h16' : (s.size : Int) = 16 := by omega
  have HW2 := Lib.hid fun W => impl_get16_any s 2 W Hs.out (by decide)
  have HW4 := Lib.hid fun W => impl_get32_any s 4 W Hs.out (by decide)
  have HW8 := Lib.hid fun W => impl_get16_any s 8 W Hs.out (by decide)
  have HW10 := Lib.hid fun W => impl_get16_any s 10 W Hs.out (by decide)
  obtain ⟨E, HE⟩ : ∃ E, Hid (E = (descOf s).enc) := ⟨_, Lib.hid rfl⟩
  have HENC := Lib.hid fun W => impl_encdesc (descOf s) W
  rw [← HE.out] at HENC
  unfold descOf DescM.val at HENC
  dsimp only at HENC
  rw [G0.out, G1.out] at HENC
  clear hs
  go_enter Try.func40, Try.ntmps40
  go_upto_region 3 with fail
  obtain ⟨w1, hw1⟩ : ∃ w1, w1 = w.alloc (.cells #[.int .i64 0, .int .i64 0, .int .i64 0, .int .i64 0, .int .i64 0, .int .i64 0] 43) := ⟨_, rfl⟩
  have hb1 : Below w.heap.size w w1 := hw1 ▸ below_new _
  have HB1 : Hid (Box w1 w.heap.size #[.int .i64 0, .int .i64 0, .int .i64 0, .int .i64 0, .int .i64 0, .int .i64 0] 43) := Lib.hid (hw1 ▸ Box.new w _ 43)
  have hg1 : w.heap.size < w1.heap.size := by rw [hw1]; simp
  rw [← hw1]
  clear hw1
  obtain ⟨V, hV⟩ : ∃ V, Hid (V = Vals3 [.string s, .int .u8 (s[0].toNat : Int), .int .i64 (s[0].toNat : Int), .string s, .int .u8 (s[1].toNat : Int), .int .i64 (s[1].toNat : Int), .string s, .int .i64 (get16 s 2), .string s, .int .i64 (get32 s 4), .string s, .int .i64 (get16 s 8), .string s, .int .i64 (get16 s 10), .agg #[.int .i64 (s[0].toNat : Int), .int .i64 (s[1].toNat : Int), .int .i64 (get16 s 2), .int .i64 (get32 s 4), .int .i64 (get16 s 8), .int .i64 (get16 s 10)], undef, undef] 15 16 w1.heap.size #[.int .i64 (s[0].toNat : Int), .int .i64 (s[1].toNat : Int), .int .i64 (get16 s 2), .int .i64 (get32 s 4), .int .i64 (get16 s 8), .int .i64 (get16 s 10)] 43) := ⟨_, Lib.hid rfl⟩
  refine wp_region_values2 (by kernel_rfl) [(16, 4)] (fun W => Below w1.heap.size w1 W) V
    (by kernel_rfl) (by kernel_rfl) (by kernel_rfl) below_drew (eachOp_all ?_) ?_
  · refine ⟨?_, ?_, ?_, ?_, ?_, ?_, ?_, ?_, ?_, ?_, ?_, ?_, ?_, ?_, ?_, ?_, ?_, trivial⟩
    · intro a W hsz hd hS hdep hfree
      replace hsz := Lib.hid hsz
      have x0 : a.tmps.getD 0 undef = .string s := hfree 0 (by kernel_rfl)
      clear hd hdep hfree
      simp only [Oper.wp, execOp]
      go_simp
      refine Nxt2.mk _ rfl rfl rfl (by rw [hsz.out]; show 9 < 30; decide) ?_ hS (fun _ _ h => h)
      rw [hV.out]; rfl
    · intro a W hsz hd hS hdep hfree
      replace hsz := Lib.hid hsz
      have x9 : a.tmps.getD 9 undef = .string s := by have h := hdep 0 9 (by kernel_rfl) rfl; rw [hV.out] at h; exact h
      clear hd hdep hfree
      simp only [Oper.wp, execOp]
      go_simp
      refine Nxt2.mk _ rfl rfl rfl (by rw [hsz.out]; show 10 < 30; decide) ?_ hS (fun _ _ h => h)
      rw [hV.out]; rfl
    · intro a W hsz hd hS hdep hfree
      replace hsz := Lib.hid hsz
      have x10 : a.tmps.getD 10 undef = .int .u8 (s[0].toNat : Int) := by have h := hdep 1 10 (by kernel_rfl) rfl; rw [hV.out] at h; exact h
      clear hd hdep hfree
      have k : IntKind.i64.wrap ((s[0].toNat : Int)) = (s[0].toNat : Int) := wrap_in _ (by omega) (by omega)
      simp only [Oper.wp, execOp]
      go_simp
      refine Nxt2.mk _ rfl rfl rfl (by rw [hsz.out]; show 11 < 30; decide) ?_ hS (fun _ _ h => h)
      rw [hV.out]; rfl
    · intro a W hsz hd hS hdep hfree
      replace hsz := Lib.hid hsz
      have x0 : a.tmps.getD 0 undef = .string s := hfree 0 (by kernel_rfl)
      clear hd hdep hfree
      simp only [Oper.wp, execOp]
      go_simp
      refine Nxt2.mk _ rfl rfl rfl (by rw [hsz.out]; show 12 < 30; decide) ?_ hS (fun _ _ h => h)
      rw [hV.out]; rfl
    · intro a W hsz hd hS hdep hfree
      replace hsz := Lib.hid hsz
      have x12 : a.tmps.getD 12 undef = .string s := by have h := hdep 3 12 (by kernel_rfl) rfl; rw [hV.out] at h; exact h
      clear hd hdep hfree
      simp only [Oper.wp, execOp]
      go_simp
      refine Nxt2.mk _ rfl rfl rfl (by rw [hsz.out]; show 13 < 30; decide) ?_ hS (fun _ _ h => h)
      rw [hV.out]; rfl
    · intro a W hsz hd hS hdep hfree
      replace hsz := Lib.hid hsz
      have x13 : a.tmps.getD 13 undef = .int .u8 (s[1].toNat : Int) := by have h := hdep 4 13 (by kernel_rfl) rfl; rw [hV.out] at h; exact h
      clear hd hdep hfree
      have k : IntKind.i64.wrap ((s[1].toNat : Int)) = (s[1].toNat : Int) := wrap_in _ (by omega) (by omega)
      simp only [Oper.wp, execOp]
      go_simp
      refine Nxt2.mk _ rfl rfl rfl (by rw [hsz.out]; show 14 < 30; decide) ?_ hS (fun _ _ h => h)
      rw [hV.out]; rfl
    · intro a W hsz hd hS hdep hfree
      replace hsz := Lib.hid hsz
      have x0 : a.tmps.getD 0 undef = .string s := hfree 0 (by kernel_rfl)
      clear hd hdep hfree
      simp only [Oper.wp, execOp]
      go_simp
      refine Nxt2.mk _ rfl rfl rfl (by rw [hsz.out]; show 15 < 30; decide) ?_ hS (fun _ _ h => h)
      rw [hV.out]; rfl
    · intro a W hsz hd hS hdep hfree
      replace hsz := Lib.hid hsz
      have x15 : a.tmps.getD 15 undef = .string s := by have h := hdep 6 15 (by kernel_rfl) rfl; rw [hV.out] at h; exact h
      clear hd hdep hfree
      simp only [Oper.wp, execOp]
      go_simp
      refine (HW2.out W).mono ?_
      rintro e W' ⟨rfl, hb⟩
      exact Nxt2.mk _ rfl rfl rfl (by rw [hsz.out]; show 16 < 30; decide) (by rw [hV.out]; rfl) (below_comp hS hb) (fun j u h => by rw [hV.out] at h ⊢; exact Vals3.below hb j u h)
    · intro a W hsz hd hS hdep hfree
      replace hsz := Lib.hid hsz
      have x0 : a.tmps.getD 0 undef = .string s := hfree 0 (by kernel_rfl)
      clear hd hdep hfree
      simp only [Oper.wp, execOp]
      go_simp
      refine Nxt2.mk _ rfl rfl rfl (by rw [hsz.out]; show 17 < 30; decide) ?_ hS (fun _ _ h => h)
      rw [hV.out]; rfl
    · intro a W hsz hd hS hdep hfree
      replace hsz := Lib.hid hsz
      have x17 : a.tmps.getD 17 undef = .string s := by have h := hdep 8 17 (by kernel_rfl) rfl; rw [hV.out] at h; exact h
      clear hd hdep hfree
      simp only [Oper.wp, execOp]
      go_simp
      refine (HW4.out W).mono ?_
      rintro e W' ⟨rfl, hb⟩
      exact Nxt2.mk _ rfl rfl rfl (by rw [hsz.out]; show 18 < 30; decide) (by rw [hV.out]; rfl) (below_comp hS hb) (fun j u h => by rw [hV.out] at h ⊢; exact Vals3.below hb j u h)
    · intro a W hsz hd hS hdep hfree
      replace hsz := Lib.hid hsz
      have x0 : a.tmps.getD 0 undef = .string s := hfree 0 (by kernel_rfl)
      clear hd hdep hfree
      simp only [Oper.wp, execOp]
      go_simp
      refine Nxt2.mk _ rfl rfl rfl (by rw [hsz.out]; show 19 < 30; decide) ?_ hS (fun _ _ h => h)
      rw [hV.out]; rfl
    · intro a W hsz hd hS hdep hfree
      replace hsz := Lib.hid hsz
      have x19 : a.tmps.getD 19 undef = .string s := by have h := hdep 10 19 (by kernel_rfl) rfl; rw [hV.out] at h; exact h
      clear hd hdep hfree
      simp only [Oper.wp, execOp]
      go_simp
      refine (HW8.out W).mono ?_
      rintro e W' ⟨rfl, hb⟩
      exact Nxt2.mk _ rfl rfl rfl (by rw [hsz.out]; show 20 < 30; decide) (by rw [hV.out]; rfl) (below_comp hS hb) (fun j u h => by rw [hV.out] at h ⊢; exact Vals3.below hb j u h)
    · intro a W hsz hd hS hdep hfree
      replace hsz := Lib.hid hsz
      have x0 : a.tmps.getD 0 undef = .string s := hfree 0 (by kernel_rfl)
      clear hd hdep hfree
      simp only [Oper.wp, execOp]
      go_simp
      refine Nxt2.mk _ rfl rfl rfl (by rw [hsz.out]; show 21 < 30; decide) ?_ hS (fun _ _ h => h)
      rw [hV.out]; rfl
    · intro a W hsz hd hS hdep hfree
      replace hsz := Lib.hid hsz
      have x21 : a.tmps.getD 21 undef = .string s := by have h := hdep 12 21 (by kernel_rfl) rfl; rw [hV.out] at h; exact h
      clear hd hdep hfree
      simp only [Oper.wp, execOp]
      go_simp
      refine (HW10.out W).mono ?_
      rintro e W' ⟨rfl, hb⟩
      exact Nxt2.mk _ rfl rfl rfl (by rw [hsz.out]; show 22 < 30; decide) (by rw [hV.out]; rfl) (below_comp hS hb) (fun j u h => by rw [hV.out] at h ⊢; exact Vals3.below hb j u h)
    · intro a W hsz hd hS hdep hfree
      replace hsz := Lib.hid hsz
      have x11 : a.tmps.getD 11 undef = .int .i64 (s[0].toNat : Int) := by have h := hdep 2 11 (by kernel_rfl) rfl; rw [hV.out] at h; exact h
      have x14 : a.tmps.getD 14 undef = .int .i64 (s[1].toNat : Int) := by have h := hdep 5 14 (by kernel_rfl) rfl; rw [hV.out] at h; exact h
      have x16 : a.tmps.getD 16 undef = .int .i64 (get16 s 2) := by have h := hdep 7 16 (by kernel_rfl) rfl; rw [hV.out] at h; exact h
      have x18 : a.tmps.getD 18 undef = .int .i64 (get32 s 4) := by have h := hdep 9 18 (by kernel_rfl) rfl; rw [hV.out] at h; exact h
      have x20 : a.tmps.getD 20 undef = .int .i64 (get16 s 8) := by have h := hdep 11 20 (by kernel_rfl) rfl; rw [hV.out] at h; exact h
      have x22 : a.tmps.getD 22 undef = .int .i64 (get16 s 10) := by have h := hdep 13 22 (by kernel_rfl) rfl; rw [hV.out] at h; exact h
      clear hd hdep hfree
      have y11 := x11
      rw [Array.getD_eq_getD_getElem?] at y11
      have y14 := x14
      rw [Array.getD_eq_getD_getElem?] at y14
      have y16 := x16
      rw [Array.getD_eq_getD_getElem?] at y16
      have y18 := x18
      rw [Array.getD_eq_getD_getElem?] at y18
      have y20 := x20
      rw [Array.getD_eq_getD_getElem?] at y20
      have y22 := x22
      rw [Array.getD_eq_getD_getElem?] at y22
      simp only [Oper.wp, execOp]
      go_simp
      refine Nxt2.mk _ rfl rfl rfl (by rw [hsz.out]; show 23 < 30; decide) ?_ hS (fun _ _ h => h)
      rw [hV.out]; rfl
    · intro a W hsz hd hS hdep hfree
      replace hsz := Lib.hid hsz
      clear hd hdep hfree
      simp only [Oper.wp, execOp]
      go_simp
      refine Nxt2.mk _ rfl rfl rfl (by rw [hsz.out]; show 4 < 30; decide) ?_ (below_comp hS (below_new _)) (fun j u h => by rw [hV.out] at h ⊢; exact Vals3.below (below_new _) j u h)
      rw [hV.out]
      exact ⟨W.heap.size, _, rfl, hS.size, heap_alloc_new W _, rfl, by simp⟩
    · intro a W hsz hd hS hdep hfree
      replace hsz := Lib.hid hsz
      have x23 : a.tmps.getD 23 undef = .agg #[.int .i64 (s[0].toNat : Int), .int .i64 (s[1].toNat : Int), .int .i64 (get16 s 2), .int .i64 (get32 s 4), .int .i64 (get16 s 8), .int .i64 (get16 s 10)] := by have h := hdep 14 23 (by kernel_rfl) rfl; rw [hV.out] at h; exact h
      have xp : OwnV w1.heap.size 6 43 (a.tmps.getD 4 undef) W := by have h := hdep 15 4 (by kernel_rfl) rfl; rw [hV.out] at h; exact h
      clear hd hdep hfree
      obtain ⟨g, old, e1, e2, e3, e4, e5⟩ := xp
      refine wp_store_row 43 (.tmp 4) (.tmp 23) rfl g #[.int .i64 (s[0].toNat : Int), .int .i64 (s[1].toNat : Int), .int .i64 (get16 s 2), .int .i64 (get32 s 4), .int .i64 (get16 s 8), .int .i64 (get16 s 10)] (by simpa [Act.eval] using e1) (by simpa [Act.eval] using x23) 43 old e3 (by kernel_rfl) e4 (by simp [Value.oneCell']) ?_
      refine Nxt2.store _ rfl rfl rfl ?_ (below_setRow hS e2 _) (fun j u h => by rw [hV.out] at h ⊢; exact Vals3.store e3 j u h)
      rw [hV.out]
      exact ⟨g, e1, e2, setRow_heap W g old _ _ (0, 0) e3, by simpa [World.setRow] using e5⟩
  intro a W2 hs hd hS2 hdone hrest
  obtain ⟨g, hp, hge, hbx, hlt⟩ : BoxV w1.heap.size #[.int .i64 (s[0].toNat : Int), .int .i64 (s[1].toNat : Int), .int .i64 (get16 s 2), .int .i64 (get32 s 4), .int .i64 (get16 s 8), .int .i64 (get16 s 10)] 43 (a.tmps.getD 4 undef) W2 := by have h := hdone 16 4 rfl; rw [hV.out] at h; exact h
  have ea := written_all [.string s, .int .u8 (s[0].toNat : Int), .int .i64 (s[0].toNat : Int), .string s, .int .u8 (s[1].toNat : Int), .int .i64 (s[1].toNat : Int), .string s, .int .i64 (get16 s 2), .string s, .int .i64 (get32 s 4), .string s, .int .i64 (get16 s 8), .string s, .int .i64 (get16 s 10), .agg #[.int .i64 (s[0].toNat : Int), .int .i64 (s[1].toNat : Int), .int .i64 (get16 s 2), .int .i64 (get32 s 4), .int .i64 (get16 s 8), .int .i64 (get16 s 10)], .pointer (some ⟨g, 0, none⟩), undef] rfl hs hd hrest (fun j d hj => by
    match j, hj with
    | 0, hj => have h := hdone 0 d (show slotOf _ _ 0 = some d from hj); rw [hV.out] at h; exact h
    | 1, hj => have h := hdone 1 d (show slotOf _ _ 1 = some d from hj); rw [hV.out] at h; exact h
    | 2, hj => have h := hdone 2 d (show slotOf _ _ 2 = some d from hj); rw [hV.out] at h; exact h
    | 3, hj => have h := hdone 3 d (show slotOf _ _ 3 = some d from hj); rw [hV.out] at h; exact h
    | 4, hj => have h := hdone 4 d (show slotOf _ _ 4 = some d from hj); rw [hV.out] at h; exact h
    | 5, hj => have h := hdone 5 d (show slotOf _ _ 5 = some d from hj); rw [hV.out] at h; exact h
    | 6, hj => have h := hdone 6 d (show slotOf _ _ 6 = some d from hj); rw [hV.out] at h; exact h
    | 7, hj => have h := hdone 7 d (show slotOf _ _ 7 = some d from hj); rw [hV.out] at h; exact h
    | 8, hj => have h := hdone 8 d (show slotOf _ _ 8 = some d from hj); rw [hV.out] at h; exact h
    | 9, hj => have h := hdone 9 d (show slotOf _ _ 9 = some d from hj); rw [hV.out] at h; exact h
    | 10, hj => have h := hdone 10 d (show slotOf _ _ 10 = some d from hj); rw [hV.out] at h; exact h
    | 11, hj => have h := hdone 11 d (show slotOf _ _ 11 = some d from hj); rw [hV.out] at h; exact h
    | 12, hj => have h := hdone 12 d (show slotOf _ _ 12 = some d from hj); rw [hV.out] at h; exact h
    | 13, hj => have h := hdone 13 d (show slotOf _ _ 13 = some d from hj); rw [hV.out] at h; exact h
    | 14, hj => have h := hdone 14 d (show slotOf _ _ 14 = some d from hj); rw [hV.out] at h; exact h
    | 15, hj => exact (Option.some.inj hj) ▸ hp
    | 16, hj => cases hj
    | n + 17, hj => exact absurd (dstOf_lt hj) (by simp))
  clear hs hd hdone hrest hV V hp
  subst ea
  simp only [written, List.append_eq, Array.toList_append, List.append_toArray, List.map_append, List.cons_append, List.nil_append, List.map_cons, List.map_nil, List.zip_cons_cons, List.zip_nil_right, putAll]
  simp only [Exit.then, Act.put, List.setIfInBounds_toArray, List.set_cons_zero, List.set_cons_succ]
  have hz := hS2.size
  have hgw : w.heap.size < W2.heap.size := by omega
  have HB2 : Hid (Box W2 w.heap.size #[.int .i64 0, .int .i64 0, .int .i64 0, .int .i64 0, .int .i64 0, .int .i64 0] 43) := Lib.hid (HB1.out.below hS2 hg1)
  have HG2 : Hid (Box W2 g #[.int .i64 (s[0].toNat : Int), .int .i64 (s[1].toNat : Int), .int .i64 (get16 s 2), .int .i64 (get32 s 4), .int .i64 (get16 s 8), .int .i64 (get16 s 10)] 43) := Lib.hid hbx
  have hb02 := below_comp hb1 hS2
  by_cases heq : E = s
  case' neg =>
    have hne := str_ne heq
    have e1 := Lib.hid (show decDesc s = (⟨0, 0, 0, 0, 0, 0⟩, false) from if_neg (fun hh => heq (HE.out.trans hh.2)))
  case' pos =>
    have hne : (E.toList == s.toList) = true := by rw [heq]; simp
    have e1 := Lib.hid (show decDesc s = (descOf s, true) from if_pos ⟨h16, HE.out.symm.trans heq⟩)
  all_goals
    go_wp2_with (first
      | (refine wpList_load_row rfl 43 (.tmp 4) rfl g rfl 43 #[.int .i64 (s[0].toNat : Int), .int .i64 (s[1].toNat : Int), .int .i64 (get16 s 2), .int .i64 (get32 s 4), .int .i64 (get16 s 8), .int .i64 (get16 s 10)] (0, 0) _ (by first | exact HG2.out | exact HG3.out) Try.underlying43 rfl (by kernel_rfl) ?_)
      | (go_at_call 38; refine (HENC.out _).mono ?_; rintro e w3 ⟨rfl, hb3⟩; have HB3 := Lib.hid (HB2.out.below hb3 hgw); have HG3 := Lib.hid (HG2.out.below hb3 hlt))
      | (refine wpList_store_row rfl 43 (.tmp 2) (.tmp 28) rfl w.heap.size #[.int .i64 0, .int .i64 0, .int .i64 0, .int .i64 0, .int .i64 0, .int .i64 0] rfl rfl 43 #[.int .i64 0, .int .i64 0, .int .i64 0, .int .i64 0, .int .i64 0, .int .i64 0] HB3.out (by kernel_rfl) rfl (by simp [Value.oneCell']) ?_)
      | (refine wpList_store_row rfl 43 (.tmp 2) (.tmp 29) rfl w.heap.size #[.int .i64 (s[0].toNat : Int), .int .i64 (s[1].toNat : Int), .int .i64 (get16 s 2), .int .i64 (get32 s 4), .int .i64 (get16 s 8), .int .i64 (get16 s 10)] rfl rfl 43 #[.int .i64 0, .int .i64 0, .int .i64 0, .int .i64 0, .int .i64 0, .int .i64 0] HB3.out (by kernel_rfl) rfl (by simp [Value.oneCell']) ?_))
  · have K : Box (w3.setRow w.heap.size #[.int .i64 (s[0].toNat : Int), .int .i64 (s[1].toNat : Int), .int .i64 (get16 s 2), .int .i64 (get32 s 4), .int .i64 (get16 s 8), .int .i64 (get16 s 10)]) w.heap.size #[.int .i64 (s[0].toNat : Int), .int .i64 (s[1].toNat : Int), .int .i64 (get16 s 2), .int .i64 (get32 s 4), .int .i64 (get16 s 8), .int .i64 (get16 s 10)] 43 := setRow_heap _ _ _ _ _ _ HB3.out
    have k0 := K.cell 0 (by simp)
    have k1 := K.cell 1 (by simp)
    have k2 := K.cell 2 (by simp)
    have k3 := K.cell 3 (by simp)
    have k4 := K.cell 4 (by simp)
    have k5 := K.cell 5 (by simp)
    refine bodyPost_ret (v := .tuple #[.agg #[.int .i64 (s[0].toNat : Int), .int .i64 (s[1].toNat : Int), .int .i64 (get16 s 2), .int .i64 (get32 s 4), .int .i64 (get16 s 8), .int .i64 (get16 s 10)], .bool true]) (by simp [results, Try.results40, go_sem, k0, k1, k2, k3, k4, k5]) rfl ⟨?_, below_setRow (below_comp hb02 hb3) (Nat.le_refl _) _⟩
    rw [e1.out]
    unfold DescM.val
    try unfold descOf
    dsimp only
    try rw [G0.out, G1.out]
  · have K : Box (w3.setRow w.heap.size #[.int .i64 0, .int .i64 0, .int .i64 0, .int .i64 0, .int .i64 0, .int .i64 0]) w.heap.size #[.int .i64 0, .int .i64 0, .int .i64 0, .int .i64 0, .int .i64 0, .int .i64 0] 43 := setRow_heap _ _ _ _ _ _ HB3.out
    have k0 := K.cell 0 (by simp)
    have k1 := K.cell 1 (by simp)
    have k2 := K.cell 2 (by simp)
    have k3 := K.cell 3 (by simp)
    have k4 := K.cell 4 (by simp)
    have k5 := K.cell 5 (by simp)
    refine bodyPost_ret (v := .tuple #[.agg #[.int .i64 0, .int .i64 0, .int .i64 0, .int .i64 0, .int .i64 0, .int .i64 0], .bool false]) (by simp [results, Try.results40, go_sem, k0, k1, k2, k3, k4, k5]) rfl ⟨?_, below_setRow (below_comp hb02 hb3) (Nat.le_refl _) _⟩
    rw [e1.out]
    unfold DescM.val
    try unfold descOf
    dsimp only
    try rw [G0.out, G1.out]

end Go.Proofs.Ytncpnoloamebnaa
