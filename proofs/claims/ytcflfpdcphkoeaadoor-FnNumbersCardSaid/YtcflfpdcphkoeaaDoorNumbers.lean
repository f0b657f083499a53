/- FormatInt's text is never empty, and ParseUint reads it back exactly for the numbers from 0 to MaxUint, where strconv's tables and errors hold what their initialisers lay (which the card ties to the program's text): the law FnNumbers returns true. -/
import Derived.Test.YtcflfpdcphkoeaaDoorParseImpl
import Derived.Test.YtcflfpdcphkoeaaDoorNumbersDraw
import Derived.Lib.ItoaLen
import Derived.Test.YtcflfpdcphkoeaaDoorDoorBase
import Derived.OpenShut
import Derived.ShutString
import Derived.ChangeOld
import Derived.SevenTiedAt
import Derived.SevenTiedPlain
import Derived.Stop.Joined
namespace Go.Proofs.YtcflfpdcphkoeaaDoor.fnNumbers
open Go.ChangeShapes Go.WideShapes Go.ChangeAt Go.RowKit
open Go.ChangeMaps (open_string shut_string)
open Go.Sort (grow)
set_option linter.unusedVariables false

theorem own : ownKnob Tryd.prog.godebug = none := by kernel_rfl
theorem laidOut : laidOutB Tryd.prog = true := by kernel_rfl

set_option maxHeartbeats 1000000 in
set_option maxRecDepth 100000 in
theorem walk (w : World) (hL : laidMetH Tryd.prog Rows.fnNumbersRow.laid w) (a0 : Option Addr) (len0 cap0 : Nat) (z0 : List Int) (h : IsRow .u8 w a0 len0 cap0 z0) :
    Calls Tryd.prog 4 #[.slice a0 len0 cap0] w fun e w' => e = .returned (.bool true) ∧ Below w.heap.size w w' := by
  rw [MakeChecks.laidMetH_plain _ _ _ (by kernel_rfl)] at hL
  have HT := Lib.hid (pow_of_laid hL)
  have HE := Lib.hid (errs_of_laid hL)
  clear hL
  by_cases hbig : len0 ≤ 1048576
  · have HC := Lib.hid (Code.of_row h hbig)
    clear h
    go_enter Tryd.func4, Tryd.ntmps4
    go_wp2_with fail
    refine (big_no _ _ _ _ hbig).mono ?_
    rintro e w' ⟨rfl, rfl⟩
    go_wp2_with fail
    refine (draw_format a0 len0 cap0 _ HC.out).mono ?_
    rintro e w1 ⟨n, ⟨n0, n1⟩, rfl, hb1⟩
    have HT1 := Lib.hid (Joins.tab_stays gPow HT.out hb1 (Nat.le_refl _))
    go_wp2_with fail
    refine (impl_format n _ n0 n1 HT1.out).mono ?_
    obtain ⟨t, ht⟩ : ∃ t : ByteArray, t = ⟨(Lib.itoa n).toArray⟩ := ⟨_, rfl⟩
    rw [← ht]
    rintro e w2 ⟨rfl, hb2⟩
    have hsz : t.size ≤ 21 := by rw [ht]; show (Lib.itoa n).toArray.size ≤ 21; simpa using Lib.itoa_length_le n n0 n1
    have htl : t.data.toList = Lib.itoa n := by rw [ht]
    have hne : t.toList.isEmpty = false := by rw [ByteArray.toList_eq, htl]; exact itoa_ne n
    have hne' : ¬ t.toList = [] := by intro e; rw [e] at hne; cases hne
    have HI := Lib.hid ht
    have hb12 := hb1.trans (hb2.mono hb1.size)
    have HT2 := Lib.hid (Joins.tab_stays gPow HT1.out hb2 (Nat.le_refl _))
    clear ht htl
    by_cases hin : 0 ≤ n ∧ n ≤ 1000000000
    · obtain ⟨i0, i1⟩ := hin
      have HN : Hid (IsNum t n.toNat) := Lib.hid ⟨by omega, by rw [HI.out, ← itoa_nat, Int.toNat_of_nonneg i0]⟩
      have hcast : ((n.toNat : Nat) : Int) = n := Int.toNat_of_nonneg i0
      go_wp2_with fail
      refine (impl_parse_yes t n.toNat _ HN.out HT2.out).mono ?_
      rw [hcast]
      rintro e w3 ⟨rfl, hb3⟩
      go_wp2
      go_ret
      exact ⟨rfl, hb12.trans (hb3.mono hb12.size)⟩
    · have HN : Hid (∀ m, ¬ IsNum t m) := Lib.hid (fun m hm => hin (num_in n m hm.1 (by rw [← hm.2, HI.out])))
      have HE2 := Lib.hid (show (∃ tp p, w2.var? Tryd.prog "strconv.ErrRange" = some #[.iface tp p]) ∧ (∃ tp p, w2.var? Tryd.prog "strconv.ErrSyntax" = some #[.iface tp p]) from
        ⟨HE.out.1.imp fun _ h => h.imp fun _ h => var_stays gRan h hb12, HE.out.2.imp fun _ h => h.imp fun _ h => var_stays gSyn h hb12⟩)
      go_wp2_with fail
      refine (impl_parse_no t _ (by omega) HN.out HT2.out HE2.out).mono ?_
      rintro e w3 ⟨rfl, hb3⟩
      by_cases i0 : 0 ≤ n
      · have i1 : ¬ n ≤ 1000000000 := fun h => hin ⟨i0, h⟩
        have i1' : 1000000000 < n := by omega
        clear hin
        go_wp2
        go_ret
        exact ⟨rfl, hb12.trans (hb3.mono hb12.size)⟩
      · have i0' : n < 0 := by omega
        clear hin
        go_wp2
        go_ret
        exact ⟨rfl, hb12.trans (hb3.mono hb12.size)⟩
  · clear h
    go_enter Tryd.func4, Tryd.ntmps4
    go_wp2_with fail
    refine (big_yes _ _ _ _ (by omega)).mono ?_
    rintro e w' ⟨rfl, rfl⟩
    go_wp2
    go_ret
    exact ⟨rfl, Below.refl _ _⟩


theorem door_met (os : Os) (args : Array Value) : laidMetH Tryd.prog Rows.fnNumbersRow.laid ((World.doorLaid Tryd.prog 62 os).forCall (fun _ _ => 0) ⟨#[], args, []⟩).memory :=
  laidMetH_of_parts3 (fuel := 8) (laidMet_of_run' 8 (by kernel_rfl) (by kernel_rfl)) (by kernel_rfl) (by kernel_rfl)

set_option maxRecDepth 100000 in
theorem lifted (os : Os) (started : os.Started) (H : Type) (enc : TypeId × Value → H) :
    ReturnsInHanded {} Tryd.checked os 4 .any (fun w args => (Rows.fnNumbersSpec.pre enc Tryd.prog Tryd.f4 [] false w args ∧ laidMetH Tryd.prog Rows.fnNumbersRow.laid w) ∧ sizedMet enc Tryd.prog Tryd.f4 (OpenSpec.ofChange Rows.fnNumbersSpec) false w args)
      (Rows.fnNumbersSpec.post enc Tryd.prog Tryd.f4 false true false false) := by
  refine returnsInHanded_of_change_and (C := Tryd.checked) (X := fun w _ => laidMetH Tryd.prog Rows.fnNumbersRow.laid w) (fun _ _ _ hh h => h.of_heap hh) own started (by kernel_rfl) Tryd.func4
    (ChangeSpec.witness_shaped (enc := enc) (C := Tryd.checked) (os := os) (X := fun w _ => laidMetH Tryd.prog Rows.fnNumbersRow.laid w) false (World.doorLaid Tryd.prog 62 os) #[.slice none 0 0] 8 rfl (World.shaped_of_RefB (by kernel_rfl) (by kernel_rfl)) (by kernel_rfl) (by kernel_rfl) (by kernel_rfl) (door_met os _)) ?_
  intro W base args ds gs before hval0 hW _ _ hL _
  have hval : ∀ (j : Nat) t v, Tryd.f4.params[j]? = some t → args[j]? = some v → Value.okWide Tryd.prog W .any base t v := hval0
  have hW' := hW
  obtain ⟨p, q, hA0, hV, rfl, hfz, hnd⟩ := hW
  have hA : DataW.TrodAll enc Tryd.prog W 0 (fun _ => true) true Tryd.f4.params.toList args.toList ds p := hA0
  rw [Tryd.params4] at hA hval
  obtain ⟨v0, vs0, d0, ds0, p0, q0, hargs, rfl, rfl, h0, r0⟩ := trodAll_cons hA
  obtain ⟨rfl, rfl, rfl⟩ := trodAll_nil r0
  obtain rfl : args = #[v0] := by cases args; simp_all
  obtain ⟨rfl, rfl⟩ := trodVars_none hV
  have lt0 : ∀ x ∈ p0, x.block < W.heap.size := by obtain ⟨m, hm⟩ := h0; exact DataW.trod_lt m _ _ _ hm
  have k0 := h0
  obtain ⟨a0, len0, cap0, rfl⟩ := okWide_slice Tryd.underlying22 (hval 0 22 v0 rfl rfl)
  obtain ⟨z0, w0⟩ : ∃ zs, IsRow .u8 W a0 len0 cap0 zs := by
    obtain ⟨fuel, hf⟩ := h0
    rcases open_ints Tryd.underlying22 Tryd.underlying5 (by kernel_rfl) hf with ⟨hcs, _⟩ | ⟨x, l, c, zs, hcs, _, hl, hm, hz, _, hcell, hwz⟩
    · simp [Value.cells] at hcs
      obtain ⟨rfl, rfl, rfl⟩ := hcs
      exact ⟨[], .inl ⟨rfl, rfl, rfl, rfl⟩⟩
    · simp [Value.cells] at hcs
      obtain ⟨rfl, rfl, rfl⟩ := hcs
      exact ⟨zs, .inr ⟨_, rfl, hl, hm, by simpa using hz, hcell, hwz⟩⟩
  clear hA0 hval0
  refine (walk W hL a0 len0 cap0 z0 w0).mono fun e W' ⟨he, bel⟩ => ?_
  subst he
  exact ⟨_, rfl, _, _, _, [], _, [], hW', trodAll_mk1 (shut_bool Tryd.underlying4 _), (trodAll_cons_mk (Below.trod laidOut (by kernel_rfl) (of_decide_eq_true (by kernel_rfl)) k0 bel lt0) trodAll_mk0), rfl, bel.frame _, fun h => by cases h⟩

theorem over : Rows.fnNumbersRow.holds Tryd.pinned (OpenSpec.ofChange Rows.fnNumbersSpec) :=
  OpenClaim.holds_of_wide 4 Tryd.f4 rfl rfl rfl rfl rfl rfl rfl ⟨rfl, rfl, rfl, rfl, rfl⟩ rfl rfl rfl rfl rfl (by kernel_rfl) Tryd.func4 (by kernel_rfl)
    (of_decide_eq_true (by kernel_rfl)) (by unfold Func.isWrapper; first | (rw [if_pos (by decide +kernel)]; kernel_rfl) | (rw [if_neg (by decide +kernel)]; exact ⟨rfl, rfl⟩))
    (fun os started H enc _ => lifted os started H enc)

/-- The statement: the card, with the listed variables tied to the program's text. -/
theorem proved : Rows.FnNumbersCardSaid :=
  Claim7.holds_tied_plain_at .later [] [.data, .data, .data, .sentinel, .sentinel] true (true, "e15b85c416b36c35ace797b9f146fdf7790d10469d023bdff5d13fae78ba4662") true
    over (fun _ h => by cases h) (by kernel_rfl) (fun _ h => by cases h) fnNumbers_row_tie rfl ⟨rfl, rfl⟩ (by kernel_rfl) rfl
    (fun f fn hf hfn => by
      obtain rfl : f = 4 := Option.some.inj ((show Tryd.prog.funcNamed "loop.example/g03312/laws.FnNumbers" = some 4 by kernel_rfl).symm.trans hf) |>.symm
      obtain rfl : fn = Tryd.f4 := (Option.some.inj (Tryd.func4.symm.trans hfn)).symm
      exact ⟨by kernel_rfl, fun j t ht => by
        rw [Tryd.params4] at ht
        have hm : t ∈ [22] := by simpa using Array.mem_of_getElem? ht
        have hall : ([22].all fun u => !Tryd.prog.wantsStandIn u) = true := by kernel_rfl
        exact (show Tryd.prog.wantsStandIn t = false by simpa using List.all_eq_true.1 hall t hm)⟩)
    (by kernel_rfl)

end Go.Proofs.YtcflfpdcphkoeaaDoor.fnNumbers
