/- The fields of a drawn line, joined by single spaces, have the same fields, where strconv's tables hold what their initialisers lay (which the card ties to the program's text): the law FnFieldsAgain returns true. -/
import Derived.Test.YtcflfpdcphkoeaaDoorFormatImpl
import Derived.Test.YtcflfpdcphkoeaaDoorSplitSpec
import Derived.Test.YtcflfpdcphkoeaaDoorSplitImpl
import Derived.Test.YtcflfpdcphkoeaaDoorSameTexts
import Derived.Test.YtcflfpdcphkoeaaDoorFieldsMath
import Derived.Test.YtcflfpdcphkoeaaDoorFieldsDraw
import Derived.Test.YtcflfpdcphkoeaaDoorDoorBase
import Derived.OpenShut
import Derived.ShutString
import Derived.ChangeOld
import Derived.SevenTiedAt
import Derived.SevenTiedPlain
import Derived.Stop.Joined
namespace Go.Proofs.YtcflfpdcphkoeaaDoor.fnFieldsAgain
open Go.ChangeShapes Go.WideShapes Go.ChangeAt Go.RowKit
open Go.ChangeMaps (open_string shut_string)
open Go.Sort (grow)
set_option linter.unusedVariables false

theorem own : ownKnob Tryd.prog.godebug = none := by kernel_rfl
theorem laidOut : laidOutB Tryd.prog = true := by kernel_rfl

set_option maxHeartbeats 4000000 in
set_option maxRecDepth 100000 in
theorem walk (w : World) (hL : laidMetH Tryd.prog Rows.fnFieldsAgainRow.laid w) (a0 : Option Addr) (len0 cap0 : Nat) (z0 : List Int) (h : IsRow .u8 w a0 len0 cap0 z0) :
    Calls Tryd.prog 5 #[.slice a0 len0 cap0] w fun e w' => e = .returned (.bool true) ∧ Below w.heap.size w w' := by
  rw [MakeChecks.laidMetH_plain _ _ _ (by kernel_rfl)] at hL
  have HT := Lib.hid (pow_of_laid hL)
  clear hL
  by_cases hbig : len0 ≤ 1048576
  · have HC := Lib.hid (Code.of_row h hbig)
    clear h
    go_enter Tryd.func5, Tryd.ntmps5
    go_wp2_with fail
    refine (big_no _ _ _ _ hbig).mono ?_
    rintro e w' ⟨rfl, rfl⟩
    go_wp2_with fail
    refine (draw_fields a0 len0 cap0 _ HC.out).mono ?_
    rintro e w1 ⟨s, hs, rfl, hb1⟩
    have hlen := splitL_length s
    go_wp2_with fail
    refine (impl_split s _ (by omega)).mono ?_
    rintro e w2 ⟨v1, rfl, ho1, hb2⟩
    have H1 := Lib.hid ho1
    have hb12 := hb1.trans (hb2.mono hb1.size)
    go_wp2_with fail
    refine (spec_split s _ (by omega)).mono ?_
    rintro e w3 ⟨v2, rfl, _, hb3⟩
    have H13 := Lib.hid (H1.out.below hb3)
    have hb13 := hb12.trans (hb3.mono hb12.size)
    clear ho1
    obtain ⟨b, hb⟩ : ∃ b, splitB s = b := ⟨_, rfl⟩
    rw [hb]
    have HB := Lib.hid hb
    clear hb
    cases b
    · have HL : RowKit.Hid (splitL s = []) := Lib.hid (by unfold splitL; rw [HB.out]; rfl)
      have ho := H13.out
      rw [HL.out] at ho
      obtain ⟨A, c, rfl, _⟩ := ho.form
      clear ho
      have HT3 := Lib.hid (Joins.tab_stays gPow HT.out hb13 (Nat.le_refl _))
      go_wp2_with fail
      refine (impl_format (-3) _ (by omega) (by omega) HT3.out).mono ?_
      rw [show Lib.itoa (-3) = [45, 51] from itoa_neg3]
      rintro e w4 ⟨rfl, hb4⟩
      go_wp2
      go_ret
      exact ⟨rfl, hb13.trans (hb4.mono hb13.size)⟩
    · obtain ⟨fs, hfs⟩ : ∃ fs, fs = splitL s := ⟨_, rfl⟩
      rw [← hfs] at hlen H13
      have HF := Lib.hid hfs
      have HZ : RowKit.Hid (∀ f ∈ fs, f.size ≤ 600) := Lib.hid (by rw [hfs]; exact field_size s HB.out)
      clear hfs
      obtain ⟨A, c, hv, hA⟩ := H13.out.form
      have HV := Lib.hid hv
      have HA := Lib.hid hA
      obtain ⟨n, hn⟩ : ∃ n, n = fs.length := ⟨_, rfl⟩
      rw [← hn] at hv
      have HN := Lib.hid hn
      subst hv
      clear hn hA
      go_wp2_with fail
      go_loop [8, 9] (fun t i => ∃ k : Nat, k ≤ n ∧ i = .int .i64 k ∧ ∃ z : ByteArray, t = .string z ∧ RowKit.Hid (z = joinF (fs.take k)) ∧ z.size ≤ 601 * k) (fun _ i => n - (intOf i).toNat)
      case atStart => exact ⟨0, Nat.zero_le _, rfl, ⟨#[]⟩, rfl, Lib.hid rfl, by decide⟩
      case round =>
        obtain ⟨k, hk, rfl, z, rfl, HJ, hz⟩ := hrel
        by_cases hlt : k < n
        · have hkl : k < fs.length := by have := HN.out; omega
          obtain ⟨g, rfl, _, _⟩ := HA.out (by omega)
          have hO : Own w3 w1.heap.size (.slice (some ⟨g, 0, none⟩) fs.length c) fs := by have := H13.out; rw [HV.out] at this; exact this
          have hx := hO.cell k hkl
          have hfz := HZ.out fs[k] (List.getElem_mem hkl)
          have HJ1 : RowKit.Hid (z ++ fs[k] ++ ⟨#[32]⟩ = joinF (fs.take (k + 1))) := Lib.hid (by
            rw [List.take_succ_eq_append_getElem hkl, joinF_snoc, ← HJ.out]; rfl)
          have hz1 : z.size ≤ 20000 := by omega
          have HS : RowKit.Hid ((z ++ fs[k] ++ ⟨#[32]⟩).size ≤ 601 * (k + 1)) := Lib.hid (by
            rw [ByteArray.size_append, ByteArray.size_append, show (⟨#[32]⟩ : ByteArray).size = 1 from rfl]; omega)
          generalize fs[k] = x at hx hfz HJ1 HS
          have hz2 : (z ++ x).size ≤ 20601 := by rw [ByteArray.size_append]; omega
          clear hO
          go_wp2
          go_round
          case rel => exact ⟨k + 1, by omega, by go_num, _, rfl, HJ1, HS.out⟩
          case measure => simp [intOf] <;> omega
        · obtain rfl : k = n := by omega
          have HJ2 : RowKit.Hid (z = joinF (splitL s)) := Lib.hid (by
            have := HJ.out
            rw [HN.out, List.take_length, HF.out] at this
            exact this)
          have H13' : RowKit.Hid (Own w3 w1.heap.size (.slice A k c) fs) := Lib.hid (by have := H13.out; rw [HV.out, ← HN.out] at this; exact this)
          have hzz : z.size ≤ 20000 := by have := HN.out; omega
          go_wp2_with fail
          refine (impl_split z _ (by omega)).mono ?_
          rintro e w4 ⟨v4, rfl, ho4, hb4⟩
          have hb14 := hb13.trans (hb4.mono hb13.size)
          by_cases hlong : 600 < z.size
          · have hl' : (600 : Int) < z.size := by omega
            clear ho4
            go_wp2
            go_ret
            exact ⟨rfl, hb14⟩
          · have hl' : ¬ (600 : Int) < z.size := by omega
            have hag := split_again s HB.out (by rw [← HJ2.out]; omega)
            rw [← HJ2.out, ← HF.out] at hag
            rw [hag.1]
            have ho4' := ho4
            rw [hag.2] at ho4'
            have H4 := Lib.hid ho4'
            have H14 := Lib.hid (H13'.out.below hb4)
            clear hag ho4 ho4'
            go_wp2_with fail
            refine (same_texts fs _ _ _ v4 _ H14.out H4.out (by omega)).mono ?_
            rintro e w5 ⟨rfl, hb5⟩
            go_wp2
            go_ret
            exact ⟨rfl, hb14.trans (hb5.mono hb14.size)⟩
  · clear h
    go_enter Tryd.func5, Tryd.ntmps5
    go_wp2_with fail
    refine (big_yes _ _ _ _ (by omega)).mono ?_
    rintro e w' ⟨rfl, rfl⟩
    go_wp2
    go_ret
    exact ⟨rfl, Below.refl _ _⟩


theorem door_met (os : Os) (args : Array Value) : laidMetH Tryd.prog Rows.fnFieldsAgainRow.laid ((World.doorLaid Tryd.prog 62 os).forCall (fun _ _ => 0) ⟨#[], args, []⟩).memory :=
  laidMetH_of_parts3 (fuel := 8) (laidMet_of_run' 8 (by kernel_rfl) (by kernel_rfl)) (by kernel_rfl) (by kernel_rfl)

set_option maxRecDepth 100000 in
theorem lifted (os : Os) (started : os.Started) (H : Type) (enc : TypeId × Value → H) :
    ReturnsInHanded {} Tryd.checked os 5 .any (fun w args => (Rows.fnFieldsAgainSpec.pre enc Tryd.prog Tryd.f5 [] false w args ∧ laidMetH Tryd.prog Rows.fnFieldsAgainRow.laid w) ∧ sizedMet enc Tryd.prog Tryd.f5 (OpenSpec.ofChange Rows.fnFieldsAgainSpec) false w args)
      (Rows.fnFieldsAgainSpec.post enc Tryd.prog Tryd.f5 false true false false) := by
  refine returnsInHanded_of_change_and (C := Tryd.checked) (X := fun w _ => laidMetH Tryd.prog Rows.fnFieldsAgainRow.laid w) (fun _ _ _ hh h => h.of_heap hh) own started (by kernel_rfl) Tryd.func5
    (ChangeSpec.witness_shaped (enc := enc) (C := Tryd.checked) (os := os) (X := fun w _ => laidMetH Tryd.prog Rows.fnFieldsAgainRow.laid w) false (World.doorLaid Tryd.prog 62 os) #[.slice none 0 0] 8 rfl (World.shaped_of_RefB (by kernel_rfl) (by kernel_rfl)) (by kernel_rfl) (by kernel_rfl) (by kernel_rfl) (door_met os _)) ?_
  intro W base args ds gs before hval0 hW _ _ hL _
  have hval : ∀ (j : Nat) t v, Tryd.f5.params[j]? = some t → args[j]? = some v → Value.okWide Tryd.prog W .any base t v := hval0
  have hW' := hW
  obtain ⟨p, q, hA0, hV, rfl, hfz, hnd⟩ := hW
  have hA : DataW.TrodAll enc Tryd.prog W 0 (fun _ => true) true Tryd.f5.params.toList args.toList ds p := hA0
  rw [Tryd.params5] at hA hval
  obtain ⟨v0, vs0, d0, ds0, p0, q0, hargs, rfl, rfl, h0, r0⟩ := trodAll_cons hA
  obtain ⟨rfl, rfl, rfl⟩ := trodAll_nil r0
  obtain rfl : args = #[v0] := by cases args; simp_all
  obtain ⟨rfl, rfl⟩ := trodVars_none hV
  have lt0 : ∀ x ∈ p0, x.block < W.heap.size := by obtain ⟨m, hm⟩ := h0; exact DataW.trod_lt m _ _ _ hm
  have k0 := h0
  obtain ⟨a0, len0, cap0, rfl⟩ := okWide_slice Tryd.underlying22 (hval 0 22 v0 rfl rfl)
  obtain ⟨z0, w0⟩ : ∃ zs, IsRow .u8 W a0 len0 cap0 zs := by
    obtain ⟨fuel, hf⟩ := h0
    rcases open_ints Tryd.underlying22 Tryd.underlying5 (by kernel_rfl) hf with ⟨hcs, _⟩ | ⟨x, l, c, zs, hcs, _, hl, hm, hz, _, hcell, hwz⟩
    · simp [Value.cells] at hcs
      obtain ⟨rfl, rfl, rfl⟩ := hcs
      exact ⟨[], .inl ⟨rfl, rfl, rfl, rfl⟩⟩
    · simp [Value.cells] at hcs
      obtain ⟨rfl, rfl, rfl⟩ := hcs
      exact ⟨zs, .inr ⟨_, rfl, hl, hm, by simpa using hz, hcell, hwz⟩⟩
  clear hA0 hval0
  refine (walk W hL a0 len0 cap0 z0 w0).mono fun e W' ⟨he, bel⟩ => ?_
  subst he
  exact ⟨_, rfl, _, _, _, [], _, [], hW', trodAll_mk1 (shut_bool Tryd.underlying4 _), (trodAll_cons_mk (Below.trod laidOut (by kernel_rfl) (of_decide_eq_true (by kernel_rfl)) k0 bel lt0) trodAll_mk0), rfl, bel.frame _, fun h => by cases h⟩

theorem over : Rows.fnFieldsAgainRow.holds Tryd.pinned (OpenSpec.ofChange Rows.fnFieldsAgainSpec) :=
  OpenClaim.holds_of_wide 5 Tryd.f5 rfl rfl rfl rfl rfl rfl rfl ⟨rfl, rfl, rfl, rfl, rfl⟩ rfl rfl rfl rfl rfl (by kernel_rfl) Tryd.func5 (by kernel_rfl)
    (of_decide_eq_true (by kernel_rfl)) (by unfold Func.isWrapper; first | (rw [if_pos (by decide +kernel)]; kernel_rfl) | (rw [if_neg (by decide +kernel)]; exact ⟨rfl, rfl⟩))
    (fun os started H enc _ => lifted os started H enc)

/-- The statement: the card, with the listed variables tied to the program's text. -/
theorem proved : Rows.FnFieldsAgainCardSaid :=
  Claim7.holds_tied_plain_at .later [] [.data, .data, .data] true (true, "e15b85c416b36c35ace797b9f146fdf7790d10469d023bdff5d13fae78ba4662") true
    over (fun _ h => by cases h) (by kernel_rfl) (fun _ h => by cases h) fnFieldsAgain_row_tie rfl ⟨rfl, rfl⟩ (by kernel_rfl) rfl
    (fun f fn hf hfn => by
      obtain rfl : f = 5 := Option.some.inj ((show Tryd.prog.funcNamed "loop.example/g03312/laws.FnFieldsAgain" = some 5 by kernel_rfl).symm.trans hf) |>.symm
      obtain rfl : fn = Tryd.f5 := (Option.some.inj (Tryd.func5.symm.trans hfn)).symm
      exact ⟨by kernel_rfl, fun j t ht => by
        rw [Tryd.params5] at ht
        have hm : t ∈ [22] := by simpa using Array.mem_of_getElem? ht
        have hall : ([22].all fun u => !Tryd.prog.wantsStandIn u) = true := by kernel_rfl
        exact (show Tryd.prog.wantsStandIn t = false by simpa using List.all_eq_true.1 hall t hm)⟩)
    (by kernel_rfl)

end Go.Proofs.YtcflfpdcphkoeaaDoor.fnFieldsAgain
