/- The clock's offset and delay of an exchange are exact if the delay is the same in both directions: the law FnOffsetExact returns true for every input, and its argument reads as before. No condition. -/
import Derived.Test.YtdcjbojigmgcgabTimesB
import Derived.Test.YtdcjbojigmgcgabAt
import Derived.OpenShut
import Derived.ShutString
import Derived.ChangeOld
namespace Go.Proofs.Ytdcjbojigmgcgab.fnOffsetExact
open Go.ChangeShapes Go.WideShapes Go.ChangeAt Go.RowKit
open Go.ChangeMaps (open_string shut_string)
set_option linter.unusedVariables false

theorem own : ownKnob Try.prog.godebug = none := by kernel_rfl
theorem laidOut : laidOutB Try.prog = true := by kernel_rfl

theorem oe (o d t1 x : Int) (ho : -700 ≤ o ∧ o ≤ 1085) (hd : 0 ≤ d ∧ d ≤ 255) (ht : 5000 ≤ t1 ∧ t1 ≤ 5255) (hx : 0 ≤ x ∧ x ≤ 255) :
    offsetV t1 (t1 + o + d) (t1 + o + d + x) (t1 + o + d + x - o + d) = o ∧ delayV t1 (t1 + o + d) (t1 + o + d + x) (t1 + o + d + x - o + d) = d := by
  have h : timesB t1 (t1 + o + d) (t1 + o + d + x) (t1 + o + d + x - o + d) = true := decide_eq_true fun j hj => by
    match j, hj with
    | 0, _ => show 0 ≤ t1 ∧ t1 ≤ _; omega
    | 1, _ => show 0 ≤ t1 + o + d ∧ t1 + o + d ≤ _; omega
    | 2, _ => show 0 ≤ t1 + o + d + x ∧ t1 + o + d + x ≤ _; omega
    | 3, _ => show 0 ≤ t1 + o + d + x - o + d ∧ t1 + o + d + x - o + d ≤ _; omega
  unfold offsetV delayV
  rw [if_pos h, if_pos h]
  refine ⟨?_, ?_⟩
  · rw [show t1 + o + d - t1 - (t1 + o + d + x - o + d) + (t1 + o + d + x) = 2 * o by omega, Int.mul_tdiv_cancel_left _ (by decide)]
  · rw [show t1 + o + d + x - o + d - t1 - (t1 + o + d + x) + (t1 + o + d) = 2 * d by omega, Int.mul_tdiv_cancel_left _ (by decide)]
set_option maxHeartbeats 4000000 in
set_option maxRecDepth 100000 in
theorem walk (w : World) (a0 : Option Addr) (len0 cap0 : Nat) (z0 : List Int) (h : IsRow .u8 w a0 len0 cap0 z0) :
    Calls Try.prog 9 #[.slice a0 len0 cap0] w fun e w' => e = .returned (.bool true) ∧ Below w.heap.size w w' := by
  by_cases hbig : len0 ≤ 1048576
  · have HC := Lib.hid (Code.of_row h hbig)
    clear h
    go_enter Try.func9, Try.ntmps9
    go_wp2_with fail
    refine (big_no _ _ _ _ hbig).mono ?_
    rintro e w' ⟨rfl, rfl⟩
    go_wp2_with fail
    refine (at_any _ 0 a0 len0 cap0 _ HC.out (by omega)).mono ?_
    rintro e w' ⟨x, ⟨x0, x1⟩, rfl, rfl⟩
    have hO : -700 ≤ (x - 100) * 7 ∧ (x - 100) * 7 ≤ 1085 := by omega
    go_wp2_with fail
    obtain ⟨o, ho⟩ : ∃ o, (x - 100) * 7 = o := ⟨_, rfl⟩
    rw [ho] at hO ⊢
    clear ho x0 x1
    refine (at_any _ 1 a0 len0 cap0 _ HC.out (by omega)).mono ?_
    rintro e w' ⟨d, ⟨d0, d1⟩, rfl, rfl⟩
    go_wp2_with fail
    refine (at_any _ 2 a0 len0 cap0 _ HC.out (by omega)).mono ?_
    rintro e w' ⟨y, ⟨y0, y1⟩, rfl, rfl⟩
    have hT : 5000 ≤ 5000 + y ∧ 5000 + y ≤ 5255 := by omega
    obtain ⟨o0, o1⟩ := hO
    go_wp2_with fail
    obtain ⟨t1, ht⟩ : ∃ t1, 5000 + y = t1 := ⟨_, rfl⟩
    rw [ht] at hT ⊢
    clear ht y0 y1
    obtain ⟨t0, t2⟩ := hT
    refine (at_any _ 3 a0 len0 cap0 _ HC.out (by omega)).mono ?_
    rintro e w' ⟨z, ⟨z0', z1⟩, rfl, rfl⟩
    have HE := Lib.hid (oe o d t1 z ⟨o0, o1⟩ ⟨d0, d1⟩ ⟨t0, t2⟩ ⟨z0', z1⟩)
    go_wp2_with fail
    refine (impl_offsetV _ _ _ _ _).mono ?_
    rintro e w1 ⟨rfl, hb1⟩
    rw [HE.out.1]
    go_wp2_with fail
    refine (impl_delayV _ _ _ _ _).mono ?_
    rintro e w2 ⟨rfl, hb2⟩
    rw [HE.out.2]
    go_wp2
    go_ret
    exact ⟨rfl, below_comp hb1 hb2⟩
  · go_enter Try.func9, Try.ntmps9
    go_wp2_with fail
    refine (big_yes _ _ _ _ (by omega)).mono ?_
    rintro e w' ⟨rfl, rfl⟩
    go_wp2
    go_ret
    exact ⟨rfl, Below.refl _ _⟩

set_option maxRecDepth 100000 in
theorem lifted (os : Os) (started : os.Started) (H : Type) (enc : TypeId × Value → H) :
    ReturnsInHanded {} Try.checked os 9 .any (Rows.fnOffsetExactSpec.pre6 enc Try.prog Try.f9 Rows.fnOffsetExactRow.domain false) (Rows.fnOffsetExactSpec.post enc Try.prog Try.f9 false true false false) := by
  refine returnsInHanded_of_change (C := Try.checked) own started (by kernel_rfl) Try.func9
    (ChangeSpec.witness6 (enc := enc) (C := Try.checked) false ⟨#[], #[.slice none 0 0], []⟩ 8 (by kernel_rfl) (by kernel_rfl) (by kernel_rfl) (by kernel_rfl)) ?_
  intro W base args ds gs before hval0 hW hcnd _
  have hval : ∀ (j : Nat) t v, Try.f9.params[j]? = some t → args[j]? = some v → Value.okWide Try.prog W .any base t v := hval0
  have hW' := hW
  obtain ⟨p, q, hA0, hV, rfl, hfz, hnd⟩ := hW
  have hA : DataW.TrodAll enc Try.prog W 0 (fun _ => true) true Try.f9.params.toList args.toList ds p := hA0
  rw [Try.params9] at hA hval
  obtain ⟨v0, vs0, d0, ds0, p0, q0, hargs, rfl, rfl, h0, r0⟩ := trodAll_cons hA
  obtain ⟨rfl, rfl, rfl⟩ := trodAll_nil r0
  obtain rfl : args = #[v0] := by cases args; simp_all
  obtain ⟨rfl, rfl⟩ := trodVars_none hV
  have lt0 : ∀ x ∈ p0, x.block < W.heap.size := by obtain ⟨m, hm⟩ := h0; exact DataW.trod_lt m _ _ _ hm
  have k0 := h0
  obtain ⟨a0, len0, cap0, rfl⟩ := okWide_slice Try.underlying33 (hval 0 33 v0 rfl rfl)
  obtain ⟨z0, w0⟩ : ∃ zs, IsRow .u8 W a0 len0 cap0 zs := by
    obtain ⟨fuel, hf⟩ := h0
    rcases open_ints Try.underlying33 Try.underlying5 (by kernel_rfl) hf with ⟨hcs, _⟩ | ⟨x, l, c, zs, hcs, _, hl, hm, hz, _, hcell, hwz⟩
    · simp [Value.cells] at hcs
      obtain ⟨rfl, rfl, rfl⟩ := hcs
      exact ⟨[], .inl ⟨rfl, rfl, rfl, rfl⟩⟩
    · simp [Value.cells] at hcs
      obtain ⟨rfl, rfl, rfl⟩ := hcs
      exact ⟨zs, .inr ⟨_, rfl, hl, hm, by simpa using hz, hcell, hwz⟩⟩
  clear hA0 hval0
  refine (walk W a0 len0 cap0 z0 w0).mono fun e W' ⟨he, bel⟩ => ?_
  subst he
  exact ⟨_, rfl, _, _, _, [], _, [], hW', trodAll_mk1 (shut_bool Try.underlying4 _), (trodAll_cons_mk (Below.trod laidOut (by kernel_rfl) (of_decide_eq_true (by kernel_rfl)) k0 bel lt0) trodAll_mk0), rfl, bel.frame _, fun h => by cases h⟩

theorem over : Rows.fnOffsetExactRow.holds Try.pinned (OpenSpec.ofChange Rows.fnOffsetExactSpec) :=
  OpenClaim.holds_of_wide 9 Try.f9 rfl rfl rfl rfl rfl rfl rfl ⟨rfl, rfl, rfl, rfl, rfl⟩ rfl rfl rfl rfl rfl (by kernel_rfl) Try.func9 (by kernel_rfl)
    (of_decide_eq_true (by kernel_rfl)) (by unfold Func.isWrapper; first | (rw [if_pos (by decide +kernel)]; kernel_rfl) | (rw [if_neg (by decide +kernel)]; exact ⟨rfl, rfl⟩))
    (fun os started H enc _ => lifted os started H enc)

/-- The statement. -/
theorem proved : Rows.FnOffsetExactSaid := over

end Go.Proofs.Ytdcjbojigmgcgab.fnOffsetExact
