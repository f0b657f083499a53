/- EncodeDesc of the program. -/
import Derived.Test.YtncpnoloamebnaaEncDescB
import Derived.Deep.QuietTactic
import Derived.BigQuiet
import Derived.Deep.WholeRow
namespace Go.Proofs.Ytncpnoloamebnaa
open Go.RowKit
set_option linter.unusedSimpArgs false
set_option linter.unusedVariables false

theorem oneB_size (a : Int) : (oneB a).size ≤ 1 := Nat.le_refl 1
theorem two_of (a b : Int) : (⟨#[]⟩ : ByteArray) ++ oneB a ++ oneB b = two a b := rfl
set_option maxHeartbeats 4000000 in
set_option maxRecDepth 100000 in
theorem impl_encdesc (e : DescM) (w : World) :
    Calls Try.prog 38 #[e.val] w fun r w' => r = .returned (.string e.enc) ∧ Below w.heap.size w w' := by
  by_cases h : e.Ok
  case neg => exact impl_encdesc_no e w h
  have HV : Hid (∀ W, Calls Try.prog 36 #[e.val] W fun r w' => r = .returned (.bool true) ∧ Below W.heap.size W w') := Lib.hid fun W => by have := impl_descok e W; rwa [decide_eq_true h] at this
  obtain ⟨R, HR⟩ : ∃ R, Hid (R = e.bytes) := ⟨_, Lib.hid rfl⟩
  rw [show e.enc = R from (if_pos h).trans HR.out.symm]
  clear h
  obtain ⟨op, fl, le, ad, si, co⟩ := e
  unfold DescM.val DescM.bytes at *
  dsimp only at *

  obtain ⟨T1, HT1⟩ : ∃ T, Hid (T = (⟨#[]⟩ : ByteArray) ++ oneB (op % 256)) := ⟨_, Lib.hid rfl⟩
  have z1 : T1.size ≤ 1 := by rw [HT1.out, ByteArray.size_append]; have := oneB_size ((op % 256)); have e0 : (⟨#[]⟩ : ByteArray).size = 0 := rfl; omega
  obtain ⟨T2, HT2⟩ : ∃ T, Hid (T = T1 ++ oneB (fl % 256)) := ⟨_, Lib.hid rfl⟩
  have z2 : T2.size ≤ 2 := by rw [HT2.out, ByteArray.size_append]; have := oneB_size ((fl % 256)); omega
  obtain ⟨T3, HT3⟩ : ∃ T, Hid (T = T2 ++ word16V le) := ⟨_, Lib.hid rfl⟩
  have z3 : T3.size ≤ 4 := by rw [HT3.out, ByteArray.size_append]; have := w16V_size le; omega
  obtain ⟨T4, HT4⟩ : ∃ T, Hid (T = T3 ++ word32V ad) := ⟨_, Lib.hid rfl⟩
  have z4 : T4.size ≤ 8 := by rw [HT4.out, ByteArray.size_append]; have := w32V_size ad; omega
  obtain ⟨T5, HT5⟩ : ∃ T, Hid (T = T4 ++ word16V si) := ⟨_, Lib.hid rfl⟩
  have z5 : T5.size ≤ 10 := by rw [HT5.out, ByteArray.size_append]; have := w16V_size si; omega
  obtain ⟨T6, HT6⟩ : ∃ T, Hid (T = T5 ++ word16V co) := ⟨_, Lib.hid rfl⟩
  have z6 : T6.size ≤ 12 := by rw [HT6.out, ByteArray.size_append]; have := w16V_size co; omega
  obtain ⟨T7, HT7⟩ : ∃ T, Hid (T = T6 ++ word32V 0) := ⟨_, Lib.hid rfl⟩
  have z7 : T7.size ≤ 16 := by rw [HT7.out, ByteArray.size_append]; have := w32V_size 0; omega
  have HRT : Hid (T7 = R) := Lib.hid (by rw [HR.out, HT7.out, HT6.out, HT5.out, HT4.out, HT3.out, HT2.out, HT1.out, two_of])

  have HC0 := Lib.hid fun W => (by have := impl_with8 (⟨#[]⟩ : ByteArray) op W (by first | decide | omega); rwa [← HT1.out] at this : Calls Try.prog 57 #[.string ⟨#[]⟩, .int .i64 op] W fun r w' => r = .returned (.string T1) ∧ Below W.heap.size W w')
  have HC1 := Lib.hid fun W => (by have := impl_with8 T1 fl W (by first | decide | omega); rwa [← HT2.out] at this : Calls Try.prog 57 #[.string T1, .int .i64 fl] W fun r w' => r = .returned (.string T2) ∧ Below W.heap.size W w')
  have HC2 := Lib.hid fun W => (by have := impl_with16 T2 le W (by first | decide | omega); rwa [← HT3.out] at this : Calls Try.prog 58 #[.string T2, .int .i64 le] W fun r w' => r = .returned (.string T3) ∧ Below W.heap.size W w')
  have HC3 := Lib.hid fun W => (by have := impl_with32 T3 ad W (by first | decide | omega); rwa [← HT4.out] at this : Calls Try.prog 59 #[.string T3, .int .i64 ad] W fun r w' => r = .returned (.string T4) ∧ Below W.heap.size W w')
  have HC4 := Lib.hid fun W => (by have := impl_with16 T4 si W (by first | decide | omega); rwa [← HT5.out] at this : Calls Try.prog 58 #[.string T4, .int .i64 si] W fun r w' => r = .returned (.string T5) ∧ Below W.heap.size W w')
  have HC5 := Lib.hid fun W => (by have := impl_with16 T5 co W (by first | decide | omega); rwa [← HT6.out] at this : Calls Try.prog 58 #[.string T5, .int .i64 co] W fun r w' => r = .returned (.string T6) ∧ Below W.heap.size W w')
  have HC6 := Lib.hid fun W => (by have := impl_with32 T6 (0 : Int) W (by first | decide | omega); rwa [← HT7.out] at this : Calls Try.prog 59 #[.string T6, .int .i64 0] W fun r w' => r = .returned (.string T7) ∧ Below W.heap.size W w')
  clear z1 z2 z3 z4 z5 z6 z7
  go_enter Try.func38, Try.ntmps38
  go_wp2_with (go_at_call 36; refine (HV.out _).mono ?_; rintro e w1 ⟨rfl, hb1⟩; obtain ⟨hc, hf, _⟩ := bcell hb1; (have hg1 : w.heap.size < w1.heap.size := by (have hz := hb1.size; (try simp at hz); omega)))
  obtain ⟨w2, hw2⟩ : ∃ w2, w2 = w1.alloc (.cells #[.func (.func 57) #[] #[], .int .i64 op, .func (.func 57) #[] #[], .int .i64 fl, .func (.func 58) #[] #[], .int .i64 le, .func (.func 59) #[] #[], .int .i64 ad, .func (.func 58) #[] #[], .int .i64 si, .func (.func 58) #[] #[], .int .i64 co, .func (.func 59) #[] #[], .int .i64 0] 69) := ⟨_, rfl⟩
  have hb02 : Below w.heap.size w w2 := hw2 ▸ below_comp (below_comp (below_new _) hb1) (below_new _)
  have HB2 : Hid (Box w2 w1.heap.size #[.func (.func 57) #[] #[], .int .i64 op, .func (.func 57) #[] #[], .int .i64 fl, .func (.func 58) #[] #[], .int .i64 le, .func (.func 59) #[] #[], .int .i64 ad, .func (.func 58) #[] #[], .int .i64 si, .func (.func 58) #[] #[], .int .i64 co, .func (.func 59) #[] #[], .int .i64 0] 69) := Lib.hid (hw2 ▸ Box.new w1 #[.func (.func 57) #[] #[], .int .i64 op, .func (.func 57) #[] #[], .int .i64 fl, .func (.func 58) #[] #[], .int .i64 le, .func (.func 59) #[] #[], .int .i64 ad, .func (.func 58) #[] #[], .int .i64 si, .func (.func 58) #[] #[], .int .i64 co, .func (.func 59) #[] #[], .int .i64 0] 69)
  have hg2 : w1.heap.size < w2.heap.size := by rw [hw2]; simp
  rw [← hw2]
  clear hw2 hc hf hb1
  go_loopw [4, 32] (fun t i wr => ((t = .string ⟨#[]⟩ ∧ i = .int .i64 0) ∨ (t = .string T1 ∧ i = .int .i64 1) ∨ (t = .string T2 ∧ i = .int .i64 2) ∨ (t = .string T3 ∧ i = .int .i64 3) ∨ (t = .string T4 ∧ i = .int .i64 4) ∨ (t = .string T5 ∧ i = .int .i64 5) ∨ (t = .string T6 ∧ i = .int .i64 6) ∨ (t = .string T7 ∧ i = .int .i64 7)) ∧ Hid (Below w2.heap.size w2 wr))
    (fun _ i _ => 8 - (intOf i).toNat)
  case atStart => exact ⟨.inl ⟨rfl, rfl⟩, Lib.hid (Below.refl _ _)⟩
  case round =>
    obtain ⟨hrel, HBL⟩ := hrel
    have hwr : w1.heap.size < wr.heap.size := Nat.lt_of_lt_of_le hg2 HBL.out.size
    rcases hrel with ⟨rfl, rfl⟩ | ⟨rfl, rfl⟩ | ⟨rfl, rfl⟩ | ⟨rfl, rfl⟩ | ⟨rfl, rfl⟩ | ⟨rfl, rfl⟩ | ⟨rfl, rfl⟩ | ⟨rfl, rfl⟩
    case inr.inr.inr.inr.inr.inr.inr =>
      rw [HRT.out]
      go_wp2
      go_ret
      exact ⟨rfl, below_comp hb02 HBL.out⟩

    case inl =>
      have c0 : wr.cell? ⟨w1.heap.size, 0, none⟩ = some (.func (.func 57) #[] #[]) := (HB2.out.below HBL.out hg2).cell 0 (by simp)
      have c1 : wr.cell? ⟨w1.heap.size, 1, none⟩ = some (.int .i64 op) := (HB2.out.below HBL.out hg2).cell 1 (by simp)
      have hone : (Value.func (.func 57) #[] #[]).oneCell' = true := by rfl
      have hs0 := run_store Try.prog (wr.alloc (.cells #[.nilFunc, .int .i64 0] 69)) ⟨wr.heap.size, 0, none⟩ (.func (.func 57) #[] #[]) .plain hone
      go_wp2_with (go_at_call 57; refine (HC0.out _).mono ?_; rintro e w3 ⟨rfl, hb3⟩)
      go_roundw
      case rel => exact ⟨by simp, Lib.hid (below_comp (below_comp HBL.out (below_new _)) hb3)⟩
      case measure => simp [intOf]
    case inr.inl =>
      have c0 : wr.cell? ⟨w1.heap.size, 2, none⟩ = some (.func (.func 57) #[] #[]) := (HB2.out.below HBL.out hg2).cell 2 (by simp)
      have c1 : wr.cell? ⟨w1.heap.size, 3, none⟩ = some (.int .i64 fl) := (HB2.out.below HBL.out hg2).cell 3 (by simp)
      have hone : (Value.func (.func 57) #[] #[]).oneCell' = true := by rfl
      have hs0 := run_store Try.prog (wr.alloc (.cells #[.nilFunc, .int .i64 0] 69)) ⟨wr.heap.size, 0, none⟩ (.func (.func 57) #[] #[]) .plain hone
      go_wp2_with (go_at_call 57; refine (HC1.out _).mono ?_; rintro e w3 ⟨rfl, hb3⟩)
      go_roundw
      case rel => exact ⟨by simp, Lib.hid (below_comp (below_comp HBL.out (below_new _)) hb3)⟩
      case measure => simp [intOf]
    case inr.inr.inl =>
      have c0 : wr.cell? ⟨w1.heap.size, 4, none⟩ = some (.func (.func 58) #[] #[]) := (HB2.out.below HBL.out hg2).cell 4 (by simp)
      have c1 : wr.cell? ⟨w1.heap.size, 5, none⟩ = some (.int .i64 le) := (HB2.out.below HBL.out hg2).cell 5 (by simp)
      have hone : (Value.func (.func 58) #[] #[]).oneCell' = true := by rfl
      have hs0 := run_store Try.prog (wr.alloc (.cells #[.nilFunc, .int .i64 0] 69)) ⟨wr.heap.size, 0, none⟩ (.func (.func 58) #[] #[]) .plain hone
      go_wp2_with (go_at_call 58; refine (HC2.out _).mono ?_; rintro e w3 ⟨rfl, hb3⟩)
      go_roundw
      case rel => exact ⟨by simp, Lib.hid (below_comp (below_comp HBL.out (below_new _)) hb3)⟩
      case measure => simp [intOf]
    case inr.inr.inr.inl =>
      have c0 : wr.cell? ⟨w1.heap.size, 6, none⟩ = some (.func (.func 59) #[] #[]) := (HB2.out.below HBL.out hg2).cell 6 (by simp)
      have c1 : wr.cell? ⟨w1.heap.size, 7, none⟩ = some (.int .i64 ad) := (HB2.out.below HBL.out hg2).cell 7 (by simp)
      have hone : (Value.func (.func 59) #[] #[]).oneCell' = true := by rfl
      have hs0 := run_store Try.prog (wr.alloc (.cells #[.nilFunc, .int .i64 0] 69)) ⟨wr.heap.size, 0, none⟩ (.func (.func 59) #[] #[]) .plain hone
      go_wp2_with (go_at_call 59; refine (HC3.out _).mono ?_; rintro e w3 ⟨rfl, hb3⟩)
      go_roundw
      case rel => exact ⟨by simp, Lib.hid (below_comp (below_comp HBL.out (below_new _)) hb3)⟩
      case measure => simp [intOf]
    case inr.inr.inr.inr.inl =>
      have c0 : wr.cell? ⟨w1.heap.size, 8, none⟩ = some (.func (.func 58) #[] #[]) := (HB2.out.below HBL.out hg2).cell 8 (by simp)
      have c1 : wr.cell? ⟨w1.heap.size, 9, none⟩ = some (.int .i64 si) := (HB2.out.below HBL.out hg2).cell 9 (by simp)
      have hone : (Value.func (.func 58) #[] #[]).oneCell' = true := by rfl
      have hs0 := run_store Try.prog (wr.alloc (.cells #[.nilFunc, .int .i64 0] 69)) ⟨wr.heap.size, 0, none⟩ (.func (.func 58) #[] #[]) .plain hone
      go_wp2_with (go_at_call 58; refine (HC4.out _).mono ?_; rintro e w3 ⟨rfl, hb3⟩)
      go_roundw
      case rel => exact ⟨by simp, Lib.hid (below_comp (below_comp HBL.out (below_new _)) hb3)⟩
      case measure => simp [intOf]
    case inr.inr.inr.inr.inr.inl =>
      have c0 : wr.cell? ⟨w1.heap.size, 10, none⟩ = some (.func (.func 58) #[] #[]) := (HB2.out.below HBL.out hg2).cell 10 (by simp)
      have c1 : wr.cell? ⟨w1.heap.size, 11, none⟩ = some (.int .i64 co) := (HB2.out.below HBL.out hg2).cell 11 (by simp)
      have hone : (Value.func (.func 58) #[] #[]).oneCell' = true := by rfl
      have hs0 := run_store Try.prog (wr.alloc (.cells #[.nilFunc, .int .i64 0] 69)) ⟨wr.heap.size, 0, none⟩ (.func (.func 58) #[] #[]) .plain hone
      go_wp2_with (go_at_call 58; refine (HC5.out _).mono ?_; rintro e w3 ⟨rfl, hb3⟩)
      go_roundw
      case rel => exact ⟨by simp, Lib.hid (below_comp (below_comp HBL.out (below_new _)) hb3)⟩
      case measure => simp [intOf]
    case inr.inr.inr.inr.inr.inr.inl =>
      have c0 : wr.cell? ⟨w1.heap.size, 12, none⟩ = some (.func (.func 59) #[] #[]) := (HB2.out.below HBL.out hg2).cell 12 (by simp)
      have c1 : wr.cell? ⟨w1.heap.size, 13, none⟩ = some (.int .i64 0) := (HB2.out.below HBL.out hg2).cell 13 (by simp)
      have hone : (Value.func (.func 59) #[] #[]).oneCell' = true := by rfl
      have hs0 := run_store Try.prog (wr.alloc (.cells #[.nilFunc, .int .i64 0] 69)) ⟨wr.heap.size, 0, none⟩ (.func (.func 59) #[] #[]) .plain hone
      go_wp2_with (go_at_call 59; refine (HC6.out _).mono ?_; rintro e w3 ⟨rfl, hb3⟩)
      go_roundw
      case rel => exact ⟨by simp, Lib.hid (below_comp (below_comp HBL.out (below_new _)) hb3)⟩
      case measure => simp [intOf]
end Go.Proofs.Ytncpnoloamebnaa
