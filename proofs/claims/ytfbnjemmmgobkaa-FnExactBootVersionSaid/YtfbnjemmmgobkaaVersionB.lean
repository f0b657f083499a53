/- ImageVersion of both sides. -/
import Derived.Test.YtfbnjemmmgobkaaImageB
import Derived.Test.YtfbnjemmmgobkaaGet32Impl
import Derived.Test.YtfbnjemmmgobkaaGetsAnySpec
import Derived.Deep.DeepCutAuto
import Derived.RegionTactic
import Derived.Deep.QuietTactic
import Derived.BigQuiet
namespace Go.Proofs.Ytfbnjemmmgobkaa
open Go.RowKit
set_option linter.unusedSimpArgs false
set_option linter.unusedVariables false

def verOk (s : ByteArray) (n : Nat) : Prop := n ≤ 84 ∧ n + 12 ≤ s.size ∧ (imgV (get32 s 0) (s.extract 8 (8 + n))).2 = true ∧ (imgV (get32 s 0) (s.extract 8 (8 + n))).1 = s.extract 0 (n + 12)
instance (s : ByteArray) (n : Nat) : Decidable (verOk s n) := by unfold verOk; infer_instance
def verV (s : ByteArray) : Int := if 0 ≤ get32 s 4 ∧ verOk s (get32 s 4).toNat then get32 s 0 else -1
theorem get32_le (s : ByteArray) (p : Nat) : -1 ≤ get32 s (p : Int) ∧ get32 s (p : Int) ≤ 4294967295 := by
  unfold get32
  split
  · rename_i h
    have b1 := get16_bd s p (by omega)
    have b2 := get16_bd s (p + 2) (by omega)
    rw [show ((p + 2 : Nat) : Int) = (p : Int) + 2 by omega] at b2
    omega
  · omega

set_option maxHeartbeats 4000000 in
set_option maxRecDepth 100000 in
theorem spec_version (s : ByteArray) (w : World) (hs : s.size ≤ 4194304) :
    Calls Try.prog 102 #[.string s] w fun e w' => e = .returned (.int .i64 (verV s)) ∧ Below w.heap.size w w' := by
  have HG4 := Lib.hid fun W => spec_get32_any s 4 W (by unfold maxLen; omega) (by decide)
  have HG0 := Lib.hid fun W => spec_get32_any s 0 W (by unfold maxLen; omega) (by decide)
  have hb : -1 ≤ get32 s 4 ∧ get32 s 4 ≤ 4294967295 := get32_le s 4
  unfold verV
  obtain ⟨z, hz⟩ : ∃ z, get32 s 4 = z := ⟨_, rfl⟩
  rw [hz] at HG4 hb ⊢
  clear hz
  by_cases h0 : 0 ≤ z ∧ z ≤ 84
  case neg =>
    rw [if_neg (fun hh => h0 ⟨hh.1, by have := hh.2.1; omega⟩)]
    have HI := Lib.hid fun W => spec_in_no z 0 84 W h0
    clear h0 hb
    go_enter Try.func102, Try.ntmps102
    go_wp2_with (first | (go_at_call 149; refine (HG4.out _).mono ?_; rintro e w1 ⟨rfl, hb1⟩) | (go_at_call 108; refine (HI.out _).mono ?_; rintro e w' ⟨rfl, rfl⟩))
    go_ret
    exact ⟨rfl, hb1⟩
  have HI := Lib.hid fun W => spec_in_yes z 0 84 W h0
  obtain ⟨n, rfl⟩ : ∃ n : Nat, z = n := ⟨z.toNat, by omega⟩
  rw [Int.toNat_natCast]
  by_cases h1 : n + 12 ≤ s.size
  case neg =>
    rw [if_neg (fun hh => h1 hh.2.2.1)]
    have h2 : (s.size : Int) < (n : Int) + 12 := by omega
    clear h1 h0
    go_enter Try.func102, Try.ntmps102
    go_wp2_with (first | (go_at_call 149; refine (HG4.out _).mono ?_; rintro e w1 ⟨rfl, hb1⟩) | (go_at_call 108; refine (HI.out _).mono ?_; rintro e w' ⟨rfl, rfl⟩))
    go_ret
    exact ⟨rfl, hb1⟩
  have h2 : ¬ (s.size : Int) < (n : Int) + 12 := by omega
  have h3 : (n : Int) ≤ 84 := h0.2
  have h4 : (0 : Int) ≤ 8 + (n : Int) := by omega
  have h5 : 8 + (n : Int) ≤ (s.size : Int) := by omega
  have h6 : (8 : Int) ≤ 8 + (n : Int) := by omega
  have h7 : (8 + (n : Int)).toNat = 8 + n := by omega
  have h8 : IntKind.i64.wrap (8 + (n : Int)) = 8 + (n : Int) := wrap_in _ (by omega) (by omega)
  have hn84 : n ≤ 84 := by omega
  clear h0 hb
  obtain ⟨v, hv⟩ : ∃ v, get32 s 0 = v := ⟨_, rfl⟩
  have hok : verOk s n = ((imgV v (s.extract 8 (8 + n))).2 = true ∧ (imgV v (s.extract 8 (8 + n))).1 = s.extract 0 (n + 12)) := by
    unfold verOk; rw [hv]; exact propext ⟨fun h => h.2.2, fun h => ⟨hn84, h1, h⟩⟩
  have HO := Lib.hid hok
  have HM := Lib.hid fun W => spec_image v (s.extract 8 (8 + n)) W (by rw [ByteArray.size_extract]; omega)
  obtain ⟨⟨R1, R2⟩, hR⟩ : ∃ R, imgV v (s.extract 8 (8 + n)) = R := ⟨_, rfl⟩
  rw [hR] at HM HO
  rw [hv] at HG0 ⊢
  obtain ⟨T, hT⟩ : ∃ T, (if 0 ≤ (n : Int) ∧ verOk s n then v else -1) = T := ⟨_, rfl⟩
  rw [hT]
  have HT := Lib.hid hT
  clear hok hR hv hT
  have e0 : (0 : Int) ≤ (n : Int) := by omega
  have e1 : (0 : Int) ≤ (n : Int) + 12 := by omega
  have e2 : (n : Int) + 12 ≤ (s.size : Int) := by omega
  have e3 : ((n : Int) + 12).toNat = n + 12 := by omega
  go_enter Try.func102, Try.ntmps102
  go_upto_region 4 with (first | (go_at_call 149; refine (HG4.out _).mono ?_; rintro e w1 ⟨rfl, hb1⟩) | (go_at_call 108; refine (HI.out _).mono ?_; rintro e w' ⟨rfl, rfl⟩))
  go_cut [4, 5] (fun s4 s5 wx => s4 = .string R1 ∧ s5 = .bool R2 ∧ Hid (Below w.heap.size w wx))
  case first =>
    go_region_with (first
      | (go_at_call 149; refine (HG0.out _).mono ?_; rintro e w2 ⟨rfl, hb2⟩; have HB2 := Lib.hid hb2; clear hb2)
      | (go_at_call 150; refine (HM.out _).mono ?_; rintro e w3 ⟨rfl, hb3⟩; have HB3 := Lib.hid hb3; clear hb3))
    all_goals (go_wp2_with fail; go_meet; exact ⟨rfl, rfl, Lib.hid (by repeat (first | ((with_reducible refine Below.setCell ?_ ?_ _); rotate_left; first | omega | (dsimp only; omega) | (simp; done) | (simp; omega)) | ((with_reducible refine below_setRow ?_ ?_ _); rotate_left; first | omega | (dsimp only; omega) | (simp; done) | (simp; omega)) | with_reducible exact Below.refl _ _ | with_reducible exact below_new _ | with_reducible exact below_drew | with_reducible exact HB9.out | with_reducible exact HB8.out | with_reducible exact HB7.out | with_reducible exact HB6.out | with_reducible exact HB5.out | with_reducible exact HB4.out | with_reducible exact HB3.out | with_reducible exact HB2.out | with_reducible exact HB1.out | (with_reducible apply below_comp; rotate_left; first | with_reducible exact HB9.out | with_reducible exact HB8.out | with_reducible exact HB7.out | with_reducible exact HB6.out | with_reducible exact HB5.out | with_reducible exact HB4.out | with_reducible exact HB3.out | with_reducible exact HB2.out | with_reducible exact HB1.out | with_reducible assumption | with_reducible exact below_new _ | with_reducible exact below_drew)))⟩)
  case rest =>
    obtain ⟨rfl, rfl, HB4⟩ := hcut
    clear h8
    cases R2
    · have hf : -1 = T := by rw [← HT.out, if_neg (fun hh => by have h := hh.2; rw [HO.out] at h; cases h.1)]
      have HF := Lib.hid hf
      clear hf
      go_wp2
      go_ret
      exact ⟨ret_int HF.out, HB4.out⟩
    by_cases heq : R1 = s.extract 0 (n + 12)
    · have hf : v = T := by rw [← HT.out, if_pos ⟨e0, by rw [HO.out]; exact ⟨rfl, heq⟩⟩]
      have HF := Lib.hid hf
      subst heq
      clear hf
      go_wp2_with (first | (go_at_call 149; refine (HG0.out _).mono ?_; rintro e w5 ⟨rfl, hb5⟩))
      go_ret
      exact ⟨ret_int HF.out, below_comp HB4.out hb5⟩
    · have hf : -1 = T := by rw [← HT.out, if_neg (fun hh => by have h := hh.2; rw [HO.out] at h; exact heq h.2)]
      have HF := Lib.hid hf
      have hne := str_ne heq
      clear hf heq
      go_wp2
      go_ret
      exact ⟨ret_int HF.out, HB4.out⟩

set_option maxHeartbeats 4000000 in
set_option maxRecDepth 100000 in
theorem prefix_any (s t : ByteArray) (w : World) (hs : s.size ≤ 4194304) (ht : t.size ≤ 4194304) :
    Calls Try.prog 153 #[.string s, .string t] w fun e w' => e = .returned (.bool (decide (t.size ≤ s.size ∧ t = s.extract 0 t.size))) ∧ w = w' := by
  have HL : Hid (Calls Try.prog 182 #[.string s, .string t] w fun e w' => e = .returned (.bool (decide (t.size ≤ s.size ∧ t = s.extract 0 t.size))) ∧ w = w') := Lib.hid (by
    by_cases h : t.size ≤ s.size
    · have e1 : (t.size : Int) ≤ (s.size : Int) := by omega
      have e2 : (0 : Int) ≤ (t.size : Int) := by omega
      by_cases heq : t = s.extract 0 t.size
      · rw [decide_eq_true ⟨h, heq⟩]
        have hx : ((s.extract 0 t.size).toList == t.toList) = true := by rw [← heq]; simp
        clear heq
        go_enter Try.func182, Try.ntmps182
        go_wp2
        go_ret
        exact ⟨rfl, rfl⟩
      · rw [decide_eq_false (fun hh => heq hh.2)]
        have hx : ((s.extract 0 t.size).toList == t.toList) = false := str_ne (fun h => heq h.symm)
        clear heq
        go_enter Try.func182, Try.ntmps182
        go_wp2
        go_ret
        exact ⟨rfl, rfl⟩
    · have e1 : ¬ (t.size : Int) ≤ (s.size : Int) := by omega
      have e1b : (s.size : Int) < (t.size : Int) := by omega
      rw [decide_eq_false (fun hh => h hh.1)]
      clear h
      go_enter Try.func182, Try.ntmps182
      go_wp2
      go_ret
      exact ⟨rfl, rfl⟩)
  generalize decide (t.size ≤ s.size ∧ t = s.extract 0 t.size) = B at HL ⊢
  go_enter Try.func153, Try.ntmps153
  go_wp2_with (first | (go_at_call 182; refine HL.out.mono ?_; rintro e w' ⟨rfl, rfl⟩))
  go_ret
  exact ⟨rfl, rfl⟩

theorem w32V_in (v : Int) (h : 0 ≤ v ∧ v ≤ 4294967295) : (word32V v).size = 4 := by unfold word32V; rw [if_pos h]; rfl
theorem img_size (v : Int) (b : ByteArray) (h : (imgV v b).2 = true) : (imgV v b).1.size = b.size + 12 ∧ b.size ≤ 84 := by
  unfold imgV at h ⊢
  by_cases c : (0 ≤ v ∧ v ≤ 1000000) ∧ b.size ≤ 84
  · rw [if_pos c]
    have h1 := w32V_in v (by omega)
    have h2 := w32V_in (b.size : Int) (by omega)
    have h3 := w32V_in ((crc (imgBody v b) : Nat) : Int) (by have := crc_lt (imgBody v b); omega)
    refine ⟨?_, c.2⟩
    rw [show (imgBody v b ++ word32V ((crc (imgBody v b) : Nat) : Int), true).1 = imgBody v b ++ word32V ((crc (imgBody v b) : Nat) : Int) from rfl, ByteArray.size_append, h3]
    unfold imgBody
    rw [ByteArray.size_append, ByteArray.size_append, h1, h2]
    omega
  · rw [if_neg c] at h; cases h
theorem img_small (v : Int) (b : ByteArray) (h : b.size ≤ 4194304) : (imgV v b).1.size ≤ 4194304 := by
  by_cases c : (imgV v b).2 = true
  · have := img_size v b c; omega
  · unfold imgV at c ⊢
    split
    · rename_i hc; rw [if_pos hc] at c; exact absurd rfl c
    · exact Nat.zero_le _

set_option maxHeartbeats 4000000 in
set_option maxRecDepth 100000 in
theorem impl_version (s : ByteArray) (w : World) (hs : s.size ≤ 4194304) :
    Calls Try.prog 103 #[.string s] w fun e w' => e = .returned (.int .i64 (verV s)) ∧ Below w.heap.size w w' := by
  have HG4 := Lib.hid fun W => impl_get32_any s 4 W (by unfold maxLen; omega) (by decide)
  have HG0 := Lib.hid fun W => impl_get32_any s 0 W (by unfold maxLen; omega) (by decide)
  have hb : -1 ≤ get32 s 4 ∧ get32 s 4 ≤ 4294967295 := get32_le s 4
  unfold verV
  obtain ⟨z, hz⟩ : ∃ z, get32 s 4 = z := ⟨_, rfl⟩
  rw [hz] at HG4 hb ⊢
  clear hz
  by_cases h0 : 0 ≤ z ∧ z ≤ (s.size : Int) - 8
  case neg =>
    rw [if_neg (fun hh => h0 ⟨hh.1, by have := hh.2.2.1; omega⟩)]
    have HI := Lib.hid fun W => impl_in_no z 0 ((s.size : Int) - 8) W h0
    clear h0 hb
    go_enter Try.func103, Try.ntmps103
    go_wp2_with (first | (go_at_call_of 151 (Value.int IntKind.i64 0); refine (HG0.out _).mono ?_; rintro e w1 ⟨rfl, hb1⟩) | (go_at_call 151; refine (HG4.out _).mono ?_; rintro e w2 ⟨rfl, hb2⟩) | (go_at_call 110; refine (HI.out _).mono ?_; rintro e w' ⟨rfl, rfl⟩))
    go_ret
    exact ⟨rfl, below_comp hb1 hb2⟩
  have HI := Lib.hid fun W => impl_in_yes z 0 ((s.size : Int) - 8) W h0
  obtain ⟨n, rfl⟩ : ∃ n : Nat, z = n := ⟨z.toNat, by omega⟩
  rw [Int.toNat_natCast]
  have h4 : (0 : Int) ≤ 8 + (n : Int) := by omega
  have h5 : 8 + (n : Int) ≤ (s.size : Int) := by omega
  have h6 : (8 : Int) ≤ 8 + (n : Int) := by omega
  have h7 : (8 + (n : Int)).toNat = 8 + n := by omega
  have e0 : (0 : Int) ≤ (n : Int) := by omega
  have hz8 : (s.extract 8 (8 + n)).size = n := by rw [ByteArray.size_extract]; omega
  clear h0 hb
  obtain ⟨v, hv⟩ : ∃ v, get32 s 0 = v := ⟨_, rfl⟩
  have hsz := img_size v (s.extract 8 (8 + n))
  have hsm := img_small v (s.extract 8 (8 + n)) (by omega)
  rw [hz8] at hsz
  have hok : verOk s n = (n ≤ 84 ∧ n + 12 ≤ s.size ∧ (imgV v (s.extract 8 (8 + n))).2 = true ∧ (imgV v (s.extract 8 (8 + n))).1 = s.extract 0 (n + 12)) := by unfold verOk; rw [hv]
  have HO := Lib.hid hok
  have HM := Lib.hid fun W => impl_image v (s.extract 8 (8 + n)) W (by omega)
  obtain ⟨⟨R1, R2⟩, hR⟩ : ∃ R, imgV v (s.extract 8 (8 + n)) = R := ⟨_, rfl⟩
  rw [hR] at HM HO hsz hsm
  rw [hv] at HG0 ⊢
  have HP := Lib.hid fun W => prefix_any s R1 W hs hsm
  obtain ⟨T, hT⟩ : ∃ T, (if 0 ≤ (n : Int) ∧ verOk s n then v else -1) = T := ⟨_, rfl⟩
  rw [hT]
  have HT := Lib.hid hT
  have HS := Lib.hid hsz
  clear hok hR hv hT hz8 hsm hsz
  cases R2
  · have hf : -1 = T := by rw [← HT.out, if_neg (fun hh => by have h := hh.2; rw [HO.out] at h; cases h.2.2.1)]
    have HF := Lib.hid hf
    clear hf
    go_enter Try.func103, Try.ntmps103
    go_wp2_with (first | (go_at_call_of 151 (Value.int IntKind.i64 0); refine (HG0.out _).mono ?_; rintro e w1 ⟨rfl, hb1⟩) | (go_at_call 151; refine (HG4.out _).mono ?_; rintro e w2 ⟨rfl, hb2⟩) | (go_at_call 110; refine (HI.out _).mono ?_; rintro e w' ⟨rfl, rfl⟩) | (go_at_call 152; refine (HM.out _).mono ?_; rintro e w3 ⟨rfl, hb3⟩))
    go_ret
    exact ⟨ret_int HF.out, below_comp (below_comp hb1 hb2) hb3⟩
  by_cases hp : R1.size ≤ s.size ∧ R1 = s.extract 0 R1.size
  · rw [decide_eq_true hp] at HP
    have hf : v = T := by rw [← HT.out, if_pos ⟨e0, by rw [HO.out]; have h := HS.out rfl; dsimp only at h; exact ⟨h.2, by omega, rfl, by dsimp only; rw [← h.1]; exact hp.2⟩⟩]
    have HF := Lib.hid hf
    clear hf hp
    go_enter Try.func103, Try.ntmps103
    go_wp2_with (first | (go_at_call_of 151 (Value.int IntKind.i64 0); refine (HG0.out _).mono ?_; rintro e w1 ⟨rfl, hb1⟩) | (go_at_call 151; refine (HG4.out _).mono ?_; rintro e w2 ⟨rfl, hb2⟩) | (go_at_call 110; refine (HI.out _).mono ?_; rintro e w' ⟨rfl, rfl⟩) | (go_at_call 152; refine (HM.out _).mono ?_; rintro e w3 ⟨rfl, hb3⟩) | (go_at_call 153; refine (HP.out _).mono ?_; rintro e w' ⟨rfl, rfl⟩))
    go_ret
    exact ⟨ret_int HF.out, below_comp (below_comp hb1 hb2) hb3⟩
  · rw [decide_eq_false hp] at HP
    have hf : -1 = T := by rw [← HT.out, if_neg (fun hh => by have h := hh.2; rw [HO.out] at h; have h2 := HS.out rfl; dsimp only at h h2; exact hp ⟨by omega, by rw [h2.1]; exact h.2.2.2⟩)]
    have HF := Lib.hid hf
    clear hf hp
    go_enter Try.func103, Try.ntmps103
    go_wp2_with (first | (go_at_call_of 151 (Value.int IntKind.i64 0); refine (HG0.out _).mono ?_; rintro e w1 ⟨rfl, hb1⟩) | (go_at_call 151; refine (HG4.out _).mono ?_; rintro e w2 ⟨rfl, hb2⟩) | (go_at_call 110; refine (HI.out _).mono ?_; rintro e w' ⟨rfl, rfl⟩) | (go_at_call 152; refine (HM.out _).mono ?_; rintro e w3 ⟨rfl, hb3⟩) | (go_at_call 153; refine (HP.out _).mono ?_; rintro e w' ⟨rfl, rfl⟩))
    go_ret
    exact ⟨ret_int HF.out, below_comp (below_comp hb1 hb2) hb3⟩

end Go.Proofs.Ytfbnjemmmgobkaa
