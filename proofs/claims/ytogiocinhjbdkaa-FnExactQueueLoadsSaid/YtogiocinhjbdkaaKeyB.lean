/- KeyWindow of both sides. -/
import Derived.Test.YtogiocinhjbdkaaKeyMath
import Derived.Test.YtogiocinhjbdkaaInYN
import Derived.Test.YtogiocinhjbdkaaKit
import Derived.Test.YtogiocinhjbdkaaFlatOk
import Derived.Test.YtogiocinhjbdkaaGet32Impl
import Derived.Test.YtogiocinhjbdkaaWordsMath
import Derived.Test.YtogiocinhjbdkaaRegionS
import Derived.Deep.QuietTactic
import Derived.BigQuiet
import Derived.Deep.DeepCutAuto
namespace Go.Proofs.Ytogiocinhjbdkaa
open Go.RowKit
set_option linter.unusedSimpArgs false
set_option linter.unusedVariables false
theorem and1 (x : Int) : bits .and .i64 x 1 = x % 2 := and_low x 1 (by decide)
set_option maxHeartbeats 2000000 in
set_option maxRecDepth 100000 in
theorem spec_bit (s : ByteArray) (i : Nat) (w : World) (hs : s.size ≤ 4194304) (hi : i < 8 * s.size) :
    Calls Try.prog 182 #[.string s, .int .i64 i] w fun r w' => r = .returned (.int .i64 (bitI s i)) ∧ w = w' := by
  have hj : i / 8 < s.size := by omega
  have HB : Hid (bitI s i = (s[i / 8].toNat : Int) / (2 ^ (7 - i % 8) : Nat) % 2) := Lib.hid (by unfold bitI; rw [byteI_at s (i / 8) hj])
  obtain ⟨j, hjj⟩ : ∃ j, j = i / 8 := ⟨_, rfl⟩
  have e1 : Int.tdiv (i : Int) 8 = (j : Int) := by rw [Int.tdiv_eq_ediv_of_nonneg (by omega)]; omega
  have e1' : (i : Int) / 8 = (j : Int) := by omega
  have e2 : Int.tmod (i : Int) 8 = (i : Int) % 8 := Int.tmod_eq_emod_of_nonneg (by omega)
  have hj2 : j < s.size := by omega
  have c1 : (0 : Int) ≤ (j : Int) := by omega
  have c2 : (j : Int) < (s.size : Int) := by omega
  have b1 : s[j].toNat < 256 := UInt8.toNat_lt _
  have e3 : IntKind.i64.wrap (s[j].toNat : Int) = s[j].toNat := wrap_in _ (by omega) (by omega)
  have HB2 : Hid (bitI s i = (s[j].toNat : Int) / (2 ^ (7 - i % 8) : Nat) % 2) := Lib.hid (by subst hjj; exact HB.out)
  have HT : (7 - (i : Int) % 8).toNat = 7 - i % 8 := by omega
  clear HB hj hjj
  go_enter Try.func182, Try.ntmps182
  go_wp2
  go_ret
  refine ⟨ret_int ?_, rfl⟩
  rw [HB2.out, and1]
  simp
def keyW (s : ByteArray) (b : Int) : Int := if s.size = 16 ∧ 0 ≤ b ∧ b ≤ 96 then kwN s b.toNat 32 else -1
set_option maxHeartbeats 2000000 in
set_option maxRecDepth 100000 in
theorem spec_keyw (s : ByteArray) (b : Int) (w : World) (hs : s.size ≤ 4194304) (hb : -9223372036854775808 ≤ b ∧ b ≤ 9223372036854775807) :
    Calls Try.prog 183 #[.string s, .int .i64 b] w fun r w' => r = .returned (.int .i64 (keyW s b)) ∧ w = w' := by
  by_cases h16 : s.size = 16
  case neg =>
    have h16' : ¬ (s.size : Int) = 16 := by omega
    rw [show keyW s b = -1 from if_neg (fun hh => h16 hh.1)]
    go_enter Try.func183, Try.ntmps183
    go_wp2
    go_ret
    exact ⟨rfl, rfl⟩
  have h16' : (s.size : Int) = 16 := by omega
  by_cases hr : 0 ≤ b ∧ b ≤ 96
  case neg =>
    rw [show keyW s b = -1 from if_neg (fun hh => hr hh.2)]
    have Y := Lib.hid fun W => spec_in_no b 0 96 W hr
    go_enter Try.func183, Try.ntmps183
    go_wp2_with (go_at_call 82; refine (Y.out _).mono ?_; rintro e w' ⟨rfl, rfl⟩)
    go_ret
    exact ⟨rfl, rfl⟩
  rw [show keyW s b = kwN s b.toNat 32 from if_pos ⟨h16, hr⟩]
  have Y := Lib.hid fun W => spec_in_yes b 0 96 W hr
  obtain ⟨n, rfl⟩ : ∃ n : Nat, b = n := ⟨b.toNat, by omega⟩
  have hn : n ≤ 96 := by omega
  rw [Int.toNat_natCast]
  go_enter Try.func183, Try.ntmps183
  go_wp2_with (go_at_call 82; refine (Y.out _).mono ?_; rintro e w' ⟨rfl, rfl⟩)
  go_loop [5, 6] (fun x i => ∃ k : Nat, k ≤ 32 ∧ i = .int .i64 k ∧ ∃ v : Int, x = .int .i64 v ∧ Hid (v = kwN s n k) ∧ 0 ≤ v ∧ v ≤ 4294967295 ∧ (k < 32 → v ≤ 2147483647)) (fun _ i => 33 - (intOf i).toNat)
  case atStart => exact ⟨0, by omega, rfl, 0, rfl, Lib.hid rfl, by omega, by omega, fun _ => by omega⟩
  case round =>
    obtain ⟨k, hk, rfl, v, rfl, HV, v0, v1, v2⟩ := hrel
    by_cases hlt : k < 32
    · have hv := v2 hlt
      clear v2
      have HC := Lib.hid fun W => spec_bit s (n + k) W hs (by omega)
      have hc : ((n + k : Nat) : Int) = (n : Int) + (k : Int) := by omega
      rw [hc] at HC
      obtain ⟨c, HCe, hcb⟩ : ∃ c, Hid (c = bitI s (n + k)) ∧ (0 ≤ c ∧ c ≤ 1) := ⟨_, Lib.hid rfl, bitI_bd s (n + k)⟩
      rw [← HCe.out] at HC
      have HN : Hid (2 * v + c = kwN s n (k + 1)) := Lib.hid (by simp only [kwN]; rw [HV.out, HCe.out])
      have HBD := Lib.hid (kwN_bd s n (k + 1))
      go_wp2_with (go_at_call 182; refine (HC.out _).mono ?_; rintro e w' ⟨rfl, rfl⟩)
      go_round
      case rel =>
        refine ⟨k + 1, by omega, by go_num, _, rfl, HN, by omega, by omega, fun h => ?_⟩
        have := HBD.out
        rw [← HN.out] at this
        have hp : (2 : Nat) ^ (k + 1) ≤ 2 ^ 31 := Nat.pow_le_pow_right (by decide) (by omega)
        omega
      case measure => simp [intOf]; omega
    · obtain rfl : k = 32 := by omega
      go_wp2
      go_ret
      exact ⟨ret_int HV.out, rfl⟩
theorem five_bytes (s : ByteArray) (j i : Nat) (hi : i < 5) (h : j + i < s.size) : byteI ((s ++ (⟨#[0]⟩ : ByteArray)).extract j (j + 5)) i = byteI s (j + i) := by
  have hl : s.data.toList.length = s.size := by simp
  unfold byteI
  rw [ByteArray.data_extract, Array.toList_extract, List.extract_eq_take_drop, Nat.add_sub_cancel_left, List.getD_eq_getElem?_getD, List.getElem?_take_of_lt hi, List.getElem?_drop, ByteArray.data_append, Array.toList_append,
    List.getElem?_append_left (by omega), List.getD_eq_getElem?_getD]
theorem window_five (s F : ByteArray) (n j : Nat) (hj : j = n / 8) (hn : n ≤ 96) (h16 : s.size = 16) (hF : F = (s ++ (⟨#[0]⟩ : ByteArray)).extract j (j + 5)) (hz : F.size = 5) (G : Int) (hG : G = get32 F 0) :
    (G * 256 + byteI F 4) / (2 ^ (8 - n % 8) : Nat) % 4294967296 = kwN s n 32 := by
  have e0 : byteI F 0 = byteI s (n / 8) := by rw [hF, five_bytes s j 0 (by omega) (by omega), hj]; rfl
  have e1 : byteI F 1 = byteI s (n / 8 + 1) := by rw [hF, five_bytes s j 1 (by omega) (by omega), hj]
  have e2 : byteI F 2 = byteI s (n / 8 + 2) := by rw [hF, five_bytes s j 2 (by omega) (by omega), hj]
  have e3 : byteI F 3 = byteI s (n / 8 + 3) := by rw [hF, five_bytes s j 3 (by omega) (by omega), hj]
  have e4 : n % 8 ≠ 0 → byteI F 4 = byteI s (n / 8 + 4) := fun h => by rw [hF, five_bytes s j 4 (by omega) (by omega), hj]
  have d0 := byteI_bd F 0
  have d1 := byteI_bd F 1
  have d2 := byteI_bd F 2
  have d3 := byteI_bd F 3
  have d4 := byteI_bd F 4
  have hg := get32_in F 0 (by omega)
  obtain ⟨B0, hB0⟩ : ∃ B : Nat, byteI F 0 = B := ⟨(byteI F 0).toNat, by omega⟩
  obtain ⟨B1, hB1⟩ : ∃ B : Nat, byteI F 1 = B := ⟨(byteI F 1).toNat, by omega⟩
  obtain ⟨B2, hB2⟩ : ∃ B : Nat, byteI F 2 = B := ⟨(byteI F 2).toNat, by omega⟩
  obtain ⟨B3, hB3⟩ : ∃ B : Nat, byteI F 3 = B := ⟨(byteI F 3).toNat, by omega⟩
  obtain ⟨B4, hB4⟩ : ∃ B : Nat, byteI F 4 = B := ⟨(byteI F 4).toNat, by omega⟩
  have hk := kwN_five s n B0 B1 B2 B3 B4 (by omega) (by omega) (by omega) (by omega) (by omega) (e0.symm.trans hB0) (e1.symm.trans hB1) (e2.symm.trans hB2) (e3.symm.trans hB3) (fun h => (e4 h).symm.trans hB4) 32 (by omega)
  rw [hk, show 40 - (n % 8 + 32) = 8 - n % 8 by omega]
  have hN : G * 256 + byteI F 4 = ((five B0 B1 B2 B3 B4 : Nat) : Int) := by
    unfold five
    simp only [Nat.zero_add] at hg
    rw [show ((0 : Nat) : Int) = 0 from rfl] at hg
    rw [hG, hg, hB0, hB1, hB2, hB3, hB4]
    omega
  rw [hN]
  simp
set_option maxHeartbeats 2000000 in
set_option maxRecDepth 100000 in
theorem impl_keyw (s : ByteArray) (b : Int) (w : World) (hs : s.size ≤ 4194304) (hb : -9223372036854775808 ≤ b ∧ b ≤ 9223372036854775807) :
    Calls Try.prog 188 #[.string s, .int .i64 b] w fun r w' => r = .returned (.int .i64 (keyW s b)) ∧ Below w.heap.size w w' := by
  by_cases h16 : s.size = 16
  case neg =>
    have h16' : ¬ (s.size : Int) = 16 := by omega
    rw [show keyW s b = -1 from if_neg (fun hh => h16 hh.1)]
    go_enter Try.func188, Try.ntmps188
    go_wp2
    go_ret
    exact ⟨rfl, Below.refl _ _⟩
  have h16' : (s.size : Int) = 16 := by omega
  by_cases hr : 0 ≤ b ∧ b ≤ 96
  case neg =>
    rw [show keyW s b = -1 from if_neg (fun hh => hr hh.2)]
    have Y := Lib.hid fun W => impl_in_no b 0 96 W hr
    go_enter Try.func188, Try.ntmps188
    go_wp2_with (go_at_call 86; refine (Y.out _).mono ?_; rintro e w' ⟨rfl, rfl⟩)
    go_ret
    exact ⟨rfl, Below.refl _ _⟩
  have Y := Lib.hid fun W => impl_in_yes b 0 96 W hr
  obtain ⟨n, rfl⟩ : ∃ n : Nat, b = n := ⟨b.toNat, by omega⟩
  have hn : n ≤ 96 := by omega
  obtain ⟨j, hj⟩ : ∃ j, j = n / 8 := ⟨_, rfl⟩
  have e1 : Int.tdiv (n : Int) 8 = (j : Int) := by rw [Int.tdiv_eq_ediv_of_nonneg (by omega)]; omega
  have e1' : (n : Int) / 8 = (j : Int) := by omega
  have e2 : Int.tmod (n : Int) 8 = (n : Int) % 8 := Int.tmod_eq_emod_of_nonneg (by omega)
  have hj12 : j ≤ 12 := by omega
  obtain ⟨F, HF⟩ : ∃ F, Hid (F = (s ++ (⟨#[0]⟩ : ByteArray)).extract j (j + 5)) := ⟨_, Lib.hid rfl⟩
  have hz : (s ++ (⟨#[0]⟩ : ByteArray)).size = 17 := by rw [ByteArray.size_append, h16]; rfl
  have hF : F.size = 5 := by rw [HF.out, ByteArray.size_extract, hz]; omega
  have HJ := Lib.hid hj
  clear hj
  have c0 : (0 : Int) ≤ (j : Int) := by omega
  have c1 : (j : Int) ≤ (j : Int) + 5 := by omega
  have c2 : (j : Int) + 5 ≤ ((s ++ (⟨#[0]⟩ : ByteArray)).size : Int) := by rw [hz]; omega
  have c3 : (j : Int) + 5 ≤ 17 := by omega
  have e5 : ((j : Int) + 5).toNat = j + 5 := by omega
  have c4 : j + 5 ≤ 17 := by omega
  go_enter Try.func188, Try.ntmps188
  go_upto_region 5 with (go_at_call 86; refine (Y.out _).mono ?_; rintro e w' ⟨rfl, rfl⟩)
  rw [← HF.out]
  have HW := Lib.hid (window_five s F n j HJ.out hn h16 HF.out hF)
  clear c0 c1 c2 c3 c4 e5 hz e1 e1' hj12
  have d0 := byteI_bd F 0
  have d1 := byteI_bd F 1
  have d2 := byteI_bd F 2
  have d3 := byteI_bd F 3
  have hg := get32_in F 0 (by omega)
  obtain ⟨G, HG, hG⟩ : ∃ G, Hid (G = get32 F 0) ∧ 0 ≤ G ∧ G ≤ 4294967295 := ⟨_, Lib.hid rfl, by
    rw [show ((0 : Nat) : Int) = 0 from rfl] at hg
    rw [hg]; simp only [Nat.zero_add]; omega⟩
  clear hg d0 d1 d2 d3
  have HC := Lib.hid fun W => impl_get32_any F 0 W (by rw [hF]; decide) (by decide)
  rw [← HG.out] at HC
  have h4 : 4 < F.size := by omega
  have c4 : (4 : Int) < (F.size : Int) := by omega
  have HB4 : Hid (byteI F 4 = (F[4].toNat : Int)) := Lib.hid (byteI_at F 4 h4)
  have b4 : F[4].toNat < 256 := UInt8.toNat_lt _
  have ew : IntKind.i64.wrap (F[4].toNat : Int) = F[4].toNat := wrap_in _ (by omega) (by omega)
  have es : IntKind.i64.wrap (G * 256) = G * 256 := wrap_in _ (by omega) (by omega)
  have eo : bits .or .i64 (G * 256) (F[4].toNat : Int) = G * 256 + F[4].toNat := by
    obtain ⟨m, rfl⟩ : ∃ m : Nat, G = m := ⟨G.toNat, by omega⟩
    have h := or64_shift m F[4].toNat 8 (by omega) (by omega)
    simpa using h
  have ek8 : IntKind.i64.wrap (8 - (n : Int) % 8) = 8 - (n : Int) % 8 := wrap_in _ (by omega) (by omega)
  obtain ⟨R, HR⟩ : ∃ R : Int, Hid (R = kwN s n 32) := ⟨_, Lib.hid rfl⟩
  have ea : bits .and .i64 ((G * (256 : Int) + (F[4].toNat : Int)) / (2 : Int) ^ (8 - (n : Int) % 8).toNat) 4294967295 = R := by
    rw [HR.out, ← HW.out G HG.out, HB4.out, show (8 - (n : Int) % 8).toNat = 8 - n % 8 by omega]
    have ha := and_low ((G * 256 + (F[4].toNat : Int)) / (2 ^ (8 - n % 8) : Nat)) 32 (by decide)
    simpa using ha
  -- REGION
  obtain ⟨V, hV⟩ : ∃ V, Hid (V = Vals [.string F, .int .i64 G, .int .i64 (G * 256), .string F, .int .u8 (F[4].toNat : Int), .int .i64 (F[4].toNat : Int), .int .i64 (G * 256 + (F[4].toNat : Int)), .int .i64 n, .int .i64 ((n : Int) % 8), .int .i64 (8 - (n : Int) % 8), .int .i64 ((G * 256 + (F[4].toNat : Int)) / 2 ^ (8 - (n : Int) % 8).toNat), .int .i64 R, .int .i64 R] []) := ⟨_, Lib.hid rfl⟩
  refine wp_region_valuesG (by kernel_rfl) (fun W => Below w.heap.size w W) V
    35 rfl (by kernel_rfl) (by kernel_rfl) below_drew (eachOp_all ?_) ?_
  · refine ⟨?_, ?_, ?_, ?_, ?_, ?_, ?_, ?_, ?_, ?_, ?_, ?_, ?_, trivial⟩
    · intro a W hd hS hdep hfree
      have x6 : a.tmps.getD 6 undef = .string F := hfree 6 (by kernel_rfl)
      clear hd hdep hfree
      refine .inl ⟨wanted_free rfl, ?_⟩
      simp only [Oper.wp, execOp]
      go_simp
      refine Nxt.mk _ rfl (fun _ _ => ?_) hS (fun _ _ h => h)
      (rw [hV.out]; rfl)
    · intro a W hd hS hdep hfree
      have x23 : a.tmps.getD 23 undef = .string F := by have h := hdep 0 23 (by kernel_rfl) rfl; rw [hV.out] at h; exact h
      clear hd hdep hfree
      refine .inl ⟨wanted_free rfl, ?_⟩
      simp only [Oper.wp, execOp]
      go_simp
      refine (HC.out W).mono ?_
      rintro e W' ⟨rfl, hb⟩
      exact Nxt.mk _ rfl (fun _ _ => by (rw [hV.out]; rfl)) (below_comp hS hb) (fun j u h => by rw [hV.out] at h ⊢; exact Vals.below hb j u h)
    · intro a W hd hS hdep hfree
      have x24 : a.tmps.getD 24 undef = .int .i64 G := by have h := hdep 1 24 (by kernel_rfl) rfl; rw [hV.out] at h; exact h
      clear hd hdep hfree
      refine .inl ⟨wanted_free rfl, ?_⟩
      simp only [Oper.wp, execOp]
      go_simp
      refine Nxt.mk _ rfl (fun _ _ => ?_) hS (fun _ _ h => h)
      (rw [hV.out]; rfl)
    · intro a W hd hS hdep hfree
      have x6 : a.tmps.getD 6 undef = .string F := hfree 6 (by kernel_rfl)
      clear hd hdep hfree
      refine .inl ⟨wanted_free rfl, ?_⟩
      simp only [Oper.wp, execOp]
      go_simp
      refine Nxt.mk _ rfl (fun _ _ => ?_) hS (fun _ _ h => h)
      (rw [hV.out]; rfl)
    · intro a W hd hS hdep hfree
      have x26 : a.tmps.getD 26 undef = .string F := by have h := hdep 3 26 (by kernel_rfl) rfl; rw [hV.out] at h; exact h
      clear hd hdep hfree
      refine .inl ⟨wanted_free rfl, ?_⟩
      simp only [Oper.wp, execOp]
      go_simp
      refine Nxt.mk _ rfl (fun _ _ => ?_) hS (fun _ _ h => h)
      (rw [hV.out]; rfl)
    · intro a W hd hS hdep hfree
      have x27 : a.tmps.getD 27 undef = .int .u8 (F[4].toNat : Int) := by have h := hdep 4 27 (by kernel_rfl) rfl; rw [hV.out] at h; exact h
      clear hd hdep hfree
      refine .inl ⟨wanted_free rfl, ?_⟩
      simp only [Oper.wp, execOp]
      go_simp
      refine Nxt.mk _ rfl (fun _ _ => ?_) hS (fun _ _ h => h)
      (rw [hV.out]; rfl)
    · intro a W hd hS hdep hfree
      have x25 : a.tmps.getD 25 undef = .int .i64 (G * 256) := by have h := hdep 2 25 (by kernel_rfl) rfl; rw [hV.out] at h; exact h
      have x28 : a.tmps.getD 28 undef = .int .i64 (F[4].toNat : Int) := by have h := hdep 5 28 (by kernel_rfl) rfl; rw [hV.out] at h; exact h
      clear hd hdep hfree
      refine .inl ⟨wanted_free rfl, ?_⟩
      simp only [Oper.wp, execOp]
      go_simp
      refine Nxt.mk _ rfl (fun _ _ => ?_) hS (fun _ _ h => h)
      (rw [hV.out]; rfl)
    · intro a W hd hS hdep hfree
      have x1 : a.tmps.getD 1 undef = .int .i64 n := hfree 1 (by kernel_rfl)
      clear hd hdep hfree
      refine .inl ⟨wanted_free rfl, ?_⟩
      simp only [Oper.wp, execOp]
      go_simp
      refine Nxt.mk _ rfl (fun _ _ => ?_) hS (fun _ _ h => h)
      (rw [hV.out]; rfl)
    · intro a W hd hS hdep hfree
      have x30 : a.tmps.getD 30 undef = .int .i64 n := by have h := hdep 7 30 (by kernel_rfl) rfl; rw [hV.out] at h; exact h
      clear hd hdep hfree
      refine .inl ⟨wanted_free rfl, ?_⟩
      simp only [Oper.wp, execOp]
      go_simp
      refine Nxt.mk _ rfl (fun _ _ => ?_) hS (fun _ _ h => h)
      (rw [hV.out]; rfl)
    · intro a W hd hS hdep hfree
      have x31 : a.tmps.getD 31 undef = .int .i64 ((n : Int) % 8) := by have h := hdep 8 31 (by kernel_rfl) rfl; rw [hV.out] at h; exact h
      clear hd hdep hfree
      refine .inl ⟨wanted_free rfl, ?_⟩
      have k := ek8
      simp only [Oper.wp, execOp]
      go_simp
      refine Nxt.mk _ rfl (fun _ _ => ?_) hS (fun _ _ h => h)
      first | (rw [hV.out]; rfl) | (rw [k]; (rw [hV.out]; rfl))
    · intro a W hd hS hdep hfree
      have x29 : a.tmps.getD 29 undef = .int .i64 (G * 256 + (F[4].toNat : Int)) := by have h := hdep 6 29 (by kernel_rfl) rfl; rw [hV.out] at h; exact h
      have x32 : a.tmps.getD 32 undef = .int .i64 (8 - (n : Int) % 8) := by have h := hdep 9 32 (by kernel_rfl) rfl; rw [hV.out] at h; exact h
      clear hd hdep hfree
      refine .inl ⟨wanted_free rfl, ?_⟩
      simp only [Oper.wp, execOp]
      go_simp
      refine Nxt.mk _ rfl (fun _ _ => ?_) hS (fun _ _ h => h)
      (rw [hV.out]; rfl)
    · intro a W hd hS hdep hfree
      have x33 : a.tmps.getD 33 undef = .int .i64 ((G * 256 + (F[4].toNat : Int)) / 2 ^ (8 - (n : Int) % 8).toNat) := by have h := hdep 10 33 (by kernel_rfl) rfl; rw [hV.out] at h; exact h
      clear hd hdep hfree
      refine .inl ⟨wanted_free rfl, ?_⟩
      have k := ea
      simp only [Oper.wp, execOp]
      go_simp
      refine Nxt.mk _ rfl (fun _ _ => ?_) hS (fun _ _ h => h)
      first | (rw [hV.out]; rfl) | (rw [k]; (rw [hV.out]; rfl))
    · intro a W hd hS hdep hfree
      have x34 : a.tmps.getD 34 undef = .int .i64 R := by have h := hdep 11 34 (by kernel_rfl) rfl; rw [hV.out] at h; exact h
      clear hd hdep hfree
      refine .inl ⟨wanted_free rfl, ?_⟩
      simp only [Oper.wp, execOp]
      go_simp
      refine Nxt.mk _ rfl (fun _ _ => ?_) hS (fun _ _ h => h)
      (rw [hV.out]; rfl)
  intro a W2 hs hd hS2 hdone hrest
  have ea := written_all [.string F, .int .i64 G, .int .i64 (G * 256), .string F, .int .u8 (F[4].toNat : Int), .int .i64 (F[4].toNat : Int), .int .i64 (G * 256 + (F[4].toNat : Int)), .int .i64 n, .int .i64 ((n : Int) % 8), .int .i64 (8 - (n : Int) % 8), .int .i64 ((G * 256 + (F[4].toNat : Int)) / 2 ^ (8 - (n : Int) % 8).toNat), .int .i64 R, .int .i64 R] rfl hs hd hrest (fun j d hj => by have h := hdone j d hj; rw [hV.out] at h; exact h)
  clear hs hd hdone hrest hV V
  subst ea
  simp only [written, List.append_eq, Array.toList_append, List.append_toArray, List.map_append, List.cons_append, List.nil_append, List.map_cons, List.map_nil, List.zip_cons_cons, List.zip_nil_right, putAll]
  simp only [Exit.then, Act.put, List.setIfInBounds_toArray, List.set_cons_zero, List.set_cons_succ]
  go_wp2
  go_ret
  exact ⟨ret_int (HR.out.trans ((if_pos ⟨h16, hr⟩ : keyW s n = kwN s (n : Int).toNat 32).trans (by rw [Int.toNat_natCast])).symm), hS2⟩
theorem spec_keyw_any (s : ByteArray) (b : Int) (w : World) (hs : s.size ≤ 4194304) (hb : -9223372036854775808 ≤ b ∧ b ≤ 9223372036854775807) :
    Calls Try.prog 183 #[.string s, .int .i64 b] w fun r w' => r = .returned (.int .i64 (keyW s b)) ∧ Below w.heap.size w w' :=
  (spec_keyw s b w hs hb).mono fun _ _ hh => ⟨hh.1, hh.2 ▸ Below.refl _ _⟩
end Go.Proofs.Ytogiocinhjbdkaa
