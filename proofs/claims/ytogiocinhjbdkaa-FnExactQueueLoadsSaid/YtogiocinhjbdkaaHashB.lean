/- HashBytes of both sides. -/
import Derived.Test.YtogiocinhjbdkaaKeyB
import Derived.Test.YtogiocinhjbdkaaEthMath
import Derived.Laws.Tables
import Derived.Laws.CopyOwn
import Derived.RegionTactic
import Derived.Laws.Rows
namespace Go.Proofs.Ytogiocinhjbdkaa
open Go.RowKit
set_option linter.unusedSimpArgs false
set_option linter.unusedVariables false
def hN (key s : ByteArray) : Nat → Int
  | 0 => 0
  | n + 1 => if bitI s n = 1 then bits .xor .i64 (hN key s n) (keyW key n) else hN key s n
def hashV (key s : ByteArray) : Int := if key.size = 16 ∧ s.size ≤ 12 then hN key s (8 * s.size) else -1
set_option maxHeartbeats 2000000 in
set_option maxRecDepth 100000 in
theorem spec_hash (key s : ByteArray) (w : World) (hk : key.size ≤ 4194304) (hs : s.size ≤ 4194304) :
    Calls Try.prog 178 #[.string key, .string s] w fun r w' => r = .returned (.int .i64 (hashV key s)) ∧ Below w.heap.size w w' := by
  by_cases h16 : key.size = 16
  case neg =>
    have h16' : ¬ (key.size : Int) = 16 := by omega
    rw [show hashV key s = -1 from if_neg (fun hh => h16 hh.1)]
    go_enter Try.func178, Try.ntmps178
    go_wp2
    go_ret
    exact ⟨rfl, Below.refl _ _⟩
  have h16' : (key.size : Int) = 16 := by omega
  by_cases h12 : s.size ≤ 12
  case neg =>
    have h12' : (12 : Int) < (s.size : Int) := by omega
    rw [show hashV key s = -1 from if_neg (fun hh => h12 hh.2)]
    go_enter Try.func178, Try.ntmps178
    go_wp2
    go_ret
    exact ⟨rfl, Below.refl _ _⟩
  have h12' : ¬ (12 : Int) < (s.size : Int) := by omega
  rw [show hashV key s = hN key s (8 * s.size) from if_pos ⟨h16, h12⟩]
  go_enter Try.func178, Try.ntmps178
  go_wp2
  go_loop [5, 6] (fun x i => ∃ k : Nat, k ≤ 8 * s.size ∧ i = .int .i64 k ∧ ∃ v : Int, x = .int .i64 v ∧ Hid (v = hN key s k)) (fun _ i => 100 - (intOf i).toNat)
  case atStart => exact ⟨0, by omega, rfl, 0, rfl, Lib.hid rfl⟩
  case round =>
    obtain ⟨k, hkk, rfl, v, rfl, HV⟩ := hrel
    by_cases hlt : k < 8 * s.size
    · have hlt' : (k : Int) < 8 * (s.size : Int) := by omega
      have HK := Lib.hid fun W => spec_keyw key k W hk (by omega)
      have HC := Lib.hid fun W => spec_bit s k W hs hlt
      obtain ⟨kw, HKW⟩ : ∃ kw, Hid (kw = keyW key k) := ⟨_, Lib.hid rfl⟩
      rw [← HKW.out] at HK
      by_cases hbit : bitI s k = 1
      · rw [hbit] at HC
        have HN : Hid (bits .xor .i64 v kw = hN key s (k + 1)) := Lib.hid (by simp only [hN]; rw [if_pos hbit, HV.out, HKW.out])
        clear hbit
        go_wp2_with (first
          | (go_at_call 182; refine (HC.out _).mono ?_; rintro e w' ⟨rfl, rfl⟩)
          | (go_at_call 183; refine (HK.out _).mono ?_; rintro e w' ⟨rfl, rfl⟩))
        go_round
        case rel => exact ⟨k + 1, by omega, by go_num, _, rfl, HN⟩
        case measure => simp [intOf]; omega
      · have hb0 : bitI s k = 0 := by have := bitI_bd s k; omega
        rw [hb0] at HC
        have HN : Hid (v = hN key s (k + 1)) := Lib.hid (by simp only [hN]; rw [if_neg hbit, HV.out])
        clear hbit hb0
        go_wp2_with (go_at_call 182; refine (HC.out _).mono ?_; rintro e w' ⟨rfl, rfl⟩)
        go_round
        case rel => exact ⟨k + 1, by omega, by go_num, _, rfl, HN⟩
        case measure => simp [intOf]; omega
    · obtain rfl : k = 8 * s.size := by omega
      have hlt' : ¬ ((8 * s.size : Nat) : Int) < 8 * (s.size : Int) := by omega
      have HE : Hid (v = hN key s (8 * s.size)) := HV
      go_wp2
      go_ret
      exact ⟨ret_int HE.out, Below.refl _ _⟩
set_option maxHeartbeats 2000000 in
set_option maxRecDepth 100000 in
theorem impl_visit (key : ByteArray) (i : Nat) (h : Int) (w0 W : World) (B gh gk : Nat) (hk : key.size ≤ 4194304) (hi : i ≤ 96) (hB : B ≤ gh) (hne : gh ≠ gk) (HB : Below B w0 W)
    (Hh : Box W gh #[.int .i64 h] 3) (Hk : Box W gk #[.string key] 9) (hgh : gh < W.heap.size) (hgk : gk < W.heap.size) :
    Calls Try.prog 187 #[.int .i64 i, .pointer (some ⟨gh, 0, none⟩), .pointer (some ⟨gk, 0, none⟩)] W fun r W' => r = .returned (.tuple #[]) ∧ Below B w0 W' ∧ Box W' gh #[.int .i64 (bits .xor .i64 h (keyW key i))] 3 ∧ Box W' gk #[.string key] 9 ∧ W.heap.size ≤ W'.heap.size := by
  have HC := Lib.hid fun W => impl_keyw key i W hk (by omega)
  obtain ⟨kw, HKW⟩ : ∃ kw, Hid (kw = keyW key i) := ⟨_, Lib.hid rfl⟩
  rw [← HKW.out] at HC ⊢
  have c1 : W.cell? ⟨gh, 0, none⟩ = some (.int .i64 h) := Hh.cell 0 (by simp)
  have c2 : W.cell? ⟨gk, 0, none⟩ = some (.string key) := Hk.cell 0 (by simp)
  go_enter Try.func187, Try.ntmps187
  have f1 : W.frozen? ⟨gh, 0, none⟩ = false := frozen_of_row W gh 0 _ _ Hh
  go_wp2_with fail
  go_region_with (go_at_call 188; refine (HC.out _).mono ?_; rintro e w1 ⟨rfl, hb1⟩; obtain ⟨hc, hf, hsz⟩ := bcell hb1; (have c3 : w1.cell? ⟨gh, 0, none⟩ = some (.int .i64 h) := by rw [hc gh 0 (by simpa using hgh)]; simpa using c1); (have f3 : w1.frozen? ⟨gh, 0, none⟩ = false := by rw [hf gh 0 (by simpa using hgh)]; simpa using f1))
  all_goals
    have hB1 : Box w1 gh #[.int .i64 h] 3 := (show Box W.drew gh _ _ from Hh).below hb1 (by simpa using hgh)
    have hB2 : Box w1 gk #[.string key] 9 := (show Box W.drew gk _ _ from Hk).below hb1 (by simpa using hgk)
    have hz1 := hb1.size
    have hW1 : Below B w0 w1 := HB.drew.trans (hb1.mono (by simp; omega))
    have e1 := setCell_eq_setRow w1 gh 0 #[.int .i64 h] 3 (0, 0) (.int .i64 (bits .xor .i64 h kw)) hB1
    rw [e1]
    refine bodyPost_end (v := .tuple #[]) (by simp [results, Try.results187, go_sem]) rfl ⟨rfl, below_setRow hW1 hB _, ?_, ?_, ?_⟩
    · exact setRow_heap w1 gh _ _ _ (0, 0) hB1
    · show (w1.setRow gh _).heap[gk]? = _
      rw [setRow_other w1 gh gk _ (Ne.symm hne)]
      exact hB2
    · simp [World.setRow] at hz1 ⊢; omega
theorem and_u8_1 (x : Int) (h : 0 ≤ x ∧ x < 256) : bits .and .u8 x 1 = x % 2 := by
  obtain ⟨m, rfl⟩ : ∃ m : Nat, x = m := ⟨x.toNat, by omega⟩
  have hm : m < 256 := by omega
  have hall : ∀ k : Fin 256, bits .and .u8 ((k.val : Nat) : Int) 1 = ((k.val : Nat) : Int) % 2 := by decide +kernel
  exact hall ⟨m, hm⟩
set_option maxHeartbeats 2000000 in
set_option maxRecDepth 100000 in
theorem impl_each (key s : ByteArray) (w0 W : World) (B gh gk : Nat) (hk : key.size ≤ 4194304) (hs : s.size ≤ 12) (hB : B ≤ gh) (hne : gh ≠ gk) (HB : Below B w0 W)
    (Hh : Box W gh #[.int .i64 0] 3) (Hk : Box W gk #[.string key] 9) (hgh : gh < W.heap.size) (hgk : gk < W.heap.size) :
    Calls Try.prog 186 #[.string s, .func (.func 187) #[] #[.pointer (some ⟨gh, 0, none⟩), .pointer (some ⟨gk, 0, none⟩)]] W fun r W' => r = .returned (.tuple #[]) ∧ Below B w0 W' ∧ Box W' gh #[.int .i64 (hN key s (8 * s.size))] 3 := by
  have HB0 := Lib.hid HB
  have Hh0 := Lib.hid Hh
  have Hk0 := Lib.hid Hk
  clear HB Hh Hk
  go_enter Try.func186, Try.ntmps186
  go_wp2
  go_loopw [8] (fun i wr => ∃ k : Nat, k ≤ 8 * s.size ∧ i = .int .i64 k ∧ Hid (Below B w0 wr) ∧ Hid (Box wr gh #[.int .i64 (hN key s k)] 3) ∧ Hid (Box wr gk #[.string key] 9) ∧ gh < wr.heap.size ∧ gk < wr.heap.size) (fun i _ => 100 - (intOf i).toNat)
  case atStart => exact ⟨0, by omega, rfl, HB0, Hh0, Hk0, hgh, hgk⟩
  case round =>
    clear HB0 Hh0 Hk0 hgh hgk
    obtain ⟨k, hkk, rfl, HB, Hh, Hk, hgh, hgk⟩ := hrel
    by_cases hlt : k < 8 * s.size
    · have hlt' : (k : Int) < 8 * (s.size : Int) := by omega
      obtain ⟨j, hjj⟩ : ∃ j, j = k / 8 := ⟨_, rfl⟩
      have e1 : Int.tdiv (k : Int) 8 = (j : Int) := by rw [Int.tdiv_eq_ediv_of_nonneg (by omega)]; omega
      have e1' : (k : Int) / 8 = (j : Int) := by omega
      have e2 : Int.tmod (k : Int) 8 = (k : Int) % 8 := Int.tmod_eq_emod_of_nonneg (by omega)
      have hj2 : j < s.size := by omega
      have c1 : (0 : Int) ≤ (j : Int) := by omega
      have c2 : (j : Int) < (s.size : Int) := by omega
      have b1 : s[j].toNat < 256 := UInt8.toNat_lt _
      have HT : (7 - (k : Int) % 8).toNat = 7 - k % 8 := by omega
      obtain ⟨X, HX, hX⟩ : ∃ X : Int, Hid (X = (s[j].toNat : Int) / 2 ^ (7 - k % 8)) ∧ (s[j].toNat : Int) / 2 ^ (7 - k % 8) = X := ⟨_, Lib.hid rfl, rfl⟩
      have HBIT : Hid (bitI s k = X % 2) := Lib.hid (by rw [HX.out]; unfold bitI; rw [← hjj, byteI_at s j hj2]; simp)
      have hX2 : 0 ≤ X ∧ X < 256 := by
        rw [HX.out]
        have hp : (0 : Int) < 2 ^ (7 - k % 8) := Int.pow_pos (by decide)
        refine ⟨Int.ediv_nonneg (by omega) (by omega), ?_⟩
        exact Int.lt_of_le_of_lt (Int.ediv_le_self _ (by omega)) (by omega)
      have ea := and_u8_1 X hX2
      have HV := Lib.hid (impl_visit key k (hN key s k))
      by_cases hbit : X % 2 = 1
      · have HN : Hid (bits .xor .i64 (hN key s k) (keyW key k) = hN key s (k + 1)) := Lib.hid (by simp only [hN]; rw [if_pos (HBIT.out.trans hbit)])
        have hv := fun (wq : World) (h : wq = wr) => HV.out w0 wq B gh gk hk (by omega) hB hne (h ▸ HB.out) (h ▸ Hh.out) (h ▸ Hk.out) (h ▸ hgh) (h ▸ hgk)
        have HV2 := Lib.hid (hv wr rfl)
        clear hv hjj
        go_wp2_with (go_at_call 187; refine HV2.out.mono ?_; rintro e w3 ⟨rfl, hb3, hh3, hk3, hz3⟩)
        go_roundw
        case rel => exact ⟨k + 1, by omega, by go_num, Lib.hid hb3, Lib.hid (by rw [← HN.out]; exact hh3), Lib.hid hk3, by omega, by omega⟩
        case measure => simp [intOf]; omega
      · have HN : Hid (hN key s k = hN key s (k + 1)) := Lib.hid (by simp only [hN]; rw [if_neg (fun h => hbit (HBIT.out.symm.trans h))])
        clear hjj
        go_wp2
        go_roundw
        case rel => exact ⟨k + 1, by omega, by go_num, HB, Lib.hid (by rw [← HN.out]; exact Hh.out), Hk, hgh, hgk⟩
        case measure => simp [intOf]; omega
    · obtain rfl : k = 8 * s.size := by omega
      have hlt' : ¬ ((8 * s.size : Nat) : Int) < 8 * (s.size : Int) := by omega
      go_wp2
      exact bodyPost_end (v := .tuple #[]) (by simp [results, Try.results186, go_sem]) rfl ⟨rfl, HB.out, Hh.out⟩
set_option maxHeartbeats 2000000 in
set_option maxRecDepth 100000 in
theorem impl_hash (key s : ByteArray) (w : World) (hk : key.size ≤ 4194304) (hs : s.size ≤ 4194304) :
    Calls Try.prog 180 #[.string key, .string s] w fun r w' => r = .returned (.int .i64 (hashV key s)) ∧ Below w.heap.size w w' := by
  by_cases h16 : key.size = 16
  case neg =>
    have h16' : ¬ (key.size : Int) = 16 := by omega
    rw [show hashV key s = -1 from if_neg (fun hh => h16 hh.1)]
    go_enter Try.func180, Try.ntmps180
    go_wp2
    go_ret
    exact ⟨rfl, below_new _⟩
  have h16' : (key.size : Int) = 16 := by omega
  by_cases h12 : s.size ≤ 12
  case neg =>
    have h12' : (12 : Int) < (s.size : Int) := by omega
    rw [show hashV key s = -1 from if_neg (fun hh => h12 hh.2)]
    go_enter Try.func180, Try.ntmps180
    go_wp2
    go_ret
    exact ⟨rfl, below_new _⟩
  have h12' : ¬ (12 : Int) < (s.size : Int) := by omega
  rw [show hashV key s = hN key s (8 * s.size) from if_pos ⟨h16, h12⟩]
  have HE := Lib.hid (impl_each key s w ((w.alloc (.cells #[.string key] 9)).alloc (.cells #[.int .i64 0] 3)) w.heap.size (w.heap.size + 1) w.heap.size hk h12 (by omega) (by omega) (below_comp (below_new _) (below_new _))
    (by have := Box.new (w.alloc (.cells #[.string key] 9)) #[.int .i64 0] 3; simpa using this)
    ((Box.new w #[.string key] 9).below (below_new _) (by simp)) (by simp) (by simp; omega))
  go_enter Try.func180, Try.ntmps180
  go_wp2_with (go_at_call 186; refine HE.out.mono ?_; rintro e w2 ⟨rfl, hb2, hh2⟩; (have c2 : w2.cell? ⟨w.heap.size + 1, 0, none⟩ = some (.int .i64 (hN key s (8 * s.size))) := hh2.cell 0 (by simp)))
  go_ret
  exact ⟨rfl, hb2⟩
end Go.Proofs.Ytogiocinhjbdkaa
