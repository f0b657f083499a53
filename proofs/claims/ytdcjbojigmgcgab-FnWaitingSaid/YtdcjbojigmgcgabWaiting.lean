/- Tokens can be spent after the time that WaitTicks tells, and not before: the law FnWaiting returns true for every input, and its argument reads as before. No condition. -/
import Derived.Test.YtdcjbojigmgcgabBuckB
import Derived.Test.YtdcjbojigmgcgabPacing
import Derived.Test.YtdcjbojigmgcgabAt
import Derived.OpenShut
import Derived.ShutString
import Derived.ChangeOld
namespace Go.Proofs.Ytdcjbojigmgcgab.fnWaiting
open Go.ChangeShapes Go.WideShapes Go.ChangeAt Go.RowKit
open Go.ChangeMaps (open_string shut_string)
set_option linter.unusedVariables false

theorem own : ownKnob Try.prog.godebug = none := by kernel_rfl
theorem laidOut : laidOutB Try.prog = true := by kernel_rfl

/-- What the law's checks see. -/
theorem pace_neg (e : BucketM) (n : Int) (h : Pace e) (hn : 0 ≤ n ∧ n ≤ 510) (ht : e.wait n < 0) : e.wait n = -1 ∧ ((e.refill 1000000).spend n).2 = false := by
  obtain ⟨hok, hb, hr⟩ := h
  have h1 := hok.1
  have h2 := hok.2.1
  have h3 := hok.2.2
  have hmul := mul_bd h1.1 h1.2 (show (0 : Int) ≤ 1000000 by decide) (Int.le_refl _)
  have hf : ∀ tok : Int, tok < n → ∀ e' : BucketM, e'.xTokens = tok → (e'.spend n).2 = false := fun tok hlt e' he => by
    unfold BucketM.spend; rw [if_neg (fun hh => by have := hh.2.2; omega)]
  have hre : e.refill 1000000 = ⟨e.xRate, e.xBurst, min (e.xTokens + e.xRate * 1000000) e.xBurst⟩ := if_pos ⟨hok, by decide, by decide⟩
  by_cases hin : n ≤ e.xBurst
  · rw [show e.wait n = (if n ≤ e.xTokens then 0 else if e.xRate = 0 then -1 else (n - e.xTokens + e.xRate - 1) / e.xRate) from if_pos ⟨hok, hn.1, hin⟩] at ht ⊢
    by_cases hle : n ≤ e.xTokens
    · rw [if_pos hle] at ht; omega
    rw [if_neg hle] at ht ⊢
    by_cases hr0 : e.xRate = 0
    · rw [if_pos hr0]
      refine ⟨rfl, hf _ ?_ _ rfl⟩
      rw [hre]; dsimp only; rw [hr0]; omega
    · rw [if_neg hr0] at ht
      have := Int.ediv_nonneg (show 0 ≤ n - e.xTokens + e.xRate - 1 by omega) h1.1
      omega
  · refine ⟨if_neg (fun hh => hin hh.2.2), hf _ ?_ _ rfl⟩
    rw [hre]; dsimp only; omega
theorem pace_pos (e : BucketM) (n : Int) (h : Pace e) (hn : 0 ≤ n ∧ n ≤ 510) (ht : 0 ≤ e.wait n) :
    e.wait n ≤ 1000000 ∧ ((e.refill (e.wait n)).spend n).2 = true ∧ ((e.refill (e.wait n)).spend n).1.Ok ∧ (0 < e.wait n → ((e.refill (e.wait n - 1)).spend n).2 = false) := by
  obtain ⟨hok, hb, hr⟩ := h
  have h1 := hok.1
  have h2 := hok.2.1
  have h3 := hok.2.2
  have hin : n ≤ e.xBurst := by
    by_cases h : n ≤ e.xBurst
    · exact h
    · rw [show e.wait n = -1 from if_neg (fun hh => h hh.2.2)] at ht; omega
  have key : ∀ t : Int, 0 ≤ t → t ≤ 1000000 → 0 ≤ e.xRate * t → n ≤ e.xTokens + e.xRate * t → ((e.refill t).spend n).2 = true ∧ ((e.refill t).spend n).1.Ok := fun t t0 t1 hm hge => by
    have hre : e.refill t = ⟨e.xRate, e.xBurst, min (e.xTokens + e.xRate * t) e.xBurst⟩ := if_pos ⟨hok, t0, t1⟩
    have hok2 : (e.refill t).Ok := by rw [hre]; unfold BucketM.Ok; dsimp only; omega
    have hsp : (e.refill t).spend n = (⟨(e.refill t).xRate, (e.refill t).xBurst, (e.refill t).xTokens - n⟩, true) := if_pos ⟨hok2, hn.1, by rw [hre]; dsimp only; omega⟩
    rw [hsp]
    refine ⟨rfl, ?_⟩
    rw [hre]; unfold BucketM.Ok; dsimp only; omega
  have low : ∀ t : Int, 0 ≤ t → t ≤ 1000000 → e.xTokens + e.xRate * t < n → ((e.refill t).spend n).2 = false := fun t t0 t1 hlt => by
    have hre : e.refill t = ⟨e.xRate, e.xBurst, min (e.xTokens + e.xRate * t) e.xBurst⟩ := if_pos ⟨hok, t0, t1⟩
    unfold BucketM.spend
    rw [if_neg (fun hh => by have h5 := hh.2.2; rw [hre] at h5; dsimp only at h5; omega)]
  have hw : e.wait n = (if n ≤ e.xTokens then 0 else if e.xRate = 0 then -1 else (n - e.xTokens + e.xRate - 1) / e.xRate) := if_pos ⟨hok, hn.1, hin⟩
  by_cases hle : n ≤ e.xTokens
  · rw [if_pos hle] at hw
    rw [hw]
    have hk := key 0 (by omega) (by omega) (by simp) (by simp; omega)
    exact ⟨by omega, hk.1, hk.2, fun h => by omega⟩
  rw [if_neg hle] at hw
  by_cases hr0 : e.xRate = 0
  · rw [if_pos hr0] at hw; omega
  rw [if_neg hr0] at hw
  generalize hT : (n - e.xTokens + e.xRate - 1) / e.xRate = T at hw
  rw [hw] at ht ⊢
  have hrp : 0 < e.xRate := by omega
  have m1 : e.xRate * T ≤ n - e.xTokens + e.xRate - 1 := hT ▸ Int.mul_ediv_self_le hr0
  have m2 : n - e.xTokens + e.xRate - 1 < e.xRate * T + e.xRate := hT ▸ Int.lt_mul_ediv_self_add hrp
  have m3 : e.xRate * (T - 1) = e.xRate * T - e.xRate := by rw [Int.mul_sub, Int.mul_one]
  have m4 : T ≤ e.xRate * T := by
    have := Int.mul_le_mul_of_nonneg_right (show (1 : Int) ≤ e.xRate by omega) ht
    omega
  have hk := key T ht (by omega) (by omega) (by omega)
  exact ⟨by omega, hk.1, hk.2, fun h => low (T - 1) (by omega) (by omega) (by omega)⟩
set_option linter.unusedSimpArgs false
set_option maxHeartbeats 4000000 in
set_option maxRecDepth 100000 in
theorem walk (w : World) (a0 : Option Addr) (len0 cap0 : Nat) (z0 : List Int) (h : IsRow .u8 w a0 len0 cap0 z0) :
    Calls Try.prog 10 #[.slice a0 len0 cap0] w fun e w' => e = .returned (.bool true) ∧ Below w.heap.size w w' := by
  by_cases hbig : len0 ≤ 1048576
  case neg =>
    go_enter Try.func10, Try.ntmps10
    go_wp2_with fail
    refine (big_yes _ _ _ _ (by omega)).mono ?_
    rintro e w' ⟨rfl, rfl⟩
    go_wp2
    go_ret
    exact ⟨rfl, Below.refl _ _⟩
  have HC := Lib.hid (Code.of_row h hbig)
  clear h
  go_enter Try.func10, Try.ntmps10
  go_wp2_with fail
  refine (big_no _ _ _ _ hbig).mono ?_
  rintro e w' ⟨rfl, rfl⟩
  go_wp2_with fail
  refine (draw_pacing a0 len0 cap0 _ HC.out).mono ?_
  rintro e w1 ⟨ra, bu, tk, v, hp, rfl, hb1⟩
  have HP := Lib.hid hp
  have HB1 := Lib.hid hb1
  have HC1 := Lib.hid ((HC.out.below hb1).below ((Below.refl w.heap.size w1).alloc (by have := hb1.size; omega) (.cells #[.int .i64 ra, .int .i64 bu, .int .i64 tk] 37)))
  clear hp hb1 HC
  go_wp2_with fail
  refine (at_any _ 0 a0 len0 cap0 _ HC1.out (by omega)).mono ?_
  rintro e w' ⟨x, ⟨x0, x1⟩, rfl, rfl⟩
  obtain ⟨n, hn⟩ : ∃ n, x * 2 = n := ⟨_, rfl⟩
  have hn0 : 0 ≤ n ∧ n ≤ 510 := by omega
  have HN := Lib.hid (pace_neg ⟨ra, bu, tk⟩ n HP.out hn0)
  have HQ := Lib.hid (pace_pos ⟨ra, bu, tk⟩ n HP.out hn0)
  have nb : -9223372036854775808 ≤ n ∧ n ≤ 9223372036854775807 := by omega
  have HW := Lib.hid fun W => impl_wait ⟨ra, bu, tk⟩ n W
  have HV := Lib.hid fun W => spec_wait ⟨ra, bu, tk⟩ n W
  obtain ⟨T, hT⟩ : ∃ T, BucketM.wait ⟨ra, bu, tk⟩ n = T := ⟨_, rfl⟩
  rw [hT] at HN HQ HW HV
  have HR0 := Lib.hid fun W => impl_refill ⟨ra, bu, tk⟩ 1000000 W
  have HR1 := Lib.hid fun W => impl_refill ⟨ra, bu, tk⟩ T W
  have HR2 := Lib.hid fun W => impl_refill ⟨ra, bu, tk⟩ (T - 1) W
  obtain ⟨⟨p1, p2, p3⟩, hp0⟩ : ∃ R, BucketM.refill ⟨ra, bu, tk⟩ 1000000 = R := ⟨_, rfl⟩
  obtain ⟨⟨q1, q2, q3⟩, hq0⟩ : ∃ R, BucketM.refill ⟨ra, bu, tk⟩ T = R := ⟨_, rfl⟩
  obtain ⟨⟨r1, r2, r3⟩, hr0⟩ : ∃ R, BucketM.refill ⟨ra, bu, tk⟩ (T - 1) = R := ⟨_, rfl⟩
  rw [hp0] at HR0 HN
  rw [hq0] at HR1 HQ
  rw [hr0] at HR2 HQ
  have HS0 := Lib.hid fun W => impl_spend ⟨p1, p2, p3⟩ n W nb
  have HS1 := Lib.hid fun W => impl_spend ⟨q1, q2, q3⟩ n W nb
  have HS2 := Lib.hid fun W => impl_spend ⟨r1, r2, r3⟩ n W nb
  obtain ⟨⟨u1, u2, u3⟩, U, hu⟩ : ∃ (a : BucketM) (b : Bool), BucketM.spend ⟨p1, p2, p3⟩ n = (a, b) := ⟨_, _, rfl⟩
  obtain ⟨⟨v1, v2, v3⟩, V, hv⟩ : ∃ (a : BucketM) (b : Bool), BucketM.spend ⟨q1, q2, q3⟩ n = (a, b) := ⟨_, _, rfl⟩
  obtain ⟨⟨y1, y2, y3⟩, Y, hy⟩ : ∃ (a : BucketM) (b : Bool), BucketM.spend ⟨r1, r2, r3⟩ n = (a, b) := ⟨_, _, rfl⟩
  rw [hu] at HS0 HN
  rw [hv] at HS1 HQ
  rw [hy] at HS2 HQ
  have HO := Lib.hid fun W => impl_bucketok ⟨v1, v2, v3⟩ W
  clear hT hp0 hq0 hr0 hu hv hy nb
  have hn2 : x * 2 = n := hn
  clear hn
  unfold BucketM.val at *
  dsimp only at *
  obtain ⟨n0, n1⟩ := hn0
  go_wp2_with fail
  try rw [hn2]
  clear hn2
  refine (HW.out _).mono ?_
  rintro e w2 ⟨rfl, hb2⟩
  have hz2 := hb2.size
  (try simp at hz2)
  (have hl0 : w1.heap.size < w2.heap.size := by omega)
  (apply with_box hb2 (g := w1.heap.size))
  (focus (repeat (first | (with_reducible exact HP0.out) | (with_reducible exact HP1.out) | (with_reducible exact HP2.out) | (with_reducible exact HP3.out) | (with_reducible exact HQ0.out) | (with_reducible exact HQ1.out) | (with_reducible exact HQ2.out) | (with_reducible exact HQ3.out) | (with_reducible apply Box.new) | (with_reducible apply Box.newAt; simp; done) | (with_reducible apply Box.set) | (with_reducible apply Box.skip; omega) | (with_reducible apply Box.alloc) | (with_reducible apply Box.drew) | (with_reducible apply Box.row) | (with_reducible apply Box.skipRow; omega))))
  intro hx0
  (try simp only [List.setIfInBounds_toArray, List.set_cons_zero, List.set_cons_succ] at hx0)
  have k0_0 := hx0.cell 0 (by simp)
  have k0_1 := hx0.cell 1 (by simp)
  have k0_2 := hx0.cell 2 (by simp)
  have fr0 := fun o => hx0.frozen o
  (try simp only [List.getElem_toArray, List.getElem_cons_zero, List.getElem_cons_succ] at k0_0)
  (try simp only [List.getElem_toArray, List.getElem_cons_zero, List.getElem_cons_succ] at k0_1)
  (try simp only [List.getElem_toArray, List.getElem_cons_zero, List.getElem_cons_succ] at k0_2)
  skip
  have HP0 := Lib.hid hx0
  clear hx0
  have HB2 := Lib.hid hb2
  clear hb2
  by_cases h0 : T < 0
  case pos =>
    obtain ⟨rfl, rfl⟩ := HN.out h0
    clear h0
    go_wp2_with fail
    refine (HR0.out _).mono ?_
    rintro e w3 ⟨rfl, hb3⟩
    have hz3 := hb3.size
    (try simp at hz3)
    (have hl0 : w1.heap.size < w3.heap.size := by omega)
    (apply with_box hb3 (g := w1.heap.size))
    (focus (repeat (first | (with_reducible exact HP0.out) | (with_reducible exact HP1.out) | (with_reducible exact HP2.out) | (with_reducible exact HP3.out) | (with_reducible exact HQ0.out) | (with_reducible exact HQ1.out) | (with_reducible exact HQ2.out) | (with_reducible exact HQ3.out) | (with_reducible apply Box.new) | (with_reducible apply Box.newAt; simp; done) | (with_reducible apply Box.set) | (with_reducible apply Box.skip; omega) | (with_reducible apply Box.alloc) | (with_reducible apply Box.drew) | (with_reducible apply Box.row) | (with_reducible apply Box.skipRow; omega))))
    intro hx0
    (try simp only [List.setIfInBounds_toArray, List.set_cons_zero, List.set_cons_succ] at hx0)
    have k0_0 := hx0.cell 0 (by simp)
    have k0_1 := hx0.cell 1 (by simp)
    have k0_2 := hx0.cell 2 (by simp)
    have fr0 := fun o => hx0.frozen o
    (try simp only [List.getElem_toArray, List.getElem_cons_zero, List.getElem_cons_succ] at k0_0)
    (try simp only [List.getElem_toArray, List.getElem_cons_zero, List.getElem_cons_succ] at k0_1)
    (try simp only [List.getElem_toArray, List.getElem_cons_zero, List.getElem_cons_succ] at k0_2)
    skip
    have HP0 := Lib.hid hx0
    clear hx0
    have HB3 := Lib.hid hb3
    clear hb3
    go_wp2_with fail
    refine (HS0.out _).mono ?_
    rintro e w4 ⟨rfl, hb4⟩
    have hz4 := hb4.size
    (try simp at hz4)
    (have hl0 : w1.heap.size < w4.heap.size := by omega)
    (apply with_box hb4 (g := w1.heap.size))
    (focus (repeat (first | (with_reducible exact HP0.out) | (with_reducible exact HP1.out) | (with_reducible exact HP2.out) | (with_reducible exact HP3.out) | (with_reducible exact HQ0.out) | (with_reducible exact HQ1.out) | (with_reducible exact HQ2.out) | (with_reducible exact HQ3.out) | (with_reducible apply Box.new) | (with_reducible apply Box.newAt; simp; done) | (with_reducible apply Box.set) | (with_reducible apply Box.skip; omega) | (with_reducible apply Box.alloc) | (with_reducible apply Box.drew) | (with_reducible apply Box.row) | (with_reducible apply Box.skipRow; omega))))
    intro hx0
    (try simp only [List.setIfInBounds_toArray, List.set_cons_zero, List.set_cons_succ] at hx0)
    have k0_0 := hx0.cell 0 (by simp)
    have k0_1 := hx0.cell 1 (by simp)
    have k0_2 := hx0.cell 2 (by simp)
    have fr0 := fun o => hx0.frozen o
    (try simp only [List.getElem_toArray, List.getElem_cons_zero, List.getElem_cons_succ] at k0_0)
    (try simp only [List.getElem_toArray, List.getElem_cons_zero, List.getElem_cons_succ] at k0_1)
    (try simp only [List.getElem_toArray, List.getElem_cons_zero, List.getElem_cons_succ] at k0_2)
    skip
    have HP0 := Lib.hid hx0
    clear hx0
    have HB4 := Lib.hid hb4
    clear hb4
    go_wp2_with fail
    refine (HV.out _).mono ?_
    rintro e w5 ⟨rfl, hb5⟩
    have HB5 := Lib.hid hb5
    clear hb5
    go_wp2
    go_ret
    exact ⟨rfl, by repeat (first | ((with_reducible refine Below.setCell ?_ ?_ _); rotate_left; first | omega | (dsimp only; omega) | (simp; done) | (simp; omega)) | ((with_reducible refine below_setRow ?_ ?_ _); rotate_left; first | omega | (dsimp only; omega) | (simp; done) | (simp; omega)) | with_reducible exact Below.refl _ _ | with_reducible exact below_new _ | with_reducible exact below_drew | with_reducible exact HB9.out | with_reducible exact HB8.out | with_reducible exact HB7.out | with_reducible exact HB6.out | with_reducible exact HB5.out | with_reducible exact HB4.out | with_reducible exact HB3.out | with_reducible exact HB2.out | with_reducible exact HB1.out | (with_reducible apply below_comp; rotate_left; first | with_reducible exact HB9.out | with_reducible exact HB8.out | with_reducible exact HB7.out | with_reducible exact HB6.out | with_reducible exact HB5.out | with_reducible exact HB4.out | with_reducible exact HB3.out | with_reducible exact HB2.out | with_reducible exact HB1.out | with_reducible assumption | with_reducible exact below_new _ | with_reducible exact below_drew))⟩
  have h1 : 0 ≤ T := by omega
  obtain ⟨t1, rfl, hok, hlow⟩ := HQ.out h1
  rw [decide_eq_true hok] at HO
  go_wp2_with fail
  refine (HR1.out _).mono ?_
  rintro e w3 ⟨rfl, hb3⟩
  have hz3 := hb3.size
  (try simp at hz3)
  (have hl0 : w1.heap.size < w3.heap.size := by omega)
  (apply with_box hb3 (g := w1.heap.size))
  (focus (repeat (first | (with_reducible exact HP0.out) | (with_reducible exact HP1.out) | (with_reducible exact HP2.out) | (with_reducible exact HP3.out) | (with_reducible exact HQ0.out) | (with_reducible exact HQ1.out) | (with_reducible exact HQ2.out) | (with_reducible exact HQ3.out) | (with_reducible apply Box.new) | (with_reducible apply Box.newAt; simp; done) | (with_reducible apply Box.set) | (with_reducible apply Box.skip; omega) | (with_reducible apply Box.alloc) | (with_reducible apply Box.drew) | (with_reducible apply Box.row) | (with_reducible apply Box.skipRow; omega))))
  intro hx0
  (try simp only [List.setIfInBounds_toArray, List.set_cons_zero, List.set_cons_succ] at hx0)
  have k0_0 := hx0.cell 0 (by simp)
  have k0_1 := hx0.cell 1 (by simp)
  have k0_2 := hx0.cell 2 (by simp)
  have fr0 := fun o => hx0.frozen o
  (try simp only [List.getElem_toArray, List.getElem_cons_zero, List.getElem_cons_succ] at k0_0)
  (try simp only [List.getElem_toArray, List.getElem_cons_zero, List.getElem_cons_succ] at k0_1)
  (try simp only [List.getElem_toArray, List.getElem_cons_zero, List.getElem_cons_succ] at k0_2)
  skip
  have HP0 := Lib.hid hx0
  clear hx0
  have HB3 := Lib.hid hb3
  clear hb3
  go_wp2_with fail
  refine (HS1.out _).mono ?_
  rintro e w4 ⟨rfl, hb4⟩
  have hz4 := hb4.size
  (try simp at hz4)
  (have hl0 : w1.heap.size < w4.heap.size := by omega)
  (apply with_box hb4 (g := w1.heap.size))
  (focus (repeat (first | (with_reducible exact HP0.out) | (with_reducible exact HP1.out) | (with_reducible exact HP2.out) | (with_reducible exact HP3.out) | (with_reducible exact HQ0.out) | (with_reducible exact HQ1.out) | (with_reducible exact HQ2.out) | (with_reducible exact HQ3.out) | (with_reducible apply Box.new) | (with_reducible apply Box.newAt; simp; done) | (with_reducible apply Box.set) | (with_reducible apply Box.skip; omega) | (with_reducible apply Box.alloc) | (with_reducible apply Box.drew) | (with_reducible apply Box.row) | (with_reducible apply Box.skipRow; omega))))
  intro hx0
  (try simp only [List.setIfInBounds_toArray, List.set_cons_zero, List.set_cons_succ] at hx0)
  have k0_0 := hx0.cell 0 (by simp)
  have k0_1 := hx0.cell 1 (by simp)
  have k0_2 := hx0.cell 2 (by simp)
  have fr0 := fun o => hx0.frozen o
  (try simp only [List.getElem_toArray, List.getElem_cons_zero, List.getElem_cons_succ] at k0_0)
  (try simp only [List.getElem_toArray, List.getElem_cons_zero, List.getElem_cons_succ] at k0_1)
  (try simp only [List.getElem_toArray, List.getElem_cons_zero, List.getElem_cons_succ] at k0_2)
  skip
  have HP0 := Lib.hid hx0
  clear hx0
  have HB4 := Lib.hid hb4
  clear hb4
  by_cases h2 : 0 < T
  case pos =>
    obtain rfl := hlow h2
    clear hok hlow
    go_wp2_with fail
    refine (HR2.out _).mono ?_
    rintro e w5 ⟨rfl, hb5⟩
    have hz5 := hb5.size
    (try simp at hz5)
    (have hl0 : w1.heap.size < w5.heap.size := by omega)
    (have hl1 : w4.heap.size < w5.heap.size := by omega)
    (apply with_box hb5 (g := w1.heap.size))
    (focus (repeat (first | (with_reducible exact HP0.out) | (with_reducible exact HP1.out) | (with_reducible exact HP2.out) | (with_reducible exact HP3.out) | (with_reducible exact HQ0.out) | (with_reducible exact HQ1.out) | (with_reducible exact HQ2.out) | (with_reducible exact HQ3.out) | (with_reducible apply Box.new) | (with_reducible apply Box.newAt; simp; done) | (with_reducible apply Box.set) | (with_reducible apply Box.skip; omega) | (with_reducible apply Box.alloc) | (with_reducible apply Box.drew) | (with_reducible apply Box.row) | (with_reducible apply Box.skipRow; omega))))
    intro hx0
    (try simp only [List.setIfInBounds_toArray, List.set_cons_zero, List.set_cons_succ] at hx0)
    have k0_0 := hx0.cell 0 (by simp)
    have k0_1 := hx0.cell 1 (by simp)
    have k0_2 := hx0.cell 2 (by simp)
    have fr0 := fun o => hx0.frozen o
    (try simp only [List.getElem_toArray, List.getElem_cons_zero, List.getElem_cons_succ] at k0_0)
    (try simp only [List.getElem_toArray, List.getElem_cons_zero, List.getElem_cons_succ] at k0_1)
    (try simp only [List.getElem_toArray, List.getElem_cons_zero, List.getElem_cons_succ] at k0_2)
    (apply with_box hb5 (g := w4.heap.size))
    (focus (repeat (first | (with_reducible exact HP0.out) | (with_reducible exact HP1.out) | (with_reducible exact HP2.out) | (with_reducible exact HP3.out) | (with_reducible exact HQ0.out) | (with_reducible exact HQ1.out) | (with_reducible exact HQ2.out) | (with_reducible exact HQ3.out) | (with_reducible apply Box.new) | (with_reducible apply Box.newAt; simp; done) | (with_reducible apply Box.set) | (with_reducible apply Box.skip; omega) | (with_reducible apply Box.alloc) | (with_reducible apply Box.drew) | (with_reducible apply Box.row) | (with_reducible apply Box.skipRow; omega))))
    intro hx1
    (try simp only [List.setIfInBounds_toArray, List.set_cons_zero, List.set_cons_succ] at hx1)
    have k1_0 := hx1.cell 0 (by simp)
    have k1_1 := hx1.cell 1 (by simp)
    have k1_2 := hx1.cell 2 (by simp)
    have fr1 := fun o => hx1.frozen o
    (try simp only [List.getElem_toArray, List.getElem_cons_zero, List.getElem_cons_succ] at k1_0)
    (try simp only [List.getElem_toArray, List.getElem_cons_zero, List.getElem_cons_succ] at k1_1)
    (try simp only [List.getElem_toArray, List.getElem_cons_zero, List.getElem_cons_succ] at k1_2)
    skip
    have HP0 := Lib.hid hx0
    clear hx0
    have HP1 := Lib.hid hx1
    clear hx1
    have HB5 := Lib.hid hb5
    clear hb5
    go_wp2_with fail
    refine (HS2.out _).mono ?_
    rintro e w6 ⟨rfl, hb6⟩
    have hz6 := hb6.size
    (try simp at hz6)
    (have hl0 : w1.heap.size < w6.heap.size := by omega)
    (have hl1 : w4.heap.size < w6.heap.size := by omega)
    (apply with_box hb6 (g := w1.heap.size))
    (focus (repeat (first | (with_reducible exact HP0.out) | (with_reducible exact HP1.out) | (with_reducible exact HP2.out) | (with_reducible exact HP3.out) | (with_reducible exact HQ0.out) | (with_reducible exact HQ1.out) | (with_reducible exact HQ2.out) | (with_reducible exact HQ3.out) | (with_reducible apply Box.new) | (with_reducible apply Box.newAt; simp; done) | (with_reducible apply Box.set) | (with_reducible apply Box.skip; omega) | (with_reducible apply Box.alloc) | (with_reducible apply Box.drew) | (with_reducible apply Box.row) | (with_reducible apply Box.skipRow; omega))))
    intro hx0
    (try simp only [List.setIfInBounds_toArray, List.set_cons_zero, List.set_cons_succ] at hx0)
    have k0_0 := hx0.cell 0 (by simp)
    have k0_1 := hx0.cell 1 (by simp)
    have k0_2 := hx0.cell 2 (by simp)
    have fr0 := fun o => hx0.frozen o
    (try simp only [List.getElem_toArray, List.getElem_cons_zero, List.getElem_cons_succ] at k0_0)
    (try simp only [List.getElem_toArray, List.getElem_cons_zero, List.getElem_cons_succ] at k0_1)
    (try simp only [List.getElem_toArray, List.getElem_cons_zero, List.getElem_cons_succ] at k0_2)
    (apply with_box hb6 (g := w4.heap.size))
    (focus (repeat (first | (with_reducible exact HP0.out) | (with_reducible exact HP1.out) | (with_reducible exact HP2.out) | (with_reducible exact HP3.out) | (with_reducible exact HQ0.out) | (with_reducible exact HQ1.out) | (with_reducible exact HQ2.out) | (with_reducible exact HQ3.out) | (with_reducible apply Box.new) | (with_reducible apply Box.newAt; simp; done) | (with_reducible apply Box.set) | (with_reducible apply Box.skip; omega) | (with_reducible apply Box.alloc) | (with_reducible apply Box.drew) | (with_reducible apply Box.row) | (with_reducible apply Box.skipRow; omega))))
    intro hx1
    (try simp only [List.setIfInBounds_toArray, List.set_cons_zero, List.set_cons_succ] at hx1)
    have k1_0 := hx1.cell 0 (by simp)
    have k1_1 := hx1.cell 1 (by simp)
    have k1_2 := hx1.cell 2 (by simp)
    have fr1 := fun o => hx1.frozen o
    (try simp only [List.getElem_toArray, List.getElem_cons_zero, List.getElem_cons_succ] at k1_0)
    (try simp only [List.getElem_toArray, List.getElem_cons_zero, List.getElem_cons_succ] at k1_1)
    (try simp only [List.getElem_toArray, List.getElem_cons_zero, List.getElem_cons_succ] at k1_2)
    skip
    have HP0 := Lib.hid hx0
    clear hx0
    have HP1 := Lib.hid hx1
    clear hx1
    have HB6 := Lib.hid hb6
    clear hb6
    go_wp2_with fail
    refine (HO.out _).mono ?_
    rintro e w7 ⟨rfl, hb7⟩
    have HB7 := Lib.hid hb7
    clear hb7
    go_wp2
    go_ret
    exact ⟨rfl, by repeat (first | ((with_reducible refine Below.setCell ?_ ?_ _); rotate_left; first | omega | (dsimp only; omega) | (simp; done) | (simp; omega)) | ((with_reducible refine below_setRow ?_ ?_ _); rotate_left; first | omega | (dsimp only; omega) | (simp; done) | (simp; omega)) | with_reducible exact Below.refl _ _ | with_reducible exact below_new _ | with_reducible exact below_drew | with_reducible exact HB9.out | with_reducible exact HB8.out | with_reducible exact HB7.out | with_reducible exact HB6.out | with_reducible exact HB5.out | with_reducible exact HB4.out | with_reducible exact HB3.out | with_reducible exact HB2.out | with_reducible exact HB1.out | (with_reducible apply below_comp; rotate_left; first | with_reducible exact HB9.out | with_reducible exact HB8.out | with_reducible exact HB7.out | with_reducible exact HB6.out | with_reducible exact HB5.out | with_reducible exact HB4.out | with_reducible exact HB3.out | with_reducible exact HB2.out | with_reducible exact HB1.out | with_reducible assumption | with_reducible exact below_new _ | with_reducible exact below_drew))⟩
  clear hok hlow
  go_wp2_with fail
  refine (HO.out _).mono ?_
  rintro e w5 ⟨rfl, hb5⟩
  have HB5 := Lib.hid hb5
  clear hb5
  go_wp2
  go_ret
  exact ⟨rfl, by repeat (first | ((with_reducible refine Below.setCell ?_ ?_ _); rotate_left; first | omega | (dsimp only; omega) | (simp; done) | (simp; omega)) | ((with_reducible refine below_setRow ?_ ?_ _); rotate_left; first | omega | (dsimp only; omega) | (simp; done) | (simp; omega)) | with_reducible exact Below.refl _ _ | with_reducible exact below_new _ | with_reducible exact below_drew | with_reducible exact HB9.out | with_reducible exact HB8.out | with_reducible exact HB7.out | with_reducible exact HB6.out | with_reducible exact HB5.out | with_reducible exact HB4.out | with_reducible exact HB3.out | with_reducible exact HB2.out | with_reducible exact HB1.out | (with_reducible apply below_comp; rotate_left; first | with_reducible exact HB9.out | with_reducible exact HB8.out | with_reducible exact HB7.out | with_reducible exact HB6.out | with_reducible exact HB5.out | with_reducible exact HB4.out | with_reducible exact HB3.out | with_reducible exact HB2.out | with_reducible exact HB1.out | with_reducible assumption | with_reducible exact below_new _ | with_reducible exact below_drew))⟩

set_option maxRecDepth 100000 in
theorem lifted (os : Os) (started : os.Started) (H : Type) (enc : TypeId × Value → H) :
    ReturnsInHanded {} Try.checked os 10 .any (Rows.fnWaitingSpec.pre6 enc Try.prog Try.f10 Rows.fnWaitingRow.domain false) (Rows.fnWaitingSpec.post enc Try.prog Try.f10 false true false false) := by
  refine returnsInHanded_of_change (C := Try.checked) own started (by kernel_rfl) Try.func10
    (ChangeSpec.witness6 (enc := enc) (C := Try.checked) false ⟨#[], #[.slice none 0 0], []⟩ 8 (by kernel_rfl) (by kernel_rfl) (by kernel_rfl) (by kernel_rfl)) ?_
  intro W base args ds gs before hval0 hW hcnd _
  have hval : ∀ (j : Nat) t v, Try.f10.params[j]? = some t → args[j]? = some v → Value.okWide Try.prog W .any base t v := hval0
  have hW' := hW
  obtain ⟨p, q, hA0, hV, rfl, hfz, hnd⟩ := hW
  have hA : DataW.TrodAll enc Try.prog W 0 (fun _ => true) true Try.f10.params.toList args.toList ds p := hA0
  rw [Try.params10] at hA hval
  obtain ⟨v0, vs0, d0, ds0, p0, q0, hargs, rfl, rfl, h0, r0⟩ := trodAll_cons hA
  obtain ⟨rfl, rfl, rfl⟩ := trodAll_nil r0
  obtain rfl : args = #[v0] := by cases args; simp_all
  obtain ⟨rfl, rfl⟩ := trodVars_none hV
  have lt0 : ∀ x ∈ p0, x.block < W.heap.size := by obtain ⟨m, hm⟩ := h0; exact DataW.trod_lt m _ _ _ hm
  have k0 := h0
  obtain ⟨a0, len0, cap0, rfl⟩ := okWide_slice Try.underlying33 (hval 0 33 v0 rfl rfl)
  obtain ⟨z0, w0⟩ : ∃ zs, IsRow .u8 W a0 len0 cap0 zs := by
    obtain ⟨fuel, hf⟩ := h0
    rcases open_ints Try.underlying33 Try.underlying5 (by kernel_rfl) hf with ⟨hcs, _⟩ | ⟨x, l, c, zs, hcs, _, hl, hm, hz, _, hcell, hwz⟩
    · simp [Value.cells] at hcs
      obtain ⟨rfl, rfl, rfl⟩ := hcs
      exact ⟨[], .inl ⟨rfl, rfl, rfl, rfl⟩⟩
    · simp [Value.cells] at hcs
      obtain ⟨rfl, rfl, rfl⟩ := hcs
      exact ⟨zs, .inr ⟨_, rfl, hl, hm, by simpa using hz, hcell, hwz⟩⟩
  clear hA0 hval0
  refine (walk W a0 len0 cap0 z0 w0).mono fun e W' ⟨he, bel⟩ => ?_
  subst he
  exact ⟨_, rfl, _, _, _, [], _, [], hW', trodAll_mk1 (shut_bool Try.underlying4 _), (trodAll_cons_mk (Below.trod laidOut (by kernel_rfl) (of_decide_eq_true (by kernel_rfl)) k0 bel lt0) trodAll_mk0), rfl, bel.frame _, fun h => by cases h⟩

theorem over : Rows.fnWaitingRow.holds Try.pinned (OpenSpec.ofChange Rows.fnWaitingSpec) :=
  OpenClaim.holds_of_wide 10 Try.f10 rfl rfl rfl rfl rfl rfl rfl ⟨rfl, rfl, rfl, rfl, rfl⟩ rfl rfl rfl rfl rfl (by kernel_rfl) Try.func10 (by kernel_rfl)
    (of_decide_eq_true (by kernel_rfl)) (by unfold Func.isWrapper; first | (rw [if_pos (by decide +kernel)]; kernel_rfl) | (rw [if_neg (by decide +kernel)]; exact ⟨rfl, rfl⟩))
    (fun os started H enc _ => lifted os started H enc)

/-- The statement. -/
theorem proved : Rows.FnWaitingSaid := over

end Go.Proofs.Ytdcjbojigmgcgab.fnWaiting
