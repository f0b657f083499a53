/- The program's BuildSegment, at segments that can be sent. -/
import Derived.Test.YtkknfcnajgolfaaSegWith
import Derived.Test.YtkknfcnajgolfaaSumsImpl
namespace Go.Proofs.Ytkknfcnajgolfaa
open Go.RowKit
set_option linter.unusedSimpArgs false
set_option linter.unusedVariables false

set_option maxHeartbeats 4000000 in
set_option maxRecDepth 100000 in
theorem impl_seg_udp_yes (s d sp dp q c f n : Int) (b : ByteArray) (w : World) (hok : SegM.Ok ⟨17, sp, dp, q, c, f, n, b⟩) (hp :  pseudoOk s d 17 (SegM.len ⟨17, sp, dp, q, c, f, n, b⟩)) :
    Calls Try.prog 50 #[.int .i64 s, .int .i64 d, .agg #[.int .i64 17, .int .i64 sp, .int .i64 dp, .int .i64 q, .int .i64 c, .int .i64 f, .int .i64 n, .string b]] w fun r w' => r = .returned (.tuple #[.string (SegM.udp ⟨17, sp, dp, q, c, f, n, b⟩ (SegM.check ⟨17, sp, dp, q, c, f, n, b⟩ s d)), .bool true]) ∧ Below w.heap.size w w' := by
  have HV : Hid (∀ w1, Calls Try.prog 44 #[.agg #[.int .i64 17, .int .i64 sp, .int .i64 dp, .int .i64 q, .int .i64 c, .int .i64 f, .int .i64 n, .string b]] w1 fun r w' => r = .returned (.bool true) ∧ Below w1.heap.size w1 w') := Lib.hid fun w1 => by have := impl_segmentok ⟨17, sp, dp, q, c, f, n, b⟩ w1; rwa [decide_eq_true hok] at this
  obtain ⟨h1, h2, h7, hk⟩ := hok
  dsimp only at h1 h2 h7 hk
  have HP := Lib.hid hp
  clear hp
  obtain ⟨h3, h4, h5, h6⟩ : (0 ≤ q ∧ q ≤ 4294967295) ∧ (0 ≤ c ∧ c ≤ 4294967295) ∧ (0 ≤ f ∧ f ≤ 31) ∧ (0 ≤ n ∧ n ≤ 65535) := by omega
  clear hk
  obtain ⟨T, HT⟩ : ∃ T : ByteArray, Hid (SegM.udp ⟨17, sp, dp, q, c, f, n, b⟩ 0 = T) := ⟨_, Lib.hid rfl⟩
  have HL : Hid (SegM.len ⟨17, sp, dp, q, c, f, n, b⟩ = (T.size : Int)) := Lib.hid (by rw [← HT.out]; rfl)
  have hT : T.size ≤ 340 := by rw [← HT.out, SegM.udp_size]; show _ + b.size ≤ 340; omega
  have HW0 := Lib.hid fun W => (by have := impl_with_udp sp dp q c f n b 0 W h1 h2 h3 h4 h5 h6 h7 (by decide); rwa [HT.out] at this : Calls Try.prog 73 #[.agg #[.int .i64 17, .int .i64 sp, .int .i64 dp, .int .i64 q, .int .i64 c, .int .i64 f, .int .i64 n, .string b], .int .i64 0] W fun r w' => r = .returned (.string T) ∧ Below W.heap.size W w')
  have HLy : Hid (∀ W, _) := Lib.hid fun W => layout_17 W
  obtain ⟨P, HPP, hPs⟩ : ∃ P : ByteArray, Hid (pseudoB s d 17 (T.size : Int) = P) ∧ P.size ≤ 12 := ⟨_, Lib.hid rfl, by rw [pseudo_size]; omega⟩
  have HPs := Lib.hid fun W => (by have := impl_pseudo_yes s d 17 (T.size : Int) W (by rw [← HL.out]; exact HP.out); rwa [HPP.out] at this : Calls Try.prog 74 #[.int .i64 s, .int .i64 d, .int .i64 17, .int .i64 (T.size : Int)] W fun r w' => r = .returned (.tuple #[.string P, .bool true]) ∧ Below W.heap.size W w')
  obtain ⟨X, HX⟩ : ∃ X : Int, Hid (65535 - sumW (P ++ T) = X) := ⟨_, Lib.hid rfl⟩
  have hX : 0 ≤ X ∧ X ≤ 65535 := by have := sumW_bd (P ++ T); rw [← HX.out]; omega
  have HCk := Lib.hid fun W => (by have := impl_checksum_any (P ++ T) W (by rw [ByteArray.size_append]; omega); rwa [HX.out] at this : Calls Try.prog 75 #[.string (P ++ T)] W fun r w' => r = .returned (.int .i64 X) ∧ Below W.heap.size W w')
  have HRaw : Hid (SegM.raw ⟨17, sp, dp, q, c, f, n, b⟩ s d = X) := Lib.hid (by unfold SegM.raw; rw [HL.out, ← HX.out, ← HPP.out]; show 65535 - sumW (_ ++ SegM.udp _ 0) = _; rw [HT.out])
  have k2 : ¬ 9223372036854775807 < P.size + T.size := by omega
  rcases (show X = 0 ∨ X ≠ 0 by omega) with hx | hx
  case' inl =>
    obtain ⟨V, HVV, hV⟩ : ∃ V : Int, Hid (V = 65535 ∧ SegM.check ⟨17, sp, dp, q, c, f, n, b⟩ s d = V) ∧ 0 ≤ V ∧ V ≤ 65535 := ⟨65535, Lib.hid ⟨rfl, by unfold SegM.check; rw [HRaw.out, hx]; rfl⟩, by decide⟩
    subst hx
  case' inr =>
    have e0 : (X == 0) = false := by rw [beq_eq_false_iff_ne]; exact hx
    obtain ⟨V, HVV, hV⟩ : ∃ V : Int, Hid (V = X ∧ SegM.check ⟨17, sp, dp, q, c, f, n, b⟩ s d = V) ∧ 0 ≤ V ∧ V ≤ 65535 := ⟨X, Lib.hid ⟨rfl, by unfold SegM.check; rw [HRaw.out, if_neg (fun h => hx h.1)]⟩, hX⟩
    have hxi := Lib.hid hx
    clear hx
  all_goals
    have HWV := Lib.hid fun W => impl_with_udp sp dp q c f n b V W h1 h2 h3 h4 h5 h6 h7 hV
    have HRes : Hid (SegM.udp ⟨17, sp, dp, q, c, f, n, b⟩ V = SegM.udp ⟨17, sp, dp, q, c, f, n, b⟩ (SegM.check ⟨17, sp, dp, q, c, f, n, b⟩ s d)) := Lib.hid (by rw [HVV.out.2])
    obtain ⟨R, HR⟩ : ∃ R : ByteArray, Hid (SegM.udp ⟨17, sp, dp, q, c, f, n, b⟩ V = R) := ⟨_, Lib.hid rfl⟩
    rw [HR.out] at HWV HRes
    rw [HVV.out.1] at HWV
    clear hV hX h1 h2 h3 h4 h5 h6
    go_enter Try.func50, Try.ntmps50
    go_wp2_with (first
      | (go_at_call 44; refine (HV.out _).mono ?_; rintro e w1 ⟨rfl, hb⟩; obtain ⟨hc, hf, _⟩ := bcell hb; have hg : w.heap.size < w1.heap.size := by (have hz := hb.size; (try simp at hz); omega))
      | (go_at_call 73; ((with_reducible refine (HW0.out _).mono ?_); rintro e w1 ⟨rfl, hb⟩; have HW0 := HWV; obtain ⟨hc, hf, _⟩ := bcell hb; have hg : w.heap.size < w1.heap.size := by (have hz := hb.size; (try simp at hz); omega)))
      | (go_at_call 74; refine (HPs.out _).mono ?_; rintro e w1 ⟨rfl, hb⟩; obtain ⟨hc, hf, _⟩ := bcell hb; have hg : w.heap.size < w1.heap.size := by (have hz := hb.size; (try simp at hz); omega))
      | (go_at_call 75; refine (HCk.out _).mono ?_; rintro e w1 ⟨rfl, hb⟩; obtain ⟨hc, hf, _⟩ := bcell hb; have hg : w.heap.size < w1.heap.size := by (have hz := hb.size; (try simp at hz); omega))
      | (go_at_call 63; refine (HLy.out _).mono ?_; rintro e w1 ⟨rfl, rfl⟩))
    go_ret2
    refine ⟨ret_str_bool HRes.out rfl, ?_⟩
    repeat (first | exact Below.refl _ _ | exact below_new _ | (refine below_comp ?_ (by assumption)))

set_option maxHeartbeats 4000000 in
set_option maxRecDepth 100000 in
theorem impl_seg_udp_no (s d sp dp q c f n : Int) (b : ByteArray) (w : World) (hok : SegM.Ok ⟨17, sp, dp, q, c, f, n, b⟩) (hp : ¬ pseudoOk s d 17 (SegM.len ⟨17, sp, dp, q, c, f, n, b⟩)) :
    Calls Try.prog 50 #[.int .i64 s, .int .i64 d, .agg #[.int .i64 17, .int .i64 sp, .int .i64 dp, .int .i64 q, .int .i64 c, .int .i64 f, .int .i64 n, .string b]] w fun r w' => r = .returned (.tuple #[.string ⟨#[]⟩, .bool false]) ∧ Below w.heap.size w w' := by
  have HV : Hid (∀ w1, Calls Try.prog 44 #[.agg #[.int .i64 17, .int .i64 sp, .int .i64 dp, .int .i64 q, .int .i64 c, .int .i64 f, .int .i64 n, .string b]] w1 fun r w' => r = .returned (.bool true) ∧ Below w1.heap.size w1 w') := Lib.hid fun w1 => by have := impl_segmentok ⟨17, sp, dp, q, c, f, n, b⟩ w1; rwa [decide_eq_true hok] at this
  obtain ⟨h1, h2, h7, hk⟩ := hok
  dsimp only at h1 h2 h7 hk
  have HP := Lib.hid hp
  clear hp
  obtain ⟨h3, h4, h5, h6⟩ : (0 ≤ q ∧ q ≤ 4294967295) ∧ (0 ≤ c ∧ c ≤ 4294967295) ∧ (0 ≤ f ∧ f ≤ 31) ∧ (0 ≤ n ∧ n ≤ 65535) := by omega
  clear hk
  obtain ⟨T, HT⟩ : ∃ T : ByteArray, Hid (SegM.udp ⟨17, sp, dp, q, c, f, n, b⟩ 0 = T) := ⟨_, Lib.hid rfl⟩
  have HL : Hid (SegM.len ⟨17, sp, dp, q, c, f, n, b⟩ = (T.size : Int)) := Lib.hid (by rw [← HT.out]; rfl)
  have hT : T.size ≤ 340 := by rw [← HT.out, SegM.udp_size]; show _ + b.size ≤ 340; omega
  have HW0 := Lib.hid fun W => (by have := impl_with_udp sp dp q c f n b 0 W h1 h2 h3 h4 h5 h6 h7 (by decide); rwa [HT.out] at this : Calls Try.prog 73 #[.agg #[.int .i64 17, .int .i64 sp, .int .i64 dp, .int .i64 q, .int .i64 c, .int .i64 f, .int .i64 n, .string b], .int .i64 0] W fun r w' => r = .returned (.string T) ∧ Below W.heap.size W w')
  have HLy : Hid (∀ W, _) := Lib.hid fun W => layout_17 W
  obtain ⟨P, HPP, hPs⟩ : ∃ P : ByteArray, Hid (pseudoB s d 17 (T.size : Int) = P) ∧ P.size ≤ 12 := ⟨_, Lib.hid rfl, by rw [pseudo_size]; omega⟩
  have HPs := Lib.hid fun W => impl_pseudo_no s d 17 (T.size : Int) W (by rw [← HL.out]; exact HP.out)
  clear h1 h2 h3 h4 h5 h6
  go_enter Try.func50, Try.ntmps50
  go_wp2_with (first
    | (go_at_call 44; refine (HV.out _).mono ?_; rintro e w1 ⟨rfl, hb⟩; obtain ⟨hc, hf, _⟩ := bcell hb; have hg : w.heap.size < w1.heap.size := by (have hz := hb.size; (try simp at hz); omega))
    | (go_at_call 73; refine (HW0.out _).mono ?_; rintro e w1 ⟨rfl, hb⟩; obtain ⟨hc, hf, _⟩ := bcell hb; have hg : w.heap.size < w1.heap.size := by (have hz := hb.size; (try simp at hz); omega))
    | (go_at_call 74; refine (HPs.out _).mono ?_; rintro e w1 ⟨rfl, hb⟩; obtain ⟨hc, hf, _⟩ := bcell hb; have hg : w.heap.size < w1.heap.size := by (have hz := hb.size; (try simp at hz); omega)))
  go_ret2
  refine ⟨rfl, ?_⟩
  repeat (first | exact Below.refl _ _ | exact below_new _ | (refine below_comp ?_ (by assumption)))

set_option maxHeartbeats 4000000 in
set_option maxRecDepth 100000 in
theorem impl_seg_tcp_yes (s d sp dp q c f n : Int) (b : ByteArray) (w : World) (hok : SegM.Ok ⟨6, sp, dp, q, c, f, n, b⟩) (hp :  pseudoOk s d 6 (SegM.len ⟨6, sp, dp, q, c, f, n, b⟩)) :
    Calls Try.prog 50 #[.int .i64 s, .int .i64 d, .agg #[.int .i64 6, .int .i64 sp, .int .i64 dp, .int .i64 q, .int .i64 c, .int .i64 f, .int .i64 n, .string b]] w fun r w' => r = .returned (.tuple #[.string (SegM.tcp ⟨6, sp, dp, q, c, f, n, b⟩ (SegM.check ⟨6, sp, dp, q, c, f, n, b⟩ s d)), .bool true]) ∧ Below w.heap.size w w' := by
  have HV : Hid (∀ w1, Calls Try.prog 44 #[.agg #[.int .i64 6, .int .i64 sp, .int .i64 dp, .int .i64 q, .int .i64 c, .int .i64 f, .int .i64 n, .string b]] w1 fun r w' => r = .returned (.bool true) ∧ Below w1.heap.size w1 w') := Lib.hid fun w1 => by have := impl_segmentok ⟨6, sp, dp, q, c, f, n, b⟩ w1; rwa [decide_eq_true hok] at this
  obtain ⟨h1, h2, h7, hk⟩ := hok
  dsimp only at h1 h2 h7 hk
  have HP := Lib.hid hp
  clear hp
  obtain ⟨h3, h4, h5, h6⟩ : (0 ≤ q ∧ q ≤ 4294967295) ∧ (0 ≤ c ∧ c ≤ 4294967295) ∧ (0 ≤ f ∧ f ≤ 31) ∧ (0 ≤ n ∧ n ≤ 65535) := by omega
  clear hk
  obtain ⟨T, HT⟩ : ∃ T : ByteArray, Hid (SegM.tcp ⟨6, sp, dp, q, c, f, n, b⟩ 0 = T) := ⟨_, Lib.hid rfl⟩
  have HL : Hid (SegM.len ⟨6, sp, dp, q, c, f, n, b⟩ = (T.size : Int)) := Lib.hid (by rw [← HT.out]; rfl)
  have hT : T.size ≤ 340 := by rw [← HT.out, SegM.tcp_size]; show _ + b.size ≤ 340; omega
  have HW0 := Lib.hid fun W => (by have := impl_with_tcp sp dp q c f n b 0 W h1 h2 h3 h4 h5 h6 h7 (by decide); rwa [HT.out] at this : Calls Try.prog 73 #[.agg #[.int .i64 6, .int .i64 sp, .int .i64 dp, .int .i64 q, .int .i64 c, .int .i64 f, .int .i64 n, .string b], .int .i64 0] W fun r w' => r = .returned (.string T) ∧ Below W.heap.size W w')
  have HLy : Hid (∀ W, _) := Lib.hid fun W => layout_6 W
  obtain ⟨P, HPP, hPs⟩ : ∃ P : ByteArray, Hid (pseudoB s d 6 (T.size : Int) = P) ∧ P.size ≤ 12 := ⟨_, Lib.hid rfl, by rw [pseudo_size]; omega⟩
  have HPs := Lib.hid fun W => (by have := impl_pseudo_yes s d 6 (T.size : Int) W (by rw [← HL.out]; exact HP.out); rwa [HPP.out] at this : Calls Try.prog 74 #[.int .i64 s, .int .i64 d, .int .i64 6, .int .i64 (T.size : Int)] W fun r w' => r = .returned (.tuple #[.string P, .bool true]) ∧ Below W.heap.size W w')
  obtain ⟨X, HX⟩ : ∃ X : Int, Hid (65535 - sumW (P ++ T) = X) := ⟨_, Lib.hid rfl⟩
  have hX : 0 ≤ X ∧ X ≤ 65535 := by have := sumW_bd (P ++ T); rw [← HX.out]; omega
  have HCk := Lib.hid fun W => (by have := impl_checksum_any (P ++ T) W (by rw [ByteArray.size_append]; omega); rwa [HX.out] at this : Calls Try.prog 75 #[.string (P ++ T)] W fun r w' => r = .returned (.int .i64 X) ∧ Below W.heap.size W w')
  have HRaw : Hid (SegM.raw ⟨6, sp, dp, q, c, f, n, b⟩ s d = X) := Lib.hid (by unfold SegM.raw; rw [HL.out, ← HX.out, ← HPP.out]; show 65535 - sumW (_ ++ SegM.tcp _ 0) = _; rw [HT.out])
  have k2 : ¬ 9223372036854775807 < P.size + T.size := by omega
  rcases (show X = 0 ∨ X ≠ 0 by omega) with hx | hx
  case' inl =>
    obtain ⟨V, HVV, hV⟩ : ∃ V : Int, Hid (V = 0 ∧ SegM.check ⟨6, sp, dp, q, c, f, n, b⟩ s d = V) ∧ 0 ≤ V ∧ V ≤ 65535 := ⟨0, Lib.hid ⟨rfl, by unfold SegM.check; rw [HRaw.out, hx]; rfl⟩, by decide⟩
    subst hx
  case' inr =>
    have e0 : (X == 0) = false := by rw [beq_eq_false_iff_ne]; exact hx
    obtain ⟨V, HVV, hV⟩ : ∃ V : Int, Hid (V = X ∧ SegM.check ⟨6, sp, dp, q, c, f, n, b⟩ s d = V) ∧ 0 ≤ V ∧ V ≤ 65535 := ⟨X, Lib.hid ⟨rfl, by unfold SegM.check; rw [HRaw.out, if_neg (fun h => hx h.1)]⟩, hX⟩
    have hxi := Lib.hid hx
    clear hx
  all_goals
    have HWV := Lib.hid fun W => impl_with_tcp sp dp q c f n b V W h1 h2 h3 h4 h5 h6 h7 hV
    have HRes : Hid (SegM.tcp ⟨6, sp, dp, q, c, f, n, b⟩ V = SegM.tcp ⟨6, sp, dp, q, c, f, n, b⟩ (SegM.check ⟨6, sp, dp, q, c, f, n, b⟩ s d)) := Lib.hid (by rw [HVV.out.2])
    obtain ⟨R, HR⟩ : ∃ R : ByteArray, Hid (SegM.tcp ⟨6, sp, dp, q, c, f, n, b⟩ V = R) := ⟨_, Lib.hid rfl⟩
    rw [HR.out] at HWV HRes
    rw [HVV.out.1] at HWV
    clear hV hX h1 h2 h3 h4 h5 h6
    go_enter Try.func50, Try.ntmps50
    go_wp2_with (first
      | (go_at_call 44; refine (HV.out _).mono ?_; rintro e w1 ⟨rfl, hb⟩; obtain ⟨hc, hf, _⟩ := bcell hb; have hg : w.heap.size < w1.heap.size := by (have hz := hb.size; (try simp at hz); omega))
      | (go_at_call 73; ((with_reducible refine (HW0.out _).mono ?_); rintro e w1 ⟨rfl, hb⟩; have HW0 := HWV; obtain ⟨hc, hf, _⟩ := bcell hb; have hg : w.heap.size < w1.heap.size := by (have hz := hb.size; (try simp at hz); omega)))
      | (go_at_call 74; refine (HPs.out _).mono ?_; rintro e w1 ⟨rfl, hb⟩; obtain ⟨hc, hf, _⟩ := bcell hb; have hg : w.heap.size < w1.heap.size := by (have hz := hb.size; (try simp at hz); omega))
      | (go_at_call 75; refine (HCk.out _).mono ?_; rintro e w1 ⟨rfl, hb⟩; obtain ⟨hc, hf, _⟩ := bcell hb; have hg : w.heap.size < w1.heap.size := by (have hz := hb.size; (try simp at hz); omega))
      | (go_at_call 63; refine (HLy.out _).mono ?_; rintro e w1 ⟨rfl, rfl⟩))
    go_ret2
    refine ⟨ret_str_bool HRes.out rfl, ?_⟩
    repeat (first | exact Below.refl _ _ | exact below_new _ | (refine below_comp ?_ (by assumption)))

set_option maxHeartbeats 4000000 in
set_option maxRecDepth 100000 in
theorem impl_seg_tcp_no (s d sp dp q c f n : Int) (b : ByteArray) (w : World) (hok : SegM.Ok ⟨6, sp, dp, q, c, f, n, b⟩) (hp : ¬ pseudoOk s d 6 (SegM.len ⟨6, sp, dp, q, c, f, n, b⟩)) :
    Calls Try.prog 50 #[.int .i64 s, .int .i64 d, .agg #[.int .i64 6, .int .i64 sp, .int .i64 dp, .int .i64 q, .int .i64 c, .int .i64 f, .int .i64 n, .string b]] w fun r w' => r = .returned (.tuple #[.string ⟨#[]⟩, .bool false]) ∧ Below w.heap.size w w' := by
  have HV : Hid (∀ w1, Calls Try.prog 44 #[.agg #[.int .i64 6, .int .i64 sp, .int .i64 dp, .int .i64 q, .int .i64 c, .int .i64 f, .int .i64 n, .string b]] w1 fun r w' => r = .returned (.bool true) ∧ Below w1.heap.size w1 w') := Lib.hid fun w1 => by have := impl_segmentok ⟨6, sp, dp, q, c, f, n, b⟩ w1; rwa [decide_eq_true hok] at this
  obtain ⟨h1, h2, h7, hk⟩ := hok
  dsimp only at h1 h2 h7 hk
  have HP := Lib.hid hp
  clear hp
  obtain ⟨h3, h4, h5, h6⟩ : (0 ≤ q ∧ q ≤ 4294967295) ∧ (0 ≤ c ∧ c ≤ 4294967295) ∧ (0 ≤ f ∧ f ≤ 31) ∧ (0 ≤ n ∧ n ≤ 65535) := by omega
  clear hk
  obtain ⟨T, HT⟩ : ∃ T : ByteArray, Hid (SegM.tcp ⟨6, sp, dp, q, c, f, n, b⟩ 0 = T) := ⟨_, Lib.hid rfl⟩
  have HL : Hid (SegM.len ⟨6, sp, dp, q, c, f, n, b⟩ = (T.size : Int)) := Lib.hid (by rw [← HT.out]; rfl)
  have hT : T.size ≤ 340 := by rw [← HT.out, SegM.tcp_size]; show _ + b.size ≤ 340; omega
  have HW0 := Lib.hid fun W => (by have := impl_with_tcp sp dp q c f n b 0 W h1 h2 h3 h4 h5 h6 h7 (by decide); rwa [HT.out] at this : Calls Try.prog 73 #[.agg #[.int .i64 6, .int .i64 sp, .int .i64 dp, .int .i64 q, .int .i64 c, .int .i64 f, .int .i64 n, .string b], .int .i64 0] W fun r w' => r = .returned (.string T) ∧ Below W.heap.size W w')
  have HLy : Hid (∀ W, _) := Lib.hid fun W => layout_6 W
  obtain ⟨P, HPP, hPs⟩ : ∃ P : ByteArray, Hid (pseudoB s d 6 (T.size : Int) = P) ∧ P.size ≤ 12 := ⟨_, Lib.hid rfl, by rw [pseudo_size]; omega⟩
  have HPs := Lib.hid fun W => impl_pseudo_no s d 6 (T.size : Int) W (by rw [← HL.out]; exact HP.out)
  clear h1 h2 h3 h4 h5 h6
  go_enter Try.func50, Try.ntmps50
  go_wp2_with (first
    | (go_at_call 44; refine (HV.out _).mono ?_; rintro e w1 ⟨rfl, hb⟩; obtain ⟨hc, hf, _⟩ := bcell hb; have hg : w.heap.size < w1.heap.size := by (have hz := hb.size; (try simp at hz); omega))
    | (go_at_call 73; refine (HW0.out _).mono ?_; rintro e w1 ⟨rfl, hb⟩; obtain ⟨hc, hf, _⟩ := bcell hb; have hg : w.heap.size < w1.heap.size := by (have hz := hb.size; (try simp at hz); omega))
    | (go_at_call 74; refine (HPs.out _).mono ?_; rintro e w1 ⟨rfl, hb⟩; obtain ⟨hc, hf, _⟩ := bcell hb; have hg : w.heap.size < w1.heap.size := by (have hz := hb.size; (try simp at hz); omega)))
  go_ret2
  refine ⟨rfl, ?_⟩
  repeat (first | exact Below.refl _ _ | exact below_new _ | (refine below_comp ?_ (by assumption)))

end Go.Proofs.Ytkknfcnajgolfaa
