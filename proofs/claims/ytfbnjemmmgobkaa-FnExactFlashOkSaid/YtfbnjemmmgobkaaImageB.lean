/- MakeImage of both sides. -/
import Derived.Test.YtfbnjemmmgobkaaCrcMake
import Derived.Test.YtfbnjemmmgobkaaCrcWith
import Derived.Test.YtfbnjemmmgobkaaWordsAnySpec
import Derived.Test.YtfbnjemmmgobkaaWordsImpl
import Derived.Test.YtfbnjemmmgobkaaInYN
import Derived.Test.YtfbnjemmmgobkaaKit
import Derived.Deep.QuietTactic
import Derived.BigQuiet
namespace Go.Proofs.Ytfbnjemmmgobkaa
open Go.RowKit
set_option linter.unusedSimpArgs false
set_option linter.unusedVariables false

def imgBody (v : Int) (s : ByteArray) : ByteArray := word32V v ++ word32V (s.size : Int) ++ s
def imgV (v : Int) (s : ByteArray) : ByteArray × Bool := if (0 ≤ v ∧ v ≤ 1000000) ∧ s.size ≤ 84 then (imgBody v s ++ word32V ((crc (imgBody v s) : Nat) : Int), true) else (⟨#[]⟩, false)
theorem w32V_le (v : Int) : (word32V v).size ≤ 4 := by unfold word32V; split <;> first | exact Nat.le_refl _ | exact Nat.zero_le _
theorem imgBody_size (v : Int) (s : ByteArray) : (imgBody v s).size ≤ 8 + s.size := by
  have h1 := w32V_le v
  have h2 := w32V_le (s.size : Int)
  unfold imgBody
  simp only [ByteArray.size_append]
  omega

set_option maxHeartbeats 4000000 in
set_option maxRecDepth 100000 in
theorem spec_image (v : Int) (s : ByteArray) (w : World) (hs : s.size ≤ 4194304) :
    Calls Try.prog 150 #[.int .i64 v, .string s] w fun e w' => e = .returned (.tuple #[.string (imgV v s).1, .bool (imgV v s).2]) ∧ Below w.heap.size w w' := by
  by_cases c0 : 0 ≤ v ∧ v ≤ 1000000
  case neg =>
    rw [show imgV v s = (⟨#[]⟩, false) from if_neg (fun h => c0 h.1)]
    have HI := Lib.hid fun W => spec_in_no v 0 1000000 W c0
    clear c0
    go_enter Try.func150, Try.ntmps150
    go_wp2_with (first | (go_at_call 108; refine (HI.out _).mono ?_; rintro e w' ⟨rfl, rfl⟩))
    go_ret2
    exact ⟨rfl, Below.refl _ _⟩
  have HI := Lib.hid fun W => spec_in_yes v 0 1000000 W c0
  by_cases c1 : s.size ≤ 84
  case neg =>
    rw [show imgV v s = (⟨#[]⟩, false) from if_neg (fun h => c1 h.2)]
    have d1 : (96 : Int) < (s.size : Int) + 12 := by omega
    have d2 : (96 : Int) < 8 + (s.size : Int) + 4 := by omega
    clear c0 c1
    go_enter Try.func150, Try.ntmps150
    go_wp2_with (first | (go_at_call 108; refine (HI.out _).mono ?_; rintro e w' ⟨rfl, rfl⟩))
    go_ret2
    exact ⟨rfl, Below.refl _ _⟩
  rw [show imgV v s = (imgBody v s ++ word32V ((crc (imgBody v s) : Nat) : Int), true) from if_pos ⟨c0, c1⟩]
  have d1 : ¬ (96 : Int) < (s.size : Int) + 12 := by omega
  have d2 : ¬ (96 : Int) < 8 + (s.size : Int) + 4 := by omega
  have z1 := w32V_le v
  have z2 := w32V_le (s.size : Int)
  have zb := imgBody_size v s
  have HC := Lib.hid fun W => spec_crc (imgBody v s) W (by omega)
  obtain ⟨D, hD⟩ : ∃ D, imgBody v s = D := ⟨_, rfl⟩
  have HD : Hid (word32V v ++ word32V (s.size : Int) ++ s = D) := Lib.hid hD
  rw [hD] at HC zb ⊢
  clear hD c0
  have HK := Lib.hid fun W => spec_word32 ((crc D : Nat) : Int) W
  have z3 := w32V_le ((crc D : Nat) : Int)
  generalize word32V ((crc D : Nat) : Int) = E at HK z3 ⊢
  generalize ((crc D : Nat) : Int) = Q at HC HK
  have HA := Lib.hid fun W => spec_word32 v W
  have HB := Lib.hid fun W => spec_word32 (s.size : Int) W
  generalize word32V v = A1 at HA HD z1
  generalize word32V (s.size : Int) = A2 at HB HD z2
  have y1 : ¬ 9223372036854775807 < A1.size + A2.size := by omega
  have y2 : ¬ 9223372036854775807 < A1.size + A2.size + s.size := by omega
  have y3 : ¬ 9223372036854775807 < D.size + E.size := by omega
  go_enter Try.func150, Try.ntmps150
  go_wp2_with fail
  refine (HI.out _).mono ?_
  rintro e w' ⟨rfl, rfl⟩
  go_wp2_with fail
  refine (HA.out _).mono ?_
  rintro e w1 ⟨rfl, hb1⟩
  go_wp2_with fail
  refine (HB.out _).mono ?_
  rintro e w2 ⟨rfl, hb2⟩
  go_wp2_with fail
  rw [HD.out]
  refine (HC.out _).mono ?_
  rintro e w3 ⟨rfl, rfl⟩
  go_wp2_with fail
  refine (HK.out _).mono ?_
  rintro e w4 ⟨rfl, hb4⟩
  go_wp2
  go_ret2
  exact ⟨rfl, below_comp (below_comp hb1 hb2) hb4⟩

set_option maxHeartbeats 4000000 in
set_option maxRecDepth 100000 in
theorem impl_image (v : Int) (s : ByteArray) (w : World) (hs : s.size ≤ 4194304) :
    Calls Try.prog 152 #[.int .i64 v, .string s] w fun e w' => e = .returned (.tuple #[.string (imgV v s).1, .bool (imgV v s).2]) ∧ Below w.heap.size w w' := by
  by_cases c0 : 0 ≤ v ∧ v ≤ 1000000
  case neg =>
    rw [show imgV v s = (⟨#[]⟩, false) from if_neg (fun h => c0 h.1)]
    have HI := Lib.hid fun W => impl_in_no v 0 1000000 W c0
    clear c0
    go_enter Try.func152, Try.ntmps152
    go_wp2_with (first | (go_at_call 110; refine (HI.out _).mono ?_; rintro e w' ⟨rfl, rfl⟩))
    go_ret2
    exact ⟨rfl, Below.refl _ _⟩
  have HI := Lib.hid fun W => impl_in_yes v 0 1000000 W c0
  by_cases c1 : s.size ≤ 84
  case neg =>
    rw [show imgV v s = (⟨#[]⟩, false) from if_neg (fun h => c1 h.2)]
    have d1 : (96 : Int) < (s.size : Int) + 12 := by omega
    have d2 : (96 : Int) < 8 + (s.size : Int) + 4 := by omega
    clear c0 c1
    go_enter Try.func152, Try.ntmps152
    go_wp2_with (first | (go_at_call 110; refine (HI.out _).mono ?_; rintro e w' ⟨rfl, rfl⟩))
    go_ret2
    exact ⟨rfl, Below.refl _ _⟩
  rw [show imgV v s = (imgBody v s ++ word32V ((crc (imgBody v s) : Nat) : Int), true) from if_pos ⟨c0, c1⟩]
  have d1 : ¬ (96 : Int) < (s.size : Int) + 12 := by omega
  have d2 : ¬ (96 : Int) < 8 + (s.size : Int) + 4 := by omega
  have z1 := w32V_le v
  have z2 := w32V_le (s.size : Int)
  have zb := imgBody_size v s
  have HC := Lib.hid fun W => impl_crc (imgBody v s) W (by omega)
  obtain ⟨D, hD⟩ : ∃ D, imgBody v s = D := ⟨_, rfl⟩
  have HD : Hid (word32V v ++ word32V (s.size : Int) ++ s = D) := Lib.hid hD
  rw [hD] at HC zb ⊢
  clear hD c0
  have HK := Lib.hid fun W => impl_word32 ((crc D : Nat) : Int) W
  have z3 := w32V_le ((crc D : Nat) : Int)
  generalize word32V ((crc D : Nat) : Int) = E at HK z3 ⊢
  generalize ((crc D : Nat) : Int) = Q at HC HK
  have HA := Lib.hid fun W => impl_word32 v W
  have HB := Lib.hid fun W => impl_word32 (s.size : Int) W
  generalize word32V v = A1 at HA HD z1
  generalize word32V (s.size : Int) = A2 at HB HD z2
  have y1 : ¬ 9223372036854775807 < A1.size + A2.size := by omega
  have y2 : ¬ 9223372036854775807 < A1.size + A2.size + s.size := by omega
  have y3 : ¬ 9223372036854775807 < D.size + E.size := by omega
  go_enter Try.func152, Try.ntmps152
  go_wp2_with fail
  refine (HI.out _).mono ?_
  rintro e w' ⟨rfl, rfl⟩
  go_wp2_with fail
  refine (HA.out _).mono ?_
  rintro e w1 ⟨rfl, hb1⟩
  go_wp2_with fail
  refine (HB.out _).mono ?_
  rintro e w2 ⟨rfl, hb2⟩
  go_wp2_with fail
  rw [HD.out]
  refine (HC.out _).mono ?_
  rintro e w3 ⟨rfl, rfl⟩
  go_wp2_with fail
  refine (HK.out _).mono ?_
  rintro e w4 ⟨rfl, hb4⟩
  go_wp2
  go_ret2
  exact ⟨rfl, below_comp (below_comp hb1 hb2) hb4⟩

end Go.Proofs.Ytfbnjemmmgobkaa
