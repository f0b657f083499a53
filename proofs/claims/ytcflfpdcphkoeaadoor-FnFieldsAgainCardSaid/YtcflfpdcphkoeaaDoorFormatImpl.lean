/- The contract of FormatInt in the program: the decimal numeral. -/
import Derived.Test.YtcflfpdcphkoeaaDoorDoorBase
import Derived.Test.YtcflfpdcphkoeaaDoorShelf
namespace Go.Proofs.YtcflfpdcphkoeaaDoor
open Go.RowKit
open Go.Sort (grow)

theorem impl_format (n : Int) (w : World) (h0 : -9223372036854775808 ≤ n) (h1 : n ≤ 9223372036854775807) (htab : Lib.TabIs Tryd.prog w "internal/strconv.uint64pow10" .u64 Lib.pow10Tab) :
    Calls Tryd.prog 11 #[.int .i64 n] w fun e w' => e = .returned (.string ⟨(Lib.itoa n).toArray⟩) ∧ Below w.heap.size w w' := by
  have HT := Lib.hid htab
  clear htab
  go_enter Tryd.func11, Tryd.ntmps11
  go_wp2_with fail
  refine (Tryd.strconv_Itoa n h0 h1 _ HT.out).mono ?_
  rintro e w' ⟨rfl, k, os, rfl⟩
  have hb := below_grow w k os
  generalize grow (w.drewN k) os = w1 at hb ⊢
  go_wp2
  go_ret
  exact ⟨rfl, hb⟩

theorem itoa_neg3 : Lib.itoa (-3) = [45, 51] := by
  unfold Lib.itoa
  rw [if_pos (by omega), show (-3 : Int).natAbs = 3 from rfl, Lib.decDigits_one (by omega)]
  rfl
theorem itoa_ten : Lib.itoa 10 = [49, 48] := by
  unfold Lib.itoa
  rw [if_neg (by omega)]
  exact Lib.decDigits_two (by omega) (by omega)

end Go.Proofs.YtcflfpdcphkoeaaDoor
