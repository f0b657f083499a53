/- The texts by which the laws mark strings. -/
import Derived.Test.YtkmebahjnnnckaaBase
import Derived.Test.YtkmebahjnnnckaaFormatMath
import Derived.Test.YtkmebahjnnnckaaStrsOwn
import Derived.Deep.QuietTactic
import Derived.BigQuiet
namespace Go.Proofs.Ytkmebahjnnnckaa
open Go.RowKit
set_option linter.unusedVariables false
set_option linter.unusedSimpArgs false
/-- The mark of number k. -/
def mT (k : Nat) : ByteArray := ⟨#[109]⟩ ++ ⟨(decD k).toArray⟩

set_option maxHeartbeats 1000000 in
set_option maxRecDepth 100000 in
theorem mark_text (K : Nat) (w : World) (h0 : 1 ≤ K) (h1 : K ≤ 1000000000) :
    Calls Try.prog 110 #[.int .i64 K] w fun e w' => e = .returned (.string (mT K)) ∧ Below w.heap.size w w' := by
  have hz : ¬ (K : Int) ≤ 0 := by omega
  go_enter Try.func110, Try.ntmps110
  go_wp2
  go_loopw [0, 3] (fun v t wr => ∃ m : Nat, m ≤ 1000000000 ∧ v = .int .i64 m ∧ ∃ s : ByteArray, t = .string s ∧ Hid (FmtRel K m s) ∧ Below w.heap.size w wr)
    (fun v _ _ => (intOf v).toNat)
  case atStart => exact ⟨K, h1, rfl, _, rfl, Lib.hid ⟨by simp, by decide⟩, Below.refl _ _⟩
  case round =>
    obtain ⟨m, m1, rfl, s, rfl, hrel, hb⟩ := hrel
    have hs : s.size ≤ 20 := hrel.out.2
    by_cases hm : m = 0
    · subst hm
      have HE : Hid (mT K = ⟨#[109]⟩ ++ s) := Lib.hid (by
        have := hrel.out.1
        rw [decD_zero, List.nil_append] at this
        unfold mT
        rw [← this])
      clear hrel
      go_wp2
      go_ret
      exact ⟨by rw [HE.out]; rfl, hb⟩
    · have hp : 0 < (m : Int) := by omega
      have HM := Lib.hid hm
      have HR0 := fmt_step _ _ s hrel.out hm (by omega)
      obtain ⟨d, hd⟩ : ∃ d : Int, d = ((m % 10 : Nat) : Int) := ⟨_, rfl⟩
      have d0 : 0 ≤ d := by omega
      have d9 : d < 10 := by omega
      have HB0 : (((UInt8.ofNat (48 + m % 10)).toNat : Nat) : Int) = 48 + d := by rw [UInt8.toNat_ofNat', hd]; omega
      generalize UInt8.ofNat (48 + m % 10) = c at HR0 HB0
      have HR := Lib.hid HR0
      have HB := Lib.hid HB0
      clear HR0 HB0
      have hconv : ∀ W : World, (convert 215 9 (.slice (some ⟨W.heap.size, 0, none⟩) 1 1)).run Try.prog (W.alloc (.cells #[.int .u8 (48 + d)] 5)) = .ok (.string ⟨#[c]⟩) (W.alloc (.cells #[.int .u8 (48 + d)] 5)) := fun W =>
        run_convert_bytes_back (P := Try.prog) (W.alloc (.cells #[.int .u8 (48 + d)] 5)) _ _ _ ⟨W.heap.size, 0, none⟩ 1 [c] Try.underlying215 Try.underlying5 Try.underlying9 (fun j hj => by
          have hj0 : j = 0 := by simpa using hj
          subst hj0
          have hc := cell_of_row (W.alloc (.cells #[.int .u8 (48 + d)] 5)) W.heap.size 0 _ _ _ (heap_alloc_new W (.cells #[.int .u8 (48 + d)] 5))
          rw [show (⟨W.heap.size, 0, none⟩ : Addr).add 0 = ⟨W.heap.size, 0, none⟩ from rfl, hc]
          simp [HB.out])
      have hr1 : (m : Int) % 10 = d := by omega
      clear hd hm
      go_wp2
      go_roundw
      case rel => exact ⟨m / 10, by omega, by go_num, _, rfl, HR, hb.alloc hb.size _⟩
      case measure => simp [intOf]; have := HM.out; omega

def mTI (k : Int) : ByteArray := mT k.toNat
end Go.Proofs.Ytkmebahjnnnckaa
