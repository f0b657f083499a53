/- PadBody of both sides. -/
import Derived.Test.YtkknfcnajgolfaaRowsU
import Derived.Test.YtkknfcnajgolfaaKit
import Derived.Test.YtkknfcnajgolfaaShelfR
namespace Go.Proofs.Ytkknfcnajgolfaa
open Go.RowKit
set_option linter.unusedSimpArgs false
set_option linter.unusedVariables false
theorem set_rep (n k : Nat) (c d : UInt8) (h : k < n) : (List.replicate k c ++ List.replicate (n - k) d).set k c = List.replicate (k + 1) c ++ List.replicate (n - (k + 1)) d := by
  obtain ⟨m, rfl⟩ : ∃ m, n = k + (m + 1) := ⟨n - k - 1, by omega⟩
  rw [show k + (m + 1) - k = m + 1 from by omega, show k + (m + 1) - (k + 1) = m from by omega, List.set_append_right _ _ (by simp), List.replicate_succ (n := m)]
  simp only [List.length_replicate, Nat.sub_self, List.set_cons_zero]
  rw [List.replicate_succ' (n := k), List.append_assoc]
  rfl
def longB (n : Nat) (c : UInt8) : ByteArray := ⟨(List.replicate n c).toArray⟩
theorem longB_size (n : Nat) (c : UInt8) : (longB n c).size = n := by
  show (List.replicate n c).toArray.size = n
  simp
set_option maxHeartbeats 2000000 in
set_option maxRecDepth 100000 in
theorem spec_long (n : Nat) (c : UInt8) (w : World) (hn : n ≤ 30000) :
    Calls Try.prog 72 #[.int .i64 n, .int .u8 c.toNat] w fun e w' => e = .returned (.string (longB n c)) ∧ Below w.heap.size w w' := by
  obtain ⟨i0, hi, hz0, hz1, hz2⟩ := info_parts Try.info8
  go_enter Try.func72, Try.ntmps72
  go_wp2_with (at_make; refine wpList_make_full _ rfl _ _ 76 rfl w.heap.size 5 i0 (.int .u8 0) 1 Try.underlying76 hi hz0 hz1 .i64 .i64 _ _ n rfl rfl rfl rfl (by rw [hz2]; omega) (by unfold maxLen; omega) (Nat.le_refl _) ?_; intro w0 hown0 hgrow0)
  have hb0 : Below w.heap.size w w0 := (Below.refl _ _).grown hgrow0 (Nat.le_refl _) (by intro k hk; cases hk)
  rw [show (Value.int IntKind.u8 0).cells = #[Value.int .u8 0] from rfl, u8s_zero] at hown0
  go_loopw [6] (fun i wr => ∃ k : Nat, k ≤ n ∧ i = .int .i64 k ∧ ∃ l : List UInt8, Hid (l = List.replicate k c ++ List.replicate (n - k) 0) ∧ Hid (l.length = n) ∧ wr.ownsRow w.heap.size 5 1 (.slice (some ⟨w.heap.size, 0, none⟩) n n) n (u8s l) ∧ Below w.heap.size w wr)
    (fun i _ => n - (intOf i).toNat)
  case atStart => exact ⟨0, Nat.zero_le _, rfl, List.replicate n 0, Lib.hid (by simp), Lib.hid (by simp), hown0, hb0⟩
  case round =>
    clear hown0 hgrow0 hb0
    obtain ⟨k, hk, rfl, l, HR, HL, hown, hb⟩ := hrel
    by_cases hlt : k < n
    · have hll : k < l.length := by have := HL.out; omega
      have hcell : wr.cell? ⟨w.heap.size, k, none⟩ = some (.int .u8 l[k].toNat) := by
        rw [hown.cellAt k (by omega)]; simp [u8s, List.getElem?_eq_getElem hll]
      have hfr := hown.frozenAt k
      have HO := Lib.hid hown
      have HR2 : Hid (l.set k c = List.replicate (k + 1) c ++ List.replicate (n - (k + 1)) 0) := Lib.hid (by rw [HR.out]; exact set_rep n k c 0 hlt)
      clear hown
      go_wp2
      go_roundw
      case rel =>
        refine ⟨k + 1, by omega, by go_num, l.set k c, HR2, Lib.hid (by simpa using (show l.length = n from HL.out)), ?_, hb.setCell (Nat.le_refl _) _⟩
        rw [← u8s_set]
        exact (HO.out.stored k _).1
      case measure => simp [intOf]; omega
    · obtain rfl : k = n := by omega
      have hs := run_string_own (P := Try.prog) (dst := 9) Try.underlying76 Try.underlying5 Try.underlying9 hown
      have HE : Hid ((⟨l.toArray⟩ : ByteArray) = longB k c) := Lib.hid (by rw [HR.out]; unfold longB; simp)
      go_wp2
      go_ret
      exact ⟨by rw [HE.out]; rfl, hb⟩
/-- Zero bytes behind a short string. -/
def padB (s : ByteArray) : ByteArray := if s.size < 46 then s ++ longB (46 - s.size) 0 else s
theorem spec_pad (s : ByteArray) (w : World) (hs : s.size ≤ 4194304) :
    Calls Try.prog 49 #[.string s] w fun e w' => e = .returned (.string (padB s)) ∧ Below w.heap.size w w' := by
  by_cases h : s.size < 46
  · have hi : (s.size : Int) < 46 := by omega
    have HC := Lib.hid fun W => (by have := spec_long (46 - s.size) 0 W (by omega); rwa [show ((46 - s.size : Nat) : Int) = 46 - (s.size : Int) from by omega] at this : Calls Try.prog 72 #[.int .i64 (46 - (s.size : Int)), .int .u8 0] W fun e w' => e = .returned (.string (longB (46 - s.size) 0)) ∧ Below W.heap.size W w')
    have HP : Hid (padB s = s ++ longB (46 - s.size) 0) := Lib.hid (if_pos h)
    have hz := longB_size (46 - s.size) 0
    have hz2 : (longB (46 - s.size) 0).size ≤ 46 := by omega
    clear hz
    go_enter Try.func49, Try.ntmps49
    go_wp2_with (go_at_call 72; refine (HC.out _).mono ?_; rintro e w1 ⟨rfl, hb1⟩)
    go_ret
    exact ⟨by rw [HP.out]; rfl, hb1⟩
  · have hi : ¬ (s.size : Int) < 46 := by omega
    have HP : Hid (padB s = s) := Lib.hid (if_neg h)
    go_enter Try.func49, Try.ntmps49
    go_wp2
    go_ret
    exact ⟨by rw [HP.out]; rfl, Below.refl _ _⟩
theorem repeat_one (n : Nat) : (⟨(Lib.repeatL [0] n).toArray⟩ : ByteArray) = longB n 0 := by
  unfold longB
  congr 2
  induction n with
  | zero => rfl
  | succ n ih => simp [Lib.repeatL, ih, List.replicate_succ]
theorem impl_pad (s : ByteArray) (w : World) (hs : s.size ≤ 4194304) :
    Calls Try.prog 53 #[.string s] w fun e w' => e = .returned (.string (padB s)) ∧ Below w.heap.size w w' := by
  have HC : ∀ n : Nat, n ≤ 46 → ∀ W, Calls Try.prog 80 #[.string ⟨#[0]⟩, .int .i64 n] W fun e w' => e = .returned (.string (longB n 0)) ∧ Below W.heap.size W w' := fun n hn W => by
    have := Try.strings_Repeat ⟨#[0]⟩ n W (by omega) (by show 1 * n ≤ _; omega)
    rwa [show (⟨#[0]⟩ : ByteArray).data.toList = [0] from rfl, repeat_one] at this
  by_cases h : s.size < 46
  · have H1 := Lib.hid fun W => (by have := HC (46 - s.size) (by omega) W; rwa [show ((46 - s.size : Nat) : Int) = 46 - (s.size : Int) from by omega] at this : Calls Try.prog 80 #[.string ⟨#[0]⟩, .int .i64 (46 - (s.size : Int))] W fun e w' => e = .returned (.string (longB (46 - s.size) 0)) ∧ Below W.heap.size W w')
    have HP : Hid (padB s = s ++ longB (46 - s.size) 0) := Lib.hid (if_pos h)
    have hz := longB_size (46 - s.size) 0
    have hz2 : (longB (46 - s.size) 0).size ≤ 46 := by omega
    have hmx : max (46 - (s.size : Int)) 0 = 46 - (s.size : Int) := by omega
    clear hz HC
    go_enter Try.func53, Try.ntmps53
    go_wp2_with fail
    refine (H1.out _).mono ?_
    rintro e w1 ⟨rfl, hb1⟩
    go_wp2
    go_ret
    exact ⟨by rw [HP.out]; rfl, hb1⟩
  · have H1 := Lib.hid fun W => HC 0 (by omega) W
    have HP : Hid (padB s = s) := Lib.hid (if_neg h)
    have hmx : max (46 - (s.size : Int)) 0 = 0 := by omega
    clear HC
    go_enter Try.func53, Try.ntmps53
    go_wp2_with fail
    refine (H1.out _).mono ?_
    rintro e w1 ⟨rfl, hb1⟩
    have hz : (longB 0 0).size ≤ 46 := by rw [longB_size]; omega
    go_wp2
    go_ret
    exact ⟨by rw [HP.out, show longB 0 0 = ByteArray.empty from rfl, ByteArray.append_empty]; rfl, hb1⟩
end Go.Proofs.Ytkknfcnajgolfaa
