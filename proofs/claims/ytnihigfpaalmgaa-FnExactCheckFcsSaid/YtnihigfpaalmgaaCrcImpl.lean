/- Contracts of the program's frame check. -/
import Derived.Test.YtnihigfpaalmgaaWordsImpl
import Derived.Test.YtnihigfpaalmgaaCrcSpec
import Derived.Laws.Cover3
import Derived.Laws.IdiomArrays
import Derived.Deep.RegionHeld3
import Derived.Deep.RegionWith
import Derived.BigRegion
import Derived.Laws.DeepStrings4
import Derived.ChangeKeysEq
namespace Go.Proofs.Ytnihigfpaalmgaa
open Go.RowKit

theorem ofInt32 (a : Nat) (ha : a < 4294967296) : (BitVec.ofInt 32 (a : Int)).toNat = a := by
  rw [BitVec.ofInt_natCast, BitVec.toNat_ofNat]; exact Nat.mod_eq_of_lt (by omega)
theorem xor32 (a b : Nat) (ha : a < 4294967296) (hb : b < 4294967296) : bits .xor .u32 (a : Int) (b : Int) = ((a ^^^ b : Nat) : Int) := by
  have hx : a ^^^ b < 2 ^ 32 := Nat.xor_lt_two_pow (by omega) (by omega)
  show IntKind.u32.wrap ((BitVec.ofInt 32 (a : Int) ^^^ BitVec.ofInt 32 (b : Int)).toNat : Int) = _
  rw [BitVec.toNat_xor, ofInt32 a ha, ofInt32 b hb, IntKind.wrap_u32]
  omega

set_option maxHeartbeats 2000000 in
set_option maxRecDepth 100000 in
theorem impl_crc (s : ByteArray) (w : World) (hs : s.size ≤ 4194304) :
    Calls Try.prog 35 #[.string s] w fun e w' => e = .returned (.int .i64 (crc s : Nat)) ∧ w = w' := by
  go_enter Try.func35, Try.ntmps35
  go_wp2
  go_loop [3, 8] (fun t i => ∃ k : Nat, k ≤ s.size ∧ i = .int .i64 k ∧ ∃ n : Nat, t = .int .u32 n ∧ n < 4294967296 ∧ Hid (n = crcL 4294967295 (s.data.toList.take k))) (fun _ i => s.size - (intOf i).toNat)
  case atStart => exact ⟨0, Nat.zero_le _, rfl, 4294967295, rfl, by omega, Lib.hid rfl⟩
  case round =>
    obtain ⟨k, hk, rfl, n, rfl, hn, HN⟩ := hrel
    by_cases hlt : k < s.size
    · have b1 : s[k].toNat < 256 := UInt8.toNat_lt _
      have ex : bits .xor .u32 (n : Int) (s[k].toNat : Int) = ((n ^^^ s[k].toNat : Nat) : Int) := xor32 _ _ (by omega) (by omega)
      have hx : n ^^^ s[k].toNat < 4294967296 := Nat.xor_lt_two_pow (n := 32) hn (by omega)
      have HB : Hid (crcN (n ^^^ s[k].toNat) 8 = crcL 4294967295 (s.data.toList.take (k + 1))) := Lib.hid (by rw [crcL_take s k hlt, ← HN.out]; rfl)
      generalize n ^^^ s[k].toNat = c at ex hx HB
      go_wp2
      go_loop [3, 17] (fun t j => ∃ m : Nat, m ≤ 8 ∧ j = .int .i64 m ∧ ∃ x : Nat, t = .int .u32 x ∧ x < 4294967296 ∧ Hid (x = crcN c m)) (fun _ j => 8 - (intOf j).toNat)
      case atStart => exact ⟨0, by omega, rfl, c, rfl, hx, Lib.hid rfl⟩
      case round =>
        clear ex
        obtain ⟨m, hm, rfl, x, rfl, hx2, HX⟩ := hrel
        by_cases hm8 : m < 8
        · have hm8' : (m : Int) < 8 := by omega
          have HS : Hid (crcStep x = crcN c (m + 1)) := Lib.hid (by rw [HX.out]; rfl)
          have HL : Hid (crcStep x < 4294967296) := Lib.hid (crcStep_lt x hx2)
          by_cases hodd : x % 2 = 1
          · have ey : bits .xor .u32 ((x : Int) / 2) 3988292384 = ((crcStep x : Nat) : Int) := by
              unfold crcStep
              rw [if_pos hodd, show (x : Int) / 2 = ((x / 2 : Nat) : Int) from by omega]
              exact xor32 (x / 2) poly (by omega) (by decide)
            have e1 : ((x : Int) % 2 != 0) = true := by rw [show (x : Int) % 2 = 1 from by omega]; rfl
            clear hodd
            go_wp2
            go_round
            case rel => exact ⟨m + 1, by omega, by go_num, crcStep x, rfl, HL.out, HS⟩
            case measure => simp [intOf] <;> omega
          · have e1 : ((x : Int) % 2 != 0) = false := by rw [show (x : Int) % 2 = 0 from by omega]; rfl
            have HY : Hid ((x : Int) / 2 = ((crcStep x : Nat) : Int)) := Lib.hid (by unfold crcStep; rw [if_neg hodd]; omega)
            clear hodd
            go_wp2
            go_round
            case rel => exact ⟨m + 1, by omega, by go_num, crcStep x, by rw [HY.out], HL.out, HS⟩
            case measure => simp [intOf] <;> omega
        · have hm9 : m = 8 := by omega
          have HC : Hid (x = crcL 4294967295 (s.data.toList.take (k + 1))) := Lib.hid (by rw [HX.out, hm9]; exact HB.out)
          have hm8' : ¬ (m : Int) < 8 := by omega
          clear hm9
          go_wp2
          go_round
          case rel => exact ⟨k + 1, by omega, by go_num, x, rfl, hx2, HC⟩
          case measure => simp [intOf] <;> omega
    · have HE : Hid ((4294967295 : Int) - n = ((crc s : Nat) : Int)) := Lib.hid (by
        have h1 := HN.out
        rw [List.take_of_length_le (by simp; omega)] at h1
        unfold crc
        rw [← h1]
        omega)
      go_wp2
      go_ret
      exact ⟨ret_int HE.out, rfl⟩

/-- The four check bytes as the program's array. -/
theorem impl_fcs (s : ByteArray) (w : World) (hs : s.size ≤ 4194304) :
    Calls Try.prog 50 #[.string s] w fun e w' => e = .returned (.agg #[.int .u8 ((crc s : Int) % 256), .int .u8 ((crc s : Int) / 256 % 256), .int .u8 ((crc s : Int) / 65536 % 256), .int .u8 ((crc s : Int) / 16777216)]) ∧ Below w.heap.size w w' := by
  have hc := crc_lt s
  go_enter Try.func50, Try.ntmps50
  go_wp2_with (go_at_call 35; refine (impl_crc s _ hs).mono ?_; rintro e w' ⟨rfl, rfl⟩)
  exact bodyPost_ret (v := .agg #[.int .u8 ((crc s : Int) % 256), .int .u8 ((crc s : Int) / 256 % 256), .int .u8 ((crc s : Int) / 65536 % 256), .int .u8 ((crc s : Int) / 16777216)]) (by simp [results, Try.results50, go_sem]) rfl ⟨rfl, (Below.refl _ _).alloc (Nat.le_refl _) _⟩

/-- 'string(b)' of four bytes that lie in a block of whatever type. -/
theorem conv_four_at (t : TypeId) (a b c d : Int) (ha : 0 ≤ a ∧ a < 256) (hb : 0 ≤ b ∧ b < 256) (hc : 0 ≤ c ∧ c < 256) (hd : 0 ≤ d ∧ d < 256) (W : World) :
    (convert 22 9 (.slice (some ⟨W.heap.size, 0, none⟩) 4 4)).run Try.prog (W.alloc (.cells #[.int .u8 a, .int .u8 b, .int .u8 c, .int .u8 d] t)) =
    .ok (.string ⟨#[UInt8.ofNat a.toNat, UInt8.ofNat b.toNat, UInt8.ofNat c.toNat, UInt8.ofNat d.toNat]⟩) (W.alloc (.cells #[.int .u8 a, .int .u8 b, .int .u8 c, .int .u8 d] t)) := by
  have h0 := run_convert_bytes_back (P := Try.prog) (W.alloc (.cells #[.int .u8 a, .int .u8 b, .int .u8 c, .int .u8 d] t)) 22 9 5 ⟨W.heap.size, 0, none⟩ 4 [UInt8.ofNat a.toNat, UInt8.ofNat b.toNat, UInt8.ofNat c.toNat, UInt8.ofNat d.toNat]
    Try.underlying22 Try.underlying5 Try.underlying9 (fun j hj => by
      have hadd : (⟨W.heap.size, 0, none⟩ : Addr).add j = ⟨W.heap.size, j, none⟩ := by unfold Addr.add; split <;> simp_all
      rw [hadd, cell_of_row _ _ j _ _ _ (heap_alloc_new W _)]
      have hj' : j < 4 := hj
      rcases (show j = 0 ∨ j = 1 ∨ j = 2 ∨ j = 3 by omega) with rfl | rfl | rfl | rfl <;> simp [UInt8.toNat_ofNat'] <;> omega)
  exact h0

theorem impl_with (s : ByteArray) (w : World) (hs : s.size ≤ 4194304) :
    Calls Try.prog 32 #[.string s] w fun e w' => e = .returned (.string (withF s)) ∧ Below w.heap.size w w' := by
  have hc := crc_lt s
  have hz4 : (fcs s).size ≤ 4 := Nat.le_refl _
  have hconv := conv_four_at 46 ((crc s : Int) % 256) ((crc s : Int) / 256 % 256) ((crc s : Int) / 65536 % 256) ((crc s : Int) / 16777216) (by omega) (by omega) (by omega) (by omega)
  rw [fcs_conv] at hconv
  go_enter Try.func32, Try.ntmps32
  go_wp2_with (go_at_call 50; refine (impl_fcs s _ hs).mono ?_; rintro e w' ⟨rfl, hb1⟩)
  go_ret
  exact ⟨rfl, hb1.alloc hb1.size _⟩

theorem cells8 : Try.prog.cellsOf 5 = 1 := by kernel_rfl
theorem eq_four (a0 a1 a2 a3 b0 b1 b2 b3 : Int) (W : World) :
    (Op.equalIn 10000 46 (.agg #[.int .u8 a0, .int .u8 a1, .int .u8 a2, .int .u8 a3]) (.agg #[.int .u8 b0, .int .u8 b1, .int .u8 b2, .int .u8 b3])).run Try.prog W =
      .ok (a0 == b0 && (a1 == b1 && (a2 == b2 && a3 == b3))) W := by
  obtain ⟨i, hi, _⟩ := info_parts Try.info8
  rw [run_equalIn_array W 9999 _ _ Try.underlying46 hi]
  simp only [show List.range 4 = [0, 1, 2, 3] from rfl, Op.eqItems, cells8, Sem.run_bind]
  simp [go_sem, run_equalIn_int, Try.underlying5]
  by_cases h0 : a0 = b0 <;> by_cases h1 : a1 = b1 <;> by_cases h2 : a2 = b2 <;> by_cases h3 : a3 = b3 <;> simp [h0, h1, h2, h3]
theorem low_eq (x : UInt8) (v : Int) : ((x.toNat : Int) = v % 256) ↔ x = low v := by
  constructor
  · intro h
    have h1 := low_toNat v
    exact UInt8.toNat_inj.1 (by omega)
  · rintro rfl
    exact low_toNat v
theorem good_bytes (s : ByteArray) (h : 4 ≤ s.size) (x0 x1 x2 x3 : UInt8) (hx : s.extract (s.size - 4) s.size = ⟨#[x0, x1, x2, x3]⟩) :
    ((x0.toNat : Int) == (crc (bodyF s) : Int) % 256 && ((x1.toNat : Int) == (crc (bodyF s) : Int) / 256 % 256 && ((x2.toNat : Int) == (crc (bodyF s) : Int) / 65536 % 256 && (x3.toNat : Int) == (crc (bodyF s) : Int) / 16777216))) = goodF s := by
  have hc := crc_lt (bodyF s)
  have e3 : (crc (bodyF s) : Int) / 16777216 = (crc (bodyF s) : Int) / 16777216 % 256 := by omega
  have hs : s = bodyF s ++ ⟨#[x0, x1, x2, x3]⟩ := by
    rw [← hx]
    unfold bodyF
    rw [ByteArray.extract_append_extract, Nat.min_eq_left (by omega), Nat.max_eq_right (by omega)]
    exact (ByteArray.extract_zero_size).symm
  rw [e3, Bool.eq_iff_iff]
  unfold goodF
  simp only [Bool.and_eq_true, beq_iff_eq, decide_eq_true_eq, low_eq]
  have hw : withF (bodyF s) = s ↔ fcs (bodyF s) = ⟨#[x0, x1, x2, x3]⟩ := by
    constructor
    · intro h1
      unfold withF at h1
      conv at h1 => rhs; rw [hs]
      exact ByteArray.append_right_inj _ |>.1 h1
    · intro h1
      unfold withF
      rw [h1]
      exact hs.symm
  rw [hw]
  unfold fcs
  constructor
  · rintro ⟨rfl, rfl, rfl, rfl⟩
    exact ⟨h, rfl⟩
  · rintro ⟨_, h1⟩
    have h2 := congrArg (fun b : ByteArray => b.data.toList) h1
    simp at h2
    exact ⟨h2.1.symm, h2.2.1.symm, h2.2.2.1.symm, h2.2.2.2.symm⟩
theorem below_comp {A W W' : World} (h1 : Below A.heap.size A W) (h2 : Below W.heap.size W W') : Below A.heap.size A W' := h1.trans (h2.mono h1.size)
theorem bcell {W w1 : World} (hb : Below W.heap.size W w1) : (∀ b o, b < W.heap.size → w1.cell? ⟨b, o, none⟩ = W.cell? ⟨b, o, none⟩) ∧ (∀ b o, b < W.heap.size → w1.frozen? ⟨b, o, none⟩ = W.frozen? ⟨b, o, none⟩) :=
  ⟨fun b o h => hb.cell (p := ⟨b, o, none⟩) h, fun b o h => hb.frozen (p := ⟨b, o, none⟩) h⟩
theorem four_bytes (t : ByteArray) (h : t.size = 4) : ∃ a b c d : UInt8, t = ⟨#[a, b, c, d]⟩ := by
  obtain ⟨⟨l⟩⟩ := t
  rcases l with _ | ⟨a, _ | ⟨b, _ | ⟨c, _ | ⟨d, _ | ⟨e, r⟩⟩⟩⟩⟩
  · simp [ByteArray.size] at h
  · simp [ByteArray.size] at h
  · simp [ByteArray.size] at h
  · simp [ByteArray.size] at h
  · exact ⟨a, b, c, d, rfl⟩
  · simp [ByteArray.size] at h

/-- '[]byte(s)' of four bytes: a new block, whatever room it has. -/
theorem conv_back (x0 x1 x2 x3 : UInt8) : ∃ (cap : World → Nat) (nw : World → World), ∀ W, (convert 9 22 (.string ⟨#[x0, x1, x2, x3]⟩)).run Try.prog W = .ok (.slice (some ⟨W.heap.size, 0, none⟩) 4 (cap W)) (nw W) ∧
    ((nw W).cell? ⟨W.heap.size, 0, none⟩ = some (.int .u8 x0.toNat) ∧ (nw W).cell? ⟨W.heap.size, 1, none⟩ = some (.int .u8 x1.toNat) ∧ (nw W).cell? ⟨W.heap.size, 2, none⟩ = some (.int .u8 x2.toNat) ∧ (nw W).cell? ⟨W.heap.size, 3, none⟩ = some (.int .u8 x3.toNat)) ∧
    Below W.heap.size W (nw W) ∧ W.heap.size < (nw W).heap.size := by
  refine ⟨fun W => grownCap W 4 0 5, _, fun W => ⟨run_bytes_of_string W 9 22 5 _ Try.underlying9 Try.underlying22 Try.underlying5, ?_, ?_, ?_⟩⟩
  · have hc := heap_alloc_new W.drew (.cells (bytesRow ⟨#[x0, x1, x2, x3]⟩ (grownCap W 4 0 5)) 5 ((bytesRow ⟨#[x0, x1, x2, x3]⟩ (grownCap W 4 0 5)).size, (bytesRow ⟨#[x0, x1, x2, x3]⟩ (grownCap W 4 0 5)).size + 1))
    have hc' := fun j => cell_of_row _ _ j _ _ _ hc
    refine ⟨(hc' 0).trans ?_, (hc' 1).trans ?_, (hc' 2).trans ?_, (hc' 3).trans ?_⟩ <;> (unfold bytesRow; rw [Array.getElem?_append_left (by simp)]; simp)
  · exact ((Below.refl _ _).drew).alloc (Nat.le_refl _) _
  · simp

set_option maxHeartbeats 1000000 in
theorem impl_check (s : ByteArray) (w : World) (hs : s.size ≤ 4194304) :
    Calls Try.prog 33 #[.string s] w fun e w' => e = .returned (.tuple #[.string (checkS s), .bool (goodF s)]) ∧ Below w.heap.size w w' := by
  by_cases h4 : s.size < 4
  · have HG : Hid (goodF s = false) := Lib.hid (by unfold goodF; rw [decide_eq_false (by omega)]; rfl)
    have h4' : (s.size : Int) < 4 := by omega
    go_enter Try.func33, Try.ntmps33
    go_wp2
    go_ret2
    exact ⟨ret_check HG.out, Below.refl _ _⟩
  · have h4' : ¬ (s.size : Int) < 4 := by omega
    have c1 : (s.size : Int) - 4 ≤ (s.size : Int) := by omega
    have c2 : 0 ≤ (s.size : Int) - 4 := by omega
    have e1 : ((s.size : Int) - 4).toNat = s.size - 4 := by omega
    have z1 : (bodyF s).size ≤ 4194304 := by unfold bodyF; rw [ByteArray.size_extract]; omega
    have zb : (bodyF s).size = s.size - 4 := by unfold bodyF; rw [ByteArray.size_extract]; omega
    have HB : Hid (s.extract 0 (s.size - 4) = bodyF s) := Lib.hid rfl
    obtain ⟨x0, x1, x2, x3, hx⟩ := four_bytes (s.extract (s.size - 4) s.size) (by rw [ByteArray.size_extract]; omega)
    go_enter Try.func33, Try.ntmps33
    go_wp2_with fail
    rw [HB.out]
    have zc : ((bodyF s).size : Int) = (s.size : Int) - 4 := by omega
    obtain ⟨cap, nw, HN⟩ := conv_back x0 x1 x2 x3
    have n1 := fun W => (HN W).1
    have n2 := fun W => (HN W).2.1.1
    have n3 := fun W => (HN W).2.1.2.1
    have n4 := fun W => (HN W).2.1.2.2.1
    have n5 := fun W => (HN W).2.1.2.2.2
    have n6 := fun W => (HN W).2.2.2
    have HNB := Lib.hid fun W => (HN W).2.2.1
    clear HN
    have hat : ∀ (a : Option Addr) (c : Nat) W, (Instr.arrayAt 46 (.slice a 4 c)).run Try.prog W = .ok (.pointer a) W := fun a c W => run_arrayAt W 46 _ 4 a 4 c Try.underlying46 (Nat.le_refl _)
    have m2 : (nw w.drew).cell? ⟨w.heap.size, 0, none⟩ = some (.int .u8 x0.toNat) := n2 w.drew
    have m3 : (nw w.drew).cell? ⟨w.heap.size, 1, none⟩ = some (.int .u8 x1.toNat) := n3 w.drew
    have m4 : (nw w.drew).cell? ⟨w.heap.size, 2, none⟩ = some (.int .u8 x2.toNat) := n4 w.drew
    have m5 : (nw w.drew).cell? ⟨w.heap.size, 3, none⟩ = some (.int .u8 x3.toNat) := n5 w.drew
    have m6 : w.heap.size < (nw w.drew).heap.size := n6 w.drew
    have hgood := good_bytes s (by omega) x0 x1 x2 x3 hx
    have heq := eq_four x0.toNat x1.toNat x2.toNat x3.toNat ((crc (bodyF s) : Int) % 256) ((crc (bodyF s) : Int) / 256 % 256) ((crc (bodyF s) : Int) / 65536 % 256) ((crc (bodyF s) : Int) / 16777216)
    rw [hgood] at heq
    clear hgood
    have hd : Below w.heap.size w w.drew := (Below.refl _ _).drew
    cases hg : goodF s
    all_goals
      rw [hg] at heq
      have HG := Lib.hid hg
      clear hg
      go_region_with (go_at_call 50; refine (impl_fcs (bodyF s) _ z1).mono ?_; rintro e w1 ⟨rfl, hb1⟩; obtain ⟨hc, hf⟩ := bcell hb1)
      all_goals
        go_wp2
        go_ret2
        exact ⟨ret_check HG.out, by first | exact below_comp (below_comp hd (HNB.out w.drew)) hb1 | exact below_comp (below_comp hd hb1) (HNB.out w1)⟩

end Go.Proofs.Ytnihigfpaalmgaa
