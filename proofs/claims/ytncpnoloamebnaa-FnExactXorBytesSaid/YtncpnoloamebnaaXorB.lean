/- XorBytes of both sides. -/
import Derived.Test.YtncpnoloamebnaaKit
import Derived.Test.YtncpnoloamebnaaBytesMath
import Derived.Laws.BitsAllLaws
import Derived.Laws.Tables
import Derived.Laws.CopyOwn
import Derived.Laws.Rows
import Derived.RegionTactic
import Derived.Laws.IdiomStrings
namespace Go.Proofs.Ytncpnoloamebnaa
open Go.RowKit
set_option linter.unusedSimpArgs false
set_option linter.unusedVariables false
def xorU (a b : ByteArray) (k : Nat) : UInt8 := a.data.toList.getD k 0 ^^^ b.data.toList.getD k 0
def xorL (a b : ByteArray) (n : Nat) : List UInt8 := (List.range n).map (xorU a b)
theorem xorL_next (a b : ByteArray) (k : Nat) : xorL a b k ++ [xorU a b k] = xorL a b (k + 1) := by
  unfold xorL; rw [List.range_succ, List.map_append]; rfl
theorem xorL_length (a b : ByteArray) (n : Nat) : (xorL a b n).length = n := by simp [xorL]
theorem getD_at (s : ByteArray) (k : Nat) (h : k < s.size) : s.data.toList.getD k 0 = s[k] := by
  rw [List.getD_eq_getElem?_getD, List.getElem?_eq_getElem (by simpa using h)]; rfl
theorem xorU_at (a b : ByteArray) (k : Nat) (ha : k < a.size) (hb : k < b.size) : bits .xor .u8 (a[k].toNat : Int) (b[k].toNat : Int) = ((xorU a b k).toNat : Int) := by
  rw [u8_xor_nat _ _ (UInt8.toNat_lt _) (UInt8.toNat_lt _)]
  unfold xorU
  rw [getD_at a k ha, getD_at b k hb, UInt8.toNat_xor]
def xorS (a b : ByteArray) : ByteArray := if a.size = b.size then ⟨(xorL a b a.size).toArray⟩ else ⟨#[]⟩
set_option maxHeartbeats 2000000 in
set_option maxRecDepth 100000 in
theorem spec_xor (a b : ByteArray) (w : World) (ha : a.size ≤ 4194304) (hb : b.size ≤ 4194304) :
    Calls Try.prog 25 #[.string a, .string b] w fun r w' => r = .returned (.string (xorS a b)) ∧ Below w.heap.size w w' := by
  by_cases h : a.size = b.size
  case neg =>
    have h' : ¬ (a.size : Int) = (b.size : Int) := by omega
    rw [show xorS a b = ⟨#[]⟩ from if_neg h]
    go_enter Try.func25, Try.ntmps25
    go_wp2
    go_ret
    exact ⟨rfl, Below.refl _ _⟩
  rw [show xorS a b = ⟨(xorL a b a.size).toArray⟩ from if_pos h]
  have h' : ((a.size : Int) != (b.size : Int)) = false := by simp; omega
  obtain ⟨i0, hi, hz0, hz1, hz2⟩ := info_parts Try.info8
  go_enter Try.func25, Try.ntmps25
  go_wp2
  go_loopw [5, 6] (fun v i wr => ∃ k : Nat, k ≤ a.size ∧ i = .int .i64 k ∧ wr.ownsRow w.heap.size 5 1 v k (u8s (xorL a b k)) ∧ Below w.heap.size w wr)
    (fun _ i _ => a.size + 1 - (intOf i).toNat)
  case atStart => exact ⟨0, Nat.zero_le _, rfl, World.ownsRow_lit w #[] 0 (Nat.le_refl _) (by unfold maxLen; omega) rfl, (Below.refl _ _).alloc (Nat.le_refl _) _⟩
  case round =>
    obtain ⟨k, hk, rfl, hown, hbl⟩ := hrel
    by_cases hlt : k < a.size
    · have hlb : k < b.size := by omega
      have e1 : (k : Int) < (a.size : Int) := by omega
      have e2 : (k : Int) < (b.size : Int) := by omega
      have e0 : (0 : Int) ≤ (k : Int) := by omega
      have ex := xorU_at a b k hlt hlb
      have HX : Hid (u8s (xorL a b k) ++ [.int .u8 ((xorU a b k).toNat : Int)] = u8s (xorL a b (k + 1))) := Lib.hid (by rw [← xorL_next, u8s_append]; rfl)
      have hz : w.heap.size ≤ wr.heap.size + 1 := by have := hbl.size; omega
      have m1 : k + 1 ≤ maxLen := by unfold maxLen; omega
      have m2 : (k + 1) * 1 ≤ 140737488355328 := by omega
      go_wp2_with fail
      go_region_law (first
        | (refine step_push rfl (.tmp 19) (.tmp 27) 64 rfl w.heap.size elem8 (by simp [go_sem, Act.eval]) (hown.alloc _) _ 1 1 [.int .u8 ((xorU a b k).toNat : Int)] (by simp [go_sem, Act.eval]) (heap_alloc_new _ _) rfl (by simp [Value.oneCell']) (by decide) m1 m2 (by simpa using hz) ?_; intro g cap w1 hown1 hgrow1))
      all_goals
        clear ex
        go_wp2
        rw [HX.out] at hown1
        go_roundw
        case rel => exact ⟨k + 1, by omega, by go_num, hown1, below_push_drew hbl hbl.size hown _ hgrow1⟩
        case measure => simp [intOf]; omega
    · obtain rfl : k = a.size := by omega
      have e1 : ¬ (a.size : Int) < (a.size : Int) := by omega
      have hs := run_string_own (P := Try.prog) (dst := 9) Try.underlying64 Try.underlying5 Try.underlying9 hown
      go_wp2
      go_ret
      exact ⟨rfl, hbl⟩
theorem frozen_off (w : World) (g j : Nat) (cs : Array Value) (t : TypeId) (n : Nat) (h : w.heap[g]? = some (.cells cs t (n, n + 1))) (hj : j < n) : w.frozen? ⟨g, j, none⟩ = false := by
  unfold World.frozen?
  rw [h]
  simp
  omega
set_option maxHeartbeats 2000000 in
set_option maxRecDepth 100000 in
theorem impl_xor (a b : ByteArray) (w : World) (ha : a.size ≤ 4194304) (hb : b.size ≤ 4194304) :
    Calls Try.prog 26 #[.string a, .string b] w fun r w' => r = .returned (.string (xorS a b)) ∧ Below w.heap.size w w' := by
  by_cases h : a.size = b.size
  case neg =>
    have h' : ¬ (a.size : Int) = (b.size : Int) := by omega
    rw [show xorS a b = ⟨#[]⟩ from if_neg h]
    go_enter Try.func26, Try.ntmps26
    go_wp2
    go_ret
    exact ⟨rfl, Below.refl _ _⟩
  rw [show xorS a b = ⟨(xorL a b a.size).toArray⟩ from if_pos h]
  have h' : ((a.size : Int) != (b.size : Int)) = false := by simp; omega
  have hsz : a.size = b.size := h
  have Hsz := Lib.hid h
  clear h
  obtain ⟨R, HR⟩ : ∃ R, Hid (R = bytesRow a (grownCap w a.size 0 5)) := ⟨_, Lib.hid rfl⟩
  have hcv := run_bytes_of_string (P := Try.prog) w 9 64 5 a Try.underlying9 Try.underlying64 Try.underlying5
  rw [← HR.out] at hcv
  have hRm : a.size ≤ R.size := by rw [HR.out]; unfold bytesRow; simp
  have HRa : Hid (∀ j, j < a.size → R[j]? = some (.int .u8 ((a.data.toList.getD j 0).toNat : Int))) := Lib.hid (fun j hj => by
    rw [HR.out, getD_at a j hj]
    unfold bytesRow
    rw [Array.getElem?_append_left (by simpa using hj)]
    simp
    exact ⟨_, Array.getElem?_eq_getElem (by simpa using hj), rfl⟩)
  clear hsz
  go_enter Try.func26, Try.ntmps26
  go_wp2
  obtain ⟨w1, hw1⟩ : ∃ w1, w1 = (w.alloc (.cells R 5 (R.size, R.size + 1))).drew := ⟨_, rfl⟩
  have HH : Hid (w1.heap[w.heap.size]? = some (.cells R 5 (R.size, R.size + 1))) := Lib.hid (hw1 ▸ heap_alloc_new w _)
  have hb1 : Below w.heap.size w w1 := hw1 ▸ (below_new _).drew
  rw [← hw1]
  clear hw1 hcv
  go_loopw [16] (fun i wr => ∃ k : Nat, k ≤ a.size ∧ i = .int .i64 k ∧ Hid (∃ cs : Array Value, wr.heap[w.heap.size]? = some (.cells cs 5 (R.size, R.size + 1)) ∧ cs.size = R.size ∧ (∀ j, j < k → cs[j]? = some (.int .u8 ((xorU a b j).toNat : Int))) ∧ ∀ j, k ≤ j → j < a.size → cs[j]? = some (.int .u8 ((a.data.toList.getD j 0).toNat : Int))) ∧ Hid (Below w.heap.size w wr)) (fun i _ => a.size + 1 - (intOf i).toNat)
  case atStart => exact ⟨0, by omega, rfl, Lib.hid ⟨R, HH.out, rfl, fun j hj => by omega, fun j _ hj => HRa.out j hj⟩, Lib.hid hb1⟩
  case round =>
    clear HH hb1
    obtain ⟨k, hk, rfl, HM, HB⟩ := hrel
    by_cases hlt : k < a.size
    · have hlb : k < b.size := by have := Hsz.out; omega
      obtain ⟨cur, hc1, hc2, hc3, hc4⟩ := HM.out
      have d1 : wr.cell? ⟨w.heap.size, k, none⟩ = some (.int .u8 (a[k].toNat : Int)) := by rw [cell_of_row wr w.heap.size k cur _ _ hc1, hc4 k (Nat.le_refl _) hlt, getD_at a k hlt]
      have d2 : wr.frozen? ⟨w.heap.size, k, none⟩ = false := frozen_off wr w.heap.size k cur _ R.size hc1 (by omega)
      have e1 : (k : Int) < (a.size : Int) := by omega
      have e2 : (k : Int) < (b.size : Int) := by omega
      have e0 : (0 : Int) ≤ (k : Int) := by omega
      have ex := xorU_at a b k hlt hlb
      have es : ∀ W : World, W.heap = wr.heap → W.setCell ⟨w.heap.size, k, none⟩ (.int .u8 ((xorU a b k).toNat : Int)) = W.setRow w.heap.size (cur.setIfInBounds k (.int .u8 ((xorU a b k).toNat : Int))) := fun W hW => setCell_eq_setRow W w.heap.size k cur 5 _ _ (by rw [hW]; exact hc1)
      have HM2 : Hid (∃ cs : Array Value, (wr.setRow w.heap.size (cur.setIfInBounds k (.int .u8 ((xorU a b k).toNat : Int)))).heap[w.heap.size]? = some (.cells cs 5 (R.size, R.size + 1)) ∧ cs.size = R.size ∧ (∀ j, j < k + 1 → cs[j]? = some (.int .u8 ((xorU a b j).toNat : Int))) ∧ ∀ j, k + 1 ≤ j → j < a.size → cs[j]? = some (.int .u8 ((a.data.toList.getD j 0).toNat : Int))) := Lib.hid (by
        refine ⟨_, setRow_heap wr w.heap.size cur _ _ _ hc1, by simpa using hc2, fun j hj => ?_, fun j hj1 hj2 => ?_⟩
        · by_cases e : j = k
          · subst e; simp [Array.getElem?_setIfInBounds, show j < cur.size by omega]
          · rw [Array.getElem?_setIfInBounds_ne (Ne.symm e)]; exact hc3 j (by omega)
        · rw [Array.getElem?_setIfInBounds_ne (by omega)]; exact hc4 j (by omega) hj2)
      have HB2 : Hid (Below w.heap.size w (wr.setRow w.heap.size (cur.setIfInBounds k (.int .u8 ((xorU a b k).toNat : Int))))) := Lib.hid (below_setRow HB.out (Nat.le_refl _) _)
      clear hc2 hc3 hc4
      go_wp2_with fail
      go_region
      all_goals
        clear es ex hc1
        go_wp2
        go_roundw
        case rel => exact ⟨k + 1, by omega, by go_num, HM2, Lib.hid HB2.out.drew⟩
        case measure => simp [intOf]; omega
    · obtain rfl : k = a.size := by omega
      have e1 : ¬ (a.size : Int) < (a.size : Int) := by omega
      have hs := run_convert_bytes_back (P := Try.prog) wr 64 9 5 ⟨w.heap.size, 0, none⟩ (grownCap w a.size 0 5) (xorL a b a.size) Try.underlying64 Try.underlying5 Try.underlying9 (fun j hj => by
        obtain ⟨cs, r1, r2, r3, _⟩ := HM.out
        have hadd : (⟨w.heap.size, 0, none⟩ : Addr).add j = ⟨w.heap.size, j, none⟩ := by unfold Addr.add; split <;> simp_all
        rw [hadd, cell_of_row wr w.heap.size j cs _ _ r1, r3 j (by simpa [xorL_length] using hj)]
        simp [xorL])
      rw [xorL_length] at hs
      go_wp2
      go_ret
      exact ⟨rfl, HB.out⟩
end Go.Proofs.Ytncpnoloamebnaa
