/- Rows of strings that came in: to, sz, and how they are opened. -/
import Derived.Test.YtgajpbopfehclaaRows4
import Derived.Test.YtgajpbopfehclaaRowString
import Derived.Test.YtgajpbopfehclaaEthMath
import Derived.Laws.OwnMore
import Derived.Laws.MakeOwn
namespace Go.Proofs.Ytgajpbopfehclaa
open Go.RowKit
set_option linter.unusedSimpArgs false
set_option linter.unusedVariables false

theorem Try.info_strr : (Try.prog.info? 9).map (fun i => (i.zero, i.size, i.bytes)) = some (some (.string ⟨#[]⟩), 1, 16) := by kernel_rfl
theorem elem_strr : Elem Try.prog 22 9 (.string ⟨#[]⟩) 1 16 := ⟨Try.underlying22, info_parts Try.info_strr, by decide, by decide⟩
def Own_strr (w : World) (l : List ByteArray) (e : Ending) (w' : World) : Prop := ∃ v, e = .returned v ∧ Row w' (Rng w.heap.size w'.heap.size) 9 1 v (l.map strrA) ∧ Below w.heap.size w w'

set_option maxHeartbeats 4000000 in
set_option maxRecDepth 100000 in
theorem to_strrs (a : Option Addr) (cap : Nat) (l : List ByteArray) (w : World) (hn : l.length ≤ 2097152) (h : EltsL w a 1 (l.map strrA)) :
    Calls Try.prog 92 #[.slice a l.length cap] w (Own_strr w l) := by
  have H := Lib.hid h
  clear h
  obtain ⟨n, hl⟩ : ∃ n, n = l.length := ⟨_, rfl⟩
  rw [← hl] at hn ⊢
  have HL := Lib.hid hl
  clear hl
  obtain ⟨i0, hi, hz0, hz1, hz2⟩ := info_parts Try.info_strr
  go_enter Try.func92, Try.ntmps92
  go_wp2_with (at_make; refine wpList_make_full _ rfl _ _ 22 rfl w.heap.size 9 i0 _ 1 Try.underlying22 hi hz0 hz1 .i64 .i64 _ _ n rfl rfl rfl rfl (by rw [hz2]; omega) (by unfold maxLen; omega) (Nat.le_refl _) ?_; intro w0 hown0 hgrow0)
  have HB0 : Hid (Below w.heap.size w w0) := Lib.hid ((Below.refl _ _).grown hgrow0 (Nat.le_refl _) (by intro k hk; cases hk))
  have HU0 : Hid (Upto w0 w.heap.size 9 1 n 0 0 (fun i => ((l.map strrA).getD i #[]))) := Lib.hid (by
    obtain ⟨_, ⟨h, _⟩ | ⟨g, cap, cur, hv, hb, hg, hc, hm, hs, ht⟩⟩ := hown0
    · cases h
    · cases hv
      exact Upto.start hg (by omega))
  clear hown0 hgrow0
  go_loopw [4] (fun i wr => ∃ k : Nat, k ≤ n ∧ i = .int .i64 k ∧ Hid (Upto wr w.heap.size 9 1 n k 0 (fun i => ((l.map strrA).getD i #[]))) ∧ Hid (Below w.heap.size w wr)) (fun i _ => n + 1 - (intOf i).toNat)
  case atStart => exact ⟨0, by omega, rfl, HU0, HB0⟩
  case round =>
    clear HU0 HB0
    obtain ⟨k, hk, rfl, HU, HB⟩ := hrel
    by_cases hlt : k < n
    · have hk' : k < l.length := by have := HL.out; omega
      obtain ⟨x, rfl, hx1, hx2⟩ := (H.out.later HB.out) k (strrA l[k]) (by simp [hk'])
      have HF : Hid (((fun i => ((l.map strrA).getD i #[])) k)[0]? = some (.string l[k])) := Lib.hid (by simp [hk', strrA])
      have d0 : wr.cell? (x.add k) = some (.string l[k]) := by have := hx2 0 (by omega); simpa [Addr.add, strrA] using this
      generalize l[k] = e at d0 HF
      clear hx2
      have e1 : (k : Int) < (n : Int) := by omega
      have e0 : (0 : Int) ≤ (k : Int) := by omega
      obtain ⟨u, d1⟩ := HU.out.some_at k 0 hlt (by omega)
      have d2 : wr.frozen? ⟨w.heap.size, k, none⟩ = false := HU.out.fr _
      simp only [Nat.mul_one, Nat.add_zero] at d1
      have HU2 : Hid (Upto (wr.setCell ⟨w.heap.size, k, none⟩ (.string e)) w.heap.size 9 1 n (k + 1) 0 (fun i => ((l.map strrA).getD i #[]))) := Lib.hid (by
        have h := Upto.next (Upto.set0 HU.out hlt (by omega) HF.out)
        rwa [Nat.mul_one] at h)
      have HB2 : Hid (Below w.heap.size w (wr.setCell ⟨w.heap.size, k, none⟩ (.string e))) := Lib.hid (Below.setCell HB.out (Nat.le_refl _) _)
      go_wp2
      go_roundw
      case rel => exact ⟨k + 1, by omega, by go_num, HU2, HB2⟩
      case measure => simp [intOf]; omega
    · obtain rfl : k = n := by omega
      have HR : Hid (Row wr (Rng w.heap.size wr.heap.size) 9 1 (.slice (some ⟨w.heap.size, 0, none⟩) k k) (l.map strrA)) := Lib.hid (by
        have hl2 : (l.map strrA).length = k := by rw [List.length_map]; exact HL.out.symm
        have h2 : Upto wr w.heap.size 9 1 (l.map strrA).length (l.map strrA).length 0 (fun i => ((l.map strrA).getD i #[])) := by rw [hl2]; exact HU.out
        have h3 := h2.to_row (S := Rng w.heap.size wr.heap.size) (c := k) (fun i x hx => by simp only [List.getD_eq_getElem?_getD]; rw [hx]; rfl) ⟨Nat.le_refl _, HU.out.lt⟩ (by omega) (by unfold maxLen; omega)
        rw [hl2] at h3
        exact h3)
      go_wp2
      exact bodyPost_ret (v := .slice (some ⟨w.heap.size, 0, none⟩) k k) (by simp [results, Try.results92, go_sem]) rfl ⟨_, rfl, HR.out, HB.out⟩

def strr_tot : List ByteArray → Nat
  | [] => 0
  | x :: r => x.size + strr_tot r
def strr_sz (l : List ByteArray) : Nat := l.length + strr_tot l
theorem strr_sz_ge (l : List ByteArray) : l.length ≤ strr_sz l := Nat.le_add_right _ _
theorem strr_tot_take (l : List ByteArray) (k : Nat) : strr_tot (l.take k) ≤ strr_tot l := by
  induction l generalizing k with
  | nil => simp [strr_tot]
  | cons x r ih => cases k with
    | zero => simp [strr_tot]
    | succ k => simp only [List.take_succ_cons, strr_tot]; have := ih k; omega
theorem strr_tot_snoc (l : List ByteArray) (k : Nat) (h : k < l.length) : strr_tot (l.take (k + 1)) = strr_tot (l.take k) + l[k].size := by
  induction l generalizing k with
  | nil => simp at h
  | cons x r ih => cases k with
    | zero => simp [strr_tot]
    | succ k => simp only [List.take_succ_cons, strr_tot, List.getElem_cons_succ]; have := ih k (by simpa using h); omega
theorem strr_mem (l : List ByteArray) (x : ByteArray) (h : x ∈ l) : x.size ≤ strr_tot l := by
  induction l with
  | nil => cases h
  | cons y r ih => rcases List.mem_cons.1 h with rfl | h; exact Nat.le_add_right _ _; have := ih h; simp only [strr_tot]; omega
set_option maxHeartbeats 4000000 in
set_option maxRecDepth 100000 in
theorem sz_strrs (a : Option Addr) (cap : Nat) (l : List ByteArray) (left : Int) (w : World) (hn : l.length ≤ 9223372036854775807) (h : 0 ≤ left ∧ left ≤ 4194304) (hs : ∀ z ∈ l, z.size ≤ maxLen) (E : EltsL w a 1 (l.map strrA)) :
    Calls Try.prog 90 #[.slice a l.length cap, .int .i64 left] w fun e w' => e = .returned (.int .i64 (if left < (strr_sz l : Nat) then -1 else left - (strr_sz l : Nat))) ∧ Below w.heap.size w w' := by
  have HE := Lib.hid E
  have HS := Lib.hid hs
  clear E hs
  obtain ⟨n, hl⟩ : ∃ n, n = l.length := ⟨_, rfl⟩
  obtain ⟨T, hT⟩ : ∃ T, T = strr_sz l := ⟨_, rfl⟩
  have HT : Hid (∀ k, k ≤ l.length → l.length + strr_tot (l.take k) ≤ T) := Lib.hid fun k _ => by rw [hT]; unfold strr_sz; have := strr_tot_take l k; omega
  have HTE : Hid (l.length + strr_tot (l.take l.length) = T) := Lib.hid (by rw [hT, List.take_length]; rfl)
  rw [← hT]
  have HR := Lib.hid (show (if left < (T : Int) then (-1 : Int) else left - T) = (if left < (T : Int) then (-1 : Int) else left - T) from rfl)
  obtain ⟨R, hR⟩ : ∃ R, R = (if left < (T : Int) then (-1 : Int) else left - T) := ⟨_, rfl⟩
  rw [← hR]
  have HRR := Lib.hid hR
  clear hR hT HR
  rw [← hl] at hn ⊢
  have HL := Lib.hid hl
  clear hl
  by_cases h0 : left < n
  · have h1 : left - n < 0 := by omega
    have HQ : Hid (R = -1) := Lib.hid (by rw [HRR.out]; exact if_pos (by have := HT.out 0 (by omega); have := HL.out; simp only [List.take_zero, strr_tot] at *; omega))
    go_enter Try.func90, Try.ntmps90
    go_wp2
    go_ret
    exact ⟨ret_int HQ.out.symm, Below.refl _ _⟩
  have h1 : ¬ left - n < 0 := by omega
  go_enter Try.func90, Try.ntmps90
  go_wp2
  go_loop [1, 5] (fun lf i => ∃ k : Nat, k ≤ n ∧ i = .int .i64 k ∧ lf = .int .i64 (left - n - (strr_tot (l.take k) : Nat)) ∧ (strr_tot (l.take k) : Int) ≤ left - n) (fun _ i => n + 1 - (intOf i).toNat)
  case atStart => exact ⟨0, by omega, rfl, by simp [strr_tot], by simp [strr_tot]; omega⟩
  case round =>
    obtain ⟨k, hk, rfl, rfl, hle⟩ := hrel
    by_cases hlt : k < n
    · have hk' : k < l.length := by have := HL.out; omega
      obtain ⟨x, rfl, hx1, hx2⟩ := HE.out k (strrA l[k]) (by simp [hk'])
      have d0 : w.cell? (x.add k) = some (.string l[k]) := by have := hx2 0 (by omega); simpa [Addr.add, strrA] using this
      have hz := HS.out l[k] (List.getElem_mem _)
      unfold maxLen at hz
      have HSN := Lib.hid (strr_tot_snoc l k hk')
      have HT1 := HT.out (k + 1) (by omega)
      have hsn := HSN.out
      generalize l[k] = e at d0 HSN hz hsn
      have hll := HL.out
      generalize strr_tot (l.take k) = s at hle HSN hsn
      generalize hs2 : strr_tot (l.take (k + 1)) = s2 at HSN HT1 hsn
      have HS2 := Lib.hid hs2
      have HLL := Lib.hid hll
      clear hx2 hs2 hsn
      have e1 : (k : Int) < (n : Int) := by omega
      have e0 : (0 : Int) ≤ (k : Int) := by omega
      by_cases hc : left - n - s - e.size < 0
      · have HQ : Hid (R = -1) := Lib.hid (by rw [HRR.out]; exact if_pos (by have := HSN.out; have := HLL.out; omega))
        clear hll
        go_wp2
        go_ret
        exact ⟨ret_int HQ.out.symm, Below.refl _ _⟩
      · clear hll
        go_wp2
        go_round
        case rel => exact ⟨k + 1, by omega, by go_num, by rw [HS2.out, HSN.out]; first | go_num | (congr 1; omega), by rw [HS2.out, HSN.out]; omega⟩
        case measure => simp [intOf]; omega
    · obtain rfl : k = n := by omega
      have HQ : Hid (R = left - k - (strr_tot (l.take k) : Nat)) := Lib.hid (by
        have h2 := HTE.out
        rw [← HL.out] at h2
        rw [HRR.out, if_neg (by omega)]
        omega)
      go_wp2
      go_ret
      exact ⟨ret_int HQ.out.symm, Below.refl _ _⟩

namespace Op_strr
open Go.Joins Go.ChangeShapes Go.WideShapes Go.RowKit Go.Deep
section
variable {H : Type} {enc : TypeId × Value → H} {w : World} {base : Nat} {spare : Nat → Bool} {held : Bool}
theorem el {n0 : Nat} {cs : List Value} {x : DataW H × List MemPlace} (h : DataW.trod enc Try.prog w base spare held n0 9 cs = some x) : ∃ z : ByteArray, cs = (strrA z).toList ∧ (fun x => x.size ≤ maxLen) z := by
  obtain ⟨a, rfl, _⟩ := DataW.trod_string Try.underlying9 h
  obtain ⟨b, hb, w0⟩ := part_string Try.underlying9 h; exact ⟨b, by rw [hb]; rfl, w0⟩
theorem row {fuel : Nat} {c : Value} {x : DataW H × List MemPlace} (h : DataW.trod enc Try.prog w base spare held fuel 22 [c] = some x) :
    ∃ (a : Option Addr) (cap : Nat) (l : List ByteArray), c = .slice a l.length cap ∧ EltsL w a 1 (l.map strrA) ∧ l.length ≤ maxLen ∧ ∀ z ∈ l, (fun x => x.size ≤ maxLen) z :=
  open_row Try.underlying22 (by kernel_rfl) (by omega) (fun _ _ _ h => el h) h
end
end Op_strr
end Go.Proofs.Ytgajpbopfehclaa
