/- Rows of ints that came in: to, sz, and how they are opened. -/
import Derived.Test.YtogiocinhjbdkaaRows4
import Derived.Test.YtogiocinhjbdkaaRowInt
import Derived.Test.YtogiocinhjbdkaaEthMath
import Derived.Laws.OwnMore
import Derived.Laws.MakeOwn
namespace Go.Proofs.Ytogiocinhjbdkaa
open Go.RowKit
set_option linter.unusedSimpArgs false
set_option linter.unusedVariables false

theorem Try.info_intr : (Try.prog.info? 3).map (fun i => (i.zero, i.size, i.bytes)) = some (some (.int .i64 0), 1, 8) := by kernel_rfl
theorem elem_intr : Elem Try.prog 48 3 (.int .i64 0) 1 8 := ⟨Try.underlying48, info_parts Try.info_intr, by decide, by decide⟩
def Own_intr (w : World) (l : List Int) (e : Ending) (w' : World) : Prop := ∃ v, e = .returned v ∧ Row w' (Rng w.heap.size w'.heap.size) 3 1 v (l.map intrA) ∧ Below w.heap.size w w'

set_option maxHeartbeats 4000000 in
set_option maxRecDepth 100000 in
theorem to_intrs (a : Option Addr) (cap : Nat) (l : List Int) (w : World) (hn : l.length ≤ 2097152) (h : EltsL w a 1 (l.map intrA)) :
    Calls Try.prog 43 #[.slice a l.length cap] w (Own_intr w l) := by
  have H := Lib.hid h
  clear h
  obtain ⟨n, hl⟩ : ∃ n, n = l.length := ⟨_, rfl⟩
  rw [← hl] at hn ⊢
  have HL := Lib.hid hl
  clear hl
  obtain ⟨i0, hi, hz0, hz1, hz2⟩ := info_parts Try.info_intr
  go_enter Try.func43, Try.ntmps43
  go_wp2_with (at_make; refine wpList_make_full _ rfl _ _ 48 rfl w.heap.size 3 i0 _ 1 Try.underlying48 hi hz0 hz1 .i64 .i64 _ _ n rfl rfl rfl rfl (by rw [hz2]; omega) (by unfold maxLen; omega) (Nat.le_refl _) ?_; intro w0 hown0 hgrow0)
  have HB0 : Hid (Below w.heap.size w w0) := Lib.hid ((Below.refl _ _).grown hgrow0 (Nat.le_refl _) (by intro k hk; cases hk))
  have HU0 : Hid (Upto w0 w.heap.size 3 1 n 0 0 (fun i => ((l.map intrA).getD i #[]))) := Lib.hid (by
    obtain ⟨_, ⟨h, _⟩ | ⟨g, cap, cur, hv, hb, hg, hc, hm, hs, ht⟩⟩ := hown0
    · cases h
    · cases hv
      exact Upto.start hg (by omega))
  clear hown0 hgrow0
  go_loopw [4] (fun i wr => ∃ k : Nat, k ≤ n ∧ i = .int .i64 k ∧ Hid (Upto wr w.heap.size 3 1 n k 0 (fun i => ((l.map intrA).getD i #[]))) ∧ Hid (Below w.heap.size w wr)) (fun i _ => n + 1 - (intOf i).toNat)
  case atStart => exact ⟨0, by omega, rfl, HU0, HB0⟩
  case round =>
    clear HU0 HB0
    obtain ⟨k, hk, rfl, HU, HB⟩ := hrel
    by_cases hlt : k < n
    · have hk' : k < l.length := by have := HL.out; omega
      obtain ⟨x, rfl, hx1, hx2⟩ := (H.out.later HB.out) k (intrA l[k]) (by simp [hk'])
      have HF : Hid (((fun i => ((l.map intrA).getD i #[])) k)[0]? = some (.int .i64 l[k])) := Lib.hid (by simp [hk', intrA])
      have d0 : wr.cell? (x.add k) = some (.int .i64 l[k]) := by have := hx2 0 (by omega); simpa [Addr.add, intrA] using this
      generalize l[k] = e at d0 HF
      clear hx2
      have e1 : (k : Int) < (n : Int) := by omega
      have e0 : (0 : Int) ≤ (k : Int) := by omega
      obtain ⟨u, d1⟩ := HU.out.some_at k 0 hlt (by omega)
      have d2 : wr.frozen? ⟨w.heap.size, k, none⟩ = false := HU.out.fr _
      simp only [Nat.mul_one, Nat.add_zero] at d1
      have HU2 : Hid (Upto (wr.setCell ⟨w.heap.size, k, none⟩ (.int .i64 e)) w.heap.size 3 1 n (k + 1) 0 (fun i => ((l.map intrA).getD i #[]))) := Lib.hid (by
        have h := Upto.next (Upto.set0 HU.out hlt (by omega) HF.out)
        rwa [Nat.mul_one] at h)
      have HB2 : Hid (Below w.heap.size w (wr.setCell ⟨w.heap.size, k, none⟩ (.int .i64 e))) := Lib.hid (Below.setCell HB.out (Nat.le_refl _) _)
      go_wp2
      go_roundw
      case rel => exact ⟨k + 1, by omega, by go_num, HU2, HB2⟩
      case measure => simp [intOf]; omega
    · obtain rfl : k = n := by omega
      have HR : Hid (Row wr (Rng w.heap.size wr.heap.size) 3 1 (.slice (some ⟨w.heap.size, 0, none⟩) k k) (l.map intrA)) := Lib.hid (by
        have hl2 : (l.map intrA).length = k := by rw [List.length_map]; exact HL.out.symm
        have h2 : Upto wr w.heap.size 3 1 (l.map intrA).length (l.map intrA).length 0 (fun i => ((l.map intrA).getD i #[])) := by rw [hl2]; exact HU.out
        have h3 := h2.to_row (S := Rng w.heap.size wr.heap.size) (c := k) (fun i x hx => by simp only [List.getD_eq_getElem?_getD]; rw [hx]; rfl) ⟨Nat.le_refl _, HU.out.lt⟩ (by omega) (by unfold maxLen; omega)
        rw [hl2] at h3
        exact h3)
      go_wp2
      exact bodyPost_ret (v := .slice (some ⟨w.heap.size, 0, none⟩) k k) (by simp [results, Try.results43, go_sem]) rfl ⟨_, rfl, HR.out, HB.out⟩

def intr_sz (l : List Int) : Nat := l.length
set_option maxHeartbeats 4000000 in
set_option maxRecDepth 100000 in
theorem sz_intrs (a : Option Addr) (cap : Nat) (l : List Int) (left : Int) (w : World) (hl : l.length ≤ 9223372036854775807) (h : 0 ≤ left ∧ left ≤ 4194304) (_ : EltsL w a 1 (l.map intrA)) :
    Calls Try.prog 99 #[.slice a l.length cap, .int .i64 left] w fun e w' => e = .returned (.int .i64 (if left < (intr_sz l : Nat) then -1 else left - (intr_sz l : Nat))) ∧ Below w.heap.size w w' := by
  unfold intr_sz
  generalize l.length = len at hl ⊢
  by_cases hlt : left < len
  · rw [if_pos hlt]
    have h1 : left - len < 0 := by omega
    obtain ⟨h0, h2⟩ := h
    go_enter Try.func99, Try.ntmps99
    go_wp2
    go_ret
    exact ⟨rfl, Below.refl _ _⟩
  · rw [if_neg hlt]
    have h1 : ¬ left - len < 0 := by omega
    obtain ⟨h0, h2⟩ := h
    go_enter Try.func99, Try.ntmps99
    go_wp2
    go_ret
    exact ⟨rfl, Below.refl _ _⟩

namespace Op_intr
open Go.Joins Go.ChangeShapes Go.WideShapes Go.RowKit Go.Deep
section
variable {H : Type} {enc : TypeId × Value → H} {w : World} {base : Nat} {spare : Nat → Bool} {held : Bool}
theorem el {n0 : Nat} {cs : List Value} {x : DataW H × List MemPlace} (h : DataW.trod enc Try.prog w base spare held n0 3 cs = some x) : ∃ z : Int, cs = (intrA z).toList ∧ (fun x => I64 x) z := by
  obtain ⟨a, rfl, _⟩ := DataW.trod_int Try.underlying3 h
  obtain ⟨b, hb, w0⟩ := part_int Try.underlying3 h; exact ⟨b, by rw [hb]; rfl, i64_bd w0⟩
theorem row {fuel : Nat} {c : Value} {x : DataW H × List MemPlace} (h : DataW.trod enc Try.prog w base spare held fuel 48 [c] = some x) :
    ∃ (a : Option Addr) (cap : Nat) (l : List Int), c = .slice a l.length cap ∧ EltsL w a 1 (l.map intrA) ∧ l.length ≤ maxLen ∧ ∀ z ∈ l, (fun x => I64 x) z :=
  open_row Try.underlying48 (by kernel_rfl) (by omega) (fun _ _ _ h => el h) h
end
end Op_intr
end Go.Proofs.Ytogiocinhjbdkaa
