/- Rows of Piece that came in: to, sz, and how they are opened. -/
import Derived.Test.YtogiocinhjbdkaaOpElPiece
import Derived.Test.YtogiocinhjbdkaaToPiece
import Derived.Laws.OwnMore
import Derived.Laws.MakeOwn
namespace Go.Proofs.Ytogiocinhjbdkaa
open Go.RowKit
set_option linter.unusedSimpArgs false
set_option linter.unusedVariables false

theorem Try.infoPiece : (Try.prog.info? 117).map (fun i => (i.zero, i.size, i.bytes)) = some (some (.agg #[.int .i64 0, .int .i64 0]), 2, 16) := by kernel_rfl
theorem elemPiece : Elem Try.prog 25 117 (.agg #[.int .i64 0, .int .i64 0]) 2 16 := ⟨Try.underlying25, info_parts Try.infoPiece, by decide, by decide⟩
def OwnPieceS (w : World) (l : List PieceM) (e : Ending) (w' : World) : Prop := ∃ v, e = .returned v ∧ Row w' (Rng w.heap.size w'.heap.size) 117 2 v (l.map PieceM.arr) ∧ Below w.heap.size w w'

set_option maxHeartbeats 4000000 in
set_option maxRecDepth 100000 in
theorem to_pieces (a : Option Addr) (cap : Nat) (l : List PieceM) (w : World) (hn : l.length ≤ 2097152) (h : EltsL w a 2 (l.map PieceM.arr)) :
    Calls Try.prog 18 #[.slice a l.length cap] w (OwnPieceS w l) := by
  have H := Lib.hid h
  clear h
  obtain ⟨n, hl⟩ : ∃ n, n = l.length := ⟨_, rfl⟩
  rw [← hl] at hn ⊢
  have HL := Lib.hid hl
  clear hl
  obtain ⟨i0, hi, hz0, hz1, hz2⟩ := info_parts Try.infoPiece
  go_enter Try.func18, Try.ntmps18
  go_wp2_with (at_make; refine wpList_make_full _ rfl _ _ 25 rfl w.heap.size 117 i0 _ 2 Try.underlying25 hi hz0 hz1 .i64 .i64 _ _ n rfl rfl rfl rfl (by rw [hz2]; omega) (by unfold maxLen; omega) (Nat.le_refl _) ?_; intro w0 hown0 hgrow0)
  have HB0 : Hid (Below w.heap.size w w0) := Lib.hid ((Below.refl _ _).grown hgrow0 (Nat.le_refl _) (by intro k hk; cases hk))
  have HU0 : Hid (Upto w0 w.heap.size 117 2 n 0 0 (fun i => ((l.map PieceM.arr).getD i #[]))) := Lib.hid (by
    obtain ⟨_, ⟨h, _⟩ | ⟨g, cap, cur, hv, hb, hg, hc, hm, hs, ht⟩⟩ := hown0
    · cases h
    · cases hv
      exact Upto.start hg (by omega))
  clear hown0 hgrow0
  go_loopw [4] (fun i wr => ∃ k : Nat, k ≤ n ∧ i = .int .i64 k ∧ Hid (Upto wr w.heap.size 117 2 n k 0 (fun i => ((l.map PieceM.arr).getD i #[]))) ∧ Hid (Below w.heap.size w wr)) (fun i _ => n + 1 - (intOf i).toNat)
  case atStart => exact ⟨0, by omega, rfl, HU0, HB0⟩
  case round =>
    clear HU0 HB0
    obtain ⟨k, hk, rfl, HU, HB⟩ := hrel
    by_cases hlt : k < n
    · have hk' : k < l.length := by have := HL.out; omega
      obtain ⟨x, rfl, hx1, hx2⟩ := (H.out.later HB.out) k l[k].arr (by simp [hk'])
      have HF : Hid ((fun i => ((l.map PieceM.arr).getD i #[])) k = l[k].arr) := Lib.hid (by simp [hk'])
      generalize l[k] = e at hx2 HF
      have HE := Lib.hid fun W => to_piece e W
      obtain ⟨y0, y1⟩ := e
      unfold PieceM.arr PieceM.val at *
      have HC : Hid (∀ j v, ([.int .i64 y0, .int .i64 y1] : List Value)[j]? = some v → wr.cell? ((x.add (k * 2)).add j) = some v) := Lib.hid fun j v hj => by
        have hjl : j < 2 := by have := (List.getElem?_eq_some_iff.1 hj).1; simpa using this
        rw [hx2 j hjl]; simpa using hj
      clear hx2
      have e1 : (k : Int) < (n : Int) := by omega
      have e0 : (0 : Int) ≤ (k : Int) := by omega
      go_wp2_with (first
        | (refine wpList_load_at rfl 120 (.tmp 18) rfl (x.add (k * 2)) (by go_simp) [.int .i64 y0, .int .i64 y1] _ HC.out Try.underlying120 rfl (by kernel_rfl) ?_)
        | (go_at_call 83; refine (HE.out _).mono ?_; rintro e w1 ⟨rfl, hb1⟩; have HB1 := Lib.hid (below_comp HB.out hb1); have HU1 := Lib.hid (HU.out.later hb1); clear hb1 HU)
        | (refine wpList_store_elem HU1.out HB1.out (Nat.le_refl _) hlt #[.int .i64 y0, .int .i64 y1] HF.out rfl (by simp [Value.oneCell']) rfl 117 (.tmp 21) (.tmp 20) rfl (by kernel_rfl) (by go_simp) (by go_simp) ?_; intro w2 hu2 hb2 hz2; have HU2 := Lib.hid hu2; have HB2 := Lib.hid hb2; clear hu2 hb2))
      go_roundw
      case rel => exact ⟨k + 1, by omega, by go_num, HU2, HB2⟩
      case measure => simp [intOf]; omega
    · obtain rfl : k = n := by omega
      have HR : Hid (Row wr (Rng w.heap.size wr.heap.size) 117 2 (.slice (some ⟨w.heap.size, 0, none⟩) k k) (l.map PieceM.arr)) := Lib.hid (by
        have hl2 : (l.map PieceM.arr).length = k := by rw [List.length_map]; exact HL.out.symm
        have h2 : Upto wr w.heap.size 117 2 (l.map PieceM.arr).length (l.map PieceM.arr).length 0 (fun i => ((l.map PieceM.arr).getD i #[])) := by rw [hl2]; exact HU.out
        have h3 := h2.to_row (S := Rng w.heap.size wr.heap.size) (c := k) (fun i x hx => by simp only [List.getD_eq_getElem?_getD]; rw [hx]; rfl) ⟨Nat.le_refl _, HU.out.lt⟩ (by omega) (by unfold maxLen; omega)
        rw [hl2] at h3
        exact h3)
      go_wp2
      exact bodyPost_ret (v := .slice (some ⟨w.heap.size, 0, none⟩) k k) (by simp [results, Try.results18, go_sem]) rfl ⟨_, rfl, HR.out, HB.out⟩

def PieceM.szL (l : List PieceM) : Nat := l.length
theorem PieceM.szL_ge (l : List PieceM) : l.length ≤ PieceM.szL l := Nat.le_refl _
set_option maxHeartbeats 4000000 in
set_option maxRecDepth 100000 in
theorem sz_pieces (a : Option Addr) (cap : Nat) (l : List PieceM) (left : Int) (w : World) (hl : l.length ≤ 9223372036854775807) (h : 0 ≤ left ∧ left ≤ 4194304) (_ : EltsL w a 2 (l.map PieceM.arr)) :
    Calls Try.prog 16 #[.slice a l.length cap, .int .i64 left] w fun e w' => e = .returned (.int .i64 (if left < (PieceM.szL l : Nat) then -1 else left - (PieceM.szL l : Nat))) ∧ Below w.heap.size w w' := by
  unfold PieceM.szL
  generalize l.length = len at hl ⊢
  by_cases hlt : left < len
  · rw [if_pos hlt]
    have h1 : left - len < 0 := by omega
    obtain ⟨h0, h2⟩ := h
    go_enter Try.func16, Try.ntmps16
    go_wp2
    go_ret
    exact ⟨rfl, Below.refl _ _⟩
  · rw [if_neg hlt]
    have h1 : ¬ left - len < 0 := by omega
    obtain ⟨h0, h2⟩ := h
    go_enter Try.func16, Try.ntmps16
    go_wp2
    go_ret
    exact ⟨rfl, Below.refl _ _⟩

namespace OpPieceS
section
variable {H : Type} {enc : TypeId × Value → H} {w : World} {base : Nat} {spare : Nat → Bool} {held : Bool}
theorem row {fuel : Nat} {c : Value} {x : DataW H × List MemPlace} (h : DataW.trod enc Try.prog w base spare held fuel 22 [c] = some x) :
    ∃ (a : Option Addr) (cap : Nat) (l : List PieceM), c = .slice a l.length cap ∧ EltsL w a 2 (l.map PieceM.arr) ∧ l.length ≤ maxLen ∧ ∀ z ∈ l, z.Wf :=
  open_row Try.underlying22 (by kernel_rfl) (by omega) (fun _ _ _ h => OpPiece.el h) h
end
end OpPieceS
end Go.Proofs.Ytogiocinhjbdkaa
