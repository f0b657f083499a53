/- markPieceS, heldPieceS. -/
import Derived.Test.YthjajgpejfoghabRowPieceDef
namespace Go.Proofs.Ythjajgpejfoghab
open Go.RowKit
set_option linter.unusedSimpArgs false
set_option linter.unusedVariables false

set_option maxHeartbeats 4000000 in
set_option maxRecDepth 100000 in
theorem mark_pieces (w : World) (S : Nat → Prop) (q : Nat) (v : Value) (l : List PieceM) (hn : l.length ≤ 65536) (hq1 : 1 ≤ q) (hq : q ≤ 1048576) (h : Row w S 118 2 v (l.map PieceM.arr)) :
    Calls Try.prog 54 #[v, .int .i64 q] w fun e w' => e = .returned (.int .i64 ((q + l.length * 2 : Nat) : Int)) ∧ Row w' S 118 2 v ((PieceM.marks q l.length).map PieceM.arr) ∧ Touch w w' S := by
  by_cases hne : l.map PieceM.arr = []
  · obtain ⟨a, g, c, rfl, _, _⟩ := h.open
    have h0 : l = [] := by simpa using hne
    subst h0
    clear h
    go_enter Try.func54, Try.ntmps54
    go_wp2
    go_loop [1, 5] (fun x i => x = .int .i64 q ∧ i = .int .i64 0) (fun _ _ => 0)
    case atStart => exact ⟨rfl, rfl⟩
    case round =>
      obtain ⟨rfl, rfl⟩ := hrel
      go_wp2
      go_ret
      exact ⟨by simp, Row.nil _ _ _ _ _ _, Touch.refl _ _⟩
  obtain ⟨g, c, rfl, hSg, hc, hm, hU⟩ := h.upto hne (fun i => (PieceM.mkd (q + i * 2)).arr)
  rw [List.length_map] at hU hc ⊢
  generalize l.length = n at hU hc hn ⊢
  have HU0 := Lib.hid hU
  clear hU h hne
  go_enter Try.func54, Try.ntmps54
  go_wp2
  go_loopw [1, 5] (fun x i wr => ∃ k : Nat, k ≤ n ∧ i = .int .i64 k ∧ x = .int .i64 ((q + k * 2 : Nat) : Int) ∧ Hid (Upto wr g 118 2 n k 0 (fun i => (PieceM.mkd (q + i * 2)).arr)) ∧ Hid (Touch w wr S)) (fun _ i _ => n + 1 - (intOf i).toNat)
  case atStart => exact ⟨0, by omega, rfl, by simp, HU0, Lib.hid (Touch.refl _ _)⟩
  case round =>
    clear HU0
    obtain ⟨k, hk, rfl, rfl, HU, HT⟩ := hrel
    by_cases hlt : k < n
    · obtain ⟨Q, hQ⟩ : ∃ Q, Q = q + k * 2 := ⟨_, rfl⟩
      have hq2 : Q ≤ 4194304 := by omega
      have V0 : ((fun i => (PieceM.mkd (q + i * 2)).arr) k)[0]? = some (.int .i64 ((Q : Int))) := by
        show (PieceM.mkd (q + k * 2)).arr[0]? = _
        rw [← hQ]
        rfl
      have V1 : ((fun i => (PieceM.mkd (q + i * 2)).arr) k)[1]? = some (.int .i64 ((Q : Int) + 1)) := by
        show (PieceM.mkd (q + k * 2)).arr[1]? = _
        rw [← hQ]
        rfl
      have HV0 := Lib.hid V0
      have HV1 := Lib.hid V1
      rw [← hQ]
      have HQ := Lib.hid hQ
      clear hQ V0 V1

      have e1 : (k : Int) < (n : Int) := by omega
      have e0 : (0 : Int) ≤ (k : Int) := by omega
      have HU0 := Lib.hid HU.out
      have HT0 := Lib.hid HT.out
      clear HU HT
      go_wp2_with (first
        | (refine wpList_store_upto HU0.out HT0.out hSg hlt (by omega) (.int .i64 ((Q : Int))) HV0.out rfl rfl _ _ _ rfl (by kernel_rfl) (by go_simp) (by go_simp; first | done | omega) ?_; intro w1 hu1 ht1; have HU1 := Lib.hid hu1; have HT1 := Lib.hid ht1; clear hu1 ht1 HU0 HT0)
        | (refine wpList_store_upto HU1.out HT1.out hSg hlt (by omega) (.int .i64 ((Q : Int) + 1)) HV1.out rfl rfl _ _ _ rfl (by kernel_rfl) (by go_simp) (by go_simp; first | done | omega) ?_; intro w2 hu2 ht2; have HU2 := Lib.hid hu2; have HT2 := Lib.hid ht2; clear hu2 ht2 HU1 HT1))
      go_roundw
      case rel => exact ⟨k + 1, by omega, by go_num, by rw [show q + (k + 1) * 2 = Q + 2 by have := HQ.out; omega]; go_num, Lib.hid (Upto.next HU2.out), HT2⟩
      case measure => simp [intOf]; omega
    · obtain rfl : k = n := by omega
      have HR : Hid (Row wr S 118 2 (.slice (some ⟨g, 0, none⟩) k c) ((PieceM.marks q k).map PieceM.arr)) := Lib.hid (by
        have hl : ((PieceM.marks q k).map PieceM.arr).length = k := by simp [PieceM.marks]
        have h := HU.out
        have h2 : Upto wr g 118 2 ((PieceM.marks q k).map PieceM.arr).length ((PieceM.marks q k).map PieceM.arr).length 0 (fun i => (PieceM.mkd (q + i * 2)).arr) := by rw [hl]; exact h
        have h3 := h2.to_row (S := S) (c := c) (fun i x hx => by
          rw [List.getElem?_map] at hx
          have hi : i < k := by
            have := (List.getElem?_eq_some_iff.1 (by simpa using hx : ((PieceM.marks q k).map PieceM.arr)[i]? = some x)).1
            omega
          rw [PieceM.marks_at q k i hi] at hx
          simpa using hx) hSg (by omega) hm
        rw [hl] at h3
        exact h3)
      go_wp2
      go_ret
      exact ⟨rfl, HR.out, HT.out⟩
set_option maxHeartbeats 4000000 in
set_option maxRecDepth 100000 in
theorem held_pieces (w : World) (S : Nat → Prop) (q n : Nat) (v : Value) (T : TypeId) (hn : n ≤ 65536) (hq1 : 1 ≤ q) (hq : q ≤ 1048576) (h : Row w S T 2 v ((PieceM.marks q n).map PieceM.arr)) :
    Calls Try.prog 55 #[v, .int .i64 q] w fun e w' => e = .returned (.int .i64 ((q + n * 2 : Nat) : Int)) ∧ Below w.heap.size w w' := by
  obtain ⟨a, g, c, rfl, hV, _⟩ := h.open
  have hl : ((PieceM.marks q n).map PieceM.arr).length = n := by simp [PieceM.marks]
  rw [hl]
  have HV := Lib.hid hV
  have HL := Lib.hid hl
  clear h hV hl
  go_enter Try.func55, Try.ntmps55
  go_wp2
  go_loop [1, 5] (fun x i => ∃ k : Nat, k ≤ n ∧ i = .int .i64 k ∧ x = .int .i64 ((q + k * 2 : Nat) : Int)) (fun _ i => n + 1 - (intOf i).toNat)
  case atStart => exact ⟨0, by omega, rfl, by simp⟩
  case round =>
    obtain ⟨k, hk, rfl, rfl⟩ := hrel
    by_cases hlt : k < n
    · have hne : (PieceM.marks q n).map PieceM.arr ≠ [] := fun e => by have := HL.out; rw [e] at this; simp at this; omega
      obtain ⟨ea, _⟩ := HV.out.1 hne
      subst ea
      have x := HV.out.2 k (PieceM.mkd (q + k * 2)).arr (by rw [List.getElem?_map, PieceM.marks_at q n k hlt]; rfl)
      obtain ⟨Q, hQ⟩ : ∃ Q, Q = q + k * 2 := ⟨_, rfl⟩
      have hq2 : Q ≤ 4194304 := by omega
      rw [← hQ] at x ⊢
      have HQ := Lib.hid hQ
      clear hQ hne
      have d0 : w.cell? ⟨g, k * 2, none⟩ = some (.int .i64 ((Q : Int))) := x 0 (by omega)
      have d1 : w.cell? ⟨g, k * 2 + 1, none⟩ = some (.int .i64 ((Q : Int) + 1)) := x 1 (by omega)
      clear x

      have e1 : (k : Int) < (n : Int) := by omega
      have e0 : (0 : Int) ≤ (k : Int) := by omega
      go_wp2
      go_round
      case rel => exact ⟨k + 1, by omega, by go_num, by rw [show q + (k + 1) * 2 = Q + 2 by have := HQ.out; omega]; go_num⟩
      case measure => simp [intOf]; omega
    · obtain rfl : k = n := by omega
      go_wp2
      go_ret
      exact ⟨rfl, Below.refl _ _⟩
end Go.Proofs.Ythjajgpejfoghab
