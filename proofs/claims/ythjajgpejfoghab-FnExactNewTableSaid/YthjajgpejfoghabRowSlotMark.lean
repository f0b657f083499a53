/- markSlotS, heldSlotS. -/
import Derived.Test.YthjajgpejfoghabRowSlotDef
namespace Go.Proofs.Ythjajgpejfoghab
open Go.RowKit
set_option linter.unusedSimpArgs false
set_option linter.unusedVariables false

set_option maxHeartbeats 4000000 in
set_option maxRecDepth 100000 in
theorem mark_slots (w : World) (S : Nat → Prop) (q : Nat) (v : Value) (l : List SlotM) (hn : l.length ≤ 65536) (hq1 : 1 ≤ q) (hq : q ≤ 1048576) (h : Row w S 142 7 v (l.map SlotM.arr)) :
    Calls Try.prog 87 #[v, .int .i64 q] w fun e w' => e = .returned (.int .i64 ((q + l.length * 7 : Nat) : Int)) ∧ Row w' S 142 7 v ((SlotM.marks q l.length).map SlotM.arr) ∧ Touch w w' S := by
  by_cases hne : l.map SlotM.arr = []
  · obtain ⟨a, g, c, rfl, _, _⟩ := h.open
    have h0 : l = [] := by simpa using hne
    subst h0
    clear h
    go_enter Try.func87, Try.ntmps87
    go_wp2
    go_loop [1, 5] (fun x i => x = .int .i64 q ∧ i = .int .i64 0) (fun _ _ => 0)
    case atStart => exact ⟨rfl, rfl⟩
    case round =>
      obtain ⟨rfl, rfl⟩ := hrel
      go_wp2
      go_ret
      exact ⟨by simp, Row.nil _ _ _ _ _ _, Touch.refl _ _⟩
  obtain ⟨g, c, rfl, hSg, hc, hm, hU⟩ := h.upto hne (fun i => (SlotM.mkd (q + i * 7)).arr)
  rw [List.length_map] at hU hc ⊢
  generalize l.length = n at hU hc hn ⊢
  have HU0 := Lib.hid hU
  clear hU h hne
  go_enter Try.func87, Try.ntmps87
  go_wp2
  go_loopw [1, 5] (fun x i wr => ∃ k : Nat, k ≤ n ∧ i = .int .i64 k ∧ x = .int .i64 ((q + k * 7 : Nat) : Int) ∧ Hid (Upto wr g 142 7 n k 0 (fun i => (SlotM.mkd (q + i * 7)).arr)) ∧ Hid (Touch w wr S)) (fun _ i _ => n + 1 - (intOf i).toNat)
  case atStart => exact ⟨0, by omega, rfl, by simp, HU0, Lib.hid (Touch.refl _ _)⟩
  case round =>
    clear HU0
    obtain ⟨k, hk, rfl, rfl, HU, HT⟩ := hrel
    by_cases hlt : k < n
    · obtain ⟨Q, hQ⟩ : ∃ Q, Q = q + k * 7 := ⟨_, rfl⟩
      have hq2 : Q ≤ 4194304 := by omega
      have V0 : ((fun i => (SlotM.mkd (q + i * 7)).arr) k)[0]? = some (.int .i64 ((Q : Int))) := by
        show (SlotM.mkd (q + k * 7)).arr[0]? = _
        rw [← hQ]
        rfl
      have V1 : ((fun i => (SlotM.mkd (q + i * 7)).arr) k)[1]? = some (.int .i64 ((Q : Int) + 1)) := by
        show (SlotM.mkd (q + k * 7)).arr[1]? = _
        rw [← hQ]
        rfl
      have V2 : ((fun i => (SlotM.mkd (q + i * 7)).arr) k)[2]? = some (.int .i64 ((Q : Int) + 2)) := by
        show (SlotM.mkd (q + k * 7)).arr[2]? = _
        rw [← hQ]
        rfl
      have V3 : ((fun i => (SlotM.mkd (q + i * 7)).arr) k)[3]? = some (.int .i64 ((Q : Int) + 3)) := by
        show (SlotM.mkd (q + k * 7)).arr[3]? = _
        rw [← hQ]
        rfl
      have V4 : ((fun i => (SlotM.mkd (q + i * 7)).arr) k)[4]? = some (.int .i64 ((Q : Int) + 4)) := by
        show (SlotM.mkd (q + k * 7)).arr[4]? = _
        rw [← hQ]
        rfl
      have V5 : ((fun i => (SlotM.mkd (q + i * 7)).arr) k)[5]? = some (.int .i64 ((Q : Int) + 5)) := by
        show (SlotM.mkd (q + k * 7)).arr[5]? = _
        rw [← hQ]
        rfl
      have V6 : ((fun i => (SlotM.mkd (q + i * 7)).arr) k)[6]? = some (.int .i64 ((Q : Int) + 6)) := by
        show (SlotM.mkd (q + k * 7)).arr[6]? = _
        rw [← hQ]
        rfl
      have HV0 := Lib.hid V0
      have HV1 := Lib.hid V1
      have HV2 := Lib.hid V2
      have HV3 := Lib.hid V3
      have HV4 := Lib.hid V4
      have HV5 := Lib.hid V5
      have HV6 := Lib.hid V6
      rw [← hQ]
      have HQ := Lib.hid hQ
      clear hQ V0 V1 V2 V3 V4 V5 V6

      have e1 : (k : Int) < (n : Int) := by omega
      have e0 : (0 : Int) ≤ (k : Int) := by omega
      have HU0 := Lib.hid HU.out
      have HT0 := Lib.hid HT.out
      clear HU HT
      go_wp2_with (first
        | (refine wpList_store_upto HU0.out HT0.out hSg hlt (by omega) (.int .i64 ((Q : Int))) HV0.out rfl rfl _ _ _ rfl (by kernel_rfl) (by go_simp) (by go_simp; first | done | omega) ?_; intro w1 hu1 ht1; have HU1 := Lib.hid hu1; have HT1 := Lib.hid ht1; clear hu1 ht1 HU0 HT0)
        | (refine wpList_store_upto HU1.out HT1.out hSg hlt (by omega) (.int .i64 ((Q : Int) + 1)) HV1.out rfl rfl _ _ _ rfl (by kernel_rfl) (by go_simp) (by go_simp; first | done | omega) ?_; intro w2 hu2 ht2; have HU2 := Lib.hid hu2; have HT2 := Lib.hid ht2; clear hu2 ht2 HU1 HT1)
        | (refine wpList_store_upto HU2.out HT2.out hSg hlt (by omega) (.int .i64 ((Q : Int) + 2)) HV2.out rfl rfl _ _ _ rfl (by kernel_rfl) (by go_simp) (by go_simp; first | done | omega) ?_; intro w3 hu3 ht3; have HU3 := Lib.hid hu3; have HT3 := Lib.hid ht3; clear hu3 ht3 HU2 HT2)
        | (refine wpList_store_upto HU3.out HT3.out hSg hlt (by omega) (.int .i64 ((Q : Int) + 3)) HV3.out rfl rfl _ _ _ rfl (by kernel_rfl) (by go_simp) (by go_simp; first | done | omega) ?_; intro w4 hu4 ht4; have HU4 := Lib.hid hu4; have HT4 := Lib.hid ht4; clear hu4 ht4 HU3 HT3)
        | (refine wpList_store_upto HU4.out HT4.out hSg hlt (by omega) (.int .i64 ((Q : Int) + 4)) HV4.out rfl rfl _ _ _ rfl (by kernel_rfl) (by go_simp) (by go_simp; first | done | omega) ?_; intro w5 hu5 ht5; have HU5 := Lib.hid hu5; have HT5 := Lib.hid ht5; clear hu5 ht5 HU4 HT4)
        | (refine wpList_store_upto HU5.out HT5.out hSg hlt (by omega) (.int .i64 ((Q : Int) + 5)) HV5.out rfl rfl _ _ _ rfl (by kernel_rfl) (by go_simp) (by go_simp; first | done | omega) ?_; intro w6 hu6 ht6; have HU6 := Lib.hid hu6; have HT6 := Lib.hid ht6; clear hu6 ht6 HU5 HT5)
        | (refine wpList_store_upto HU6.out HT6.out hSg hlt (by omega) (.int .i64 ((Q : Int) + 6)) HV6.out rfl rfl _ _ _ rfl (by kernel_rfl) (by go_simp) (by go_simp; first | done | omega) ?_; intro w7 hu7 ht7; have HU7 := Lib.hid hu7; have HT7 := Lib.hid ht7; clear hu7 ht7 HU6 HT6))
      go_roundw
      case rel => exact ⟨k + 1, by omega, by go_num, by rw [show q + (k + 1) * 7 = Q + 7 by have := HQ.out; omega]; go_num, Lib.hid (Upto.next HU7.out), HT7⟩
      case measure => simp [intOf]; omega
    · obtain rfl : k = n := by omega
      have HR : Hid (Row wr S 142 7 (.slice (some ⟨g, 0, none⟩) k c) ((SlotM.marks q k).map SlotM.arr)) := Lib.hid (by
        have hl : ((SlotM.marks q k).map SlotM.arr).length = k := by simp [SlotM.marks]
        have h := HU.out
        have h2 : Upto wr g 142 7 ((SlotM.marks q k).map SlotM.arr).length ((SlotM.marks q k).map SlotM.arr).length 0 (fun i => (SlotM.mkd (q + i * 7)).arr) := by rw [hl]; exact h
        have h3 := h2.to_row (S := S) (c := c) (fun i x hx => by
          rw [List.getElem?_map] at hx
          have hi : i < k := by
            have := (List.getElem?_eq_some_iff.1 (by simpa using hx : ((SlotM.marks q k).map SlotM.arr)[i]? = some x)).1
            omega
          rw [SlotM.marks_at q k i hi] at hx
          simpa using hx) hSg (by omega) hm
        rw [hl] at h3
        exact h3)
      go_wp2
      go_ret
      exact ⟨rfl, HR.out, HT.out⟩
set_option maxHeartbeats 4000000 in
set_option maxRecDepth 100000 in
theorem held_slots (w : World) (S : Nat → Prop) (q n : Nat) (v : Value) (T : TypeId) (hn : n ≤ 65536) (hq1 : 1 ≤ q) (hq : q ≤ 1048576) (h : Row w S T 7 v ((SlotM.marks q n).map SlotM.arr)) :
    Calls Try.prog 88 #[v, .int .i64 q] w fun e w' => e = .returned (.int .i64 ((q + n * 7 : Nat) : Int)) ∧ Below w.heap.size w w' := by
  obtain ⟨a, g, c, rfl, hV, _⟩ := h.open
  have hl : ((SlotM.marks q n).map SlotM.arr).length = n := by simp [SlotM.marks]
  rw [hl]
  have HV := Lib.hid hV
  have HL := Lib.hid hl
  clear h hV hl
  go_enter Try.func88, Try.ntmps88
  go_wp2
  go_loop [1, 5] (fun x i => ∃ k : Nat, k ≤ n ∧ i = .int .i64 k ∧ x = .int .i64 ((q + k * 7 : Nat) : Int)) (fun _ i => n + 1 - (intOf i).toNat)
  case atStart => exact ⟨0, by omega, rfl, by simp⟩
  case round =>
    obtain ⟨k, hk, rfl, rfl⟩ := hrel
    by_cases hlt : k < n
    · have hne : (SlotM.marks q n).map SlotM.arr ≠ [] := fun e => by have := HL.out; rw [e] at this; simp at this; omega
      obtain ⟨ea, _⟩ := HV.out.1 hne
      subst ea
      have x := HV.out.2 k (SlotM.mkd (q + k * 7)).arr (by rw [List.getElem?_map, SlotM.marks_at q n k hlt]; rfl)
      obtain ⟨Q, hQ⟩ : ∃ Q, Q = q + k * 7 := ⟨_, rfl⟩
      have hq2 : Q ≤ 4194304 := by omega
      rw [← hQ] at x ⊢
      have HQ := Lib.hid hQ
      clear hQ hne
      have d0 : w.cell? ⟨g, k * 7, none⟩ = some (.int .i64 ((Q : Int))) := x 0 (by omega)
      have d1 : w.cell? ⟨g, k * 7 + 1, none⟩ = some (.int .i64 ((Q : Int) + 1)) := x 1 (by omega)
      have d2 : w.cell? ⟨g, k * 7 + 2, none⟩ = some (.int .i64 ((Q : Int) + 2)) := x 2 (by omega)
      have d3 : w.cell? ⟨g, k * 7 + 3, none⟩ = some (.int .i64 ((Q : Int) + 3)) := x 3 (by omega)
      have d4 : w.cell? ⟨g, k * 7 + 4, none⟩ = some (.int .i64 ((Q : Int) + 4)) := x 4 (by omega)
      have d5 : w.cell? ⟨g, k * 7 + 5, none⟩ = some (.int .i64 ((Q : Int) + 5)) := x 5 (by omega)
      have d6 : w.cell? ⟨g, k * 7 + 6, none⟩ = some (.int .i64 ((Q : Int) + 6)) := x 6 (by omega)
      clear x

      have e1 : (k : Int) < (n : Int) := by omega
      have e0 : (0 : Int) ≤ (k : Int) := by omega
      go_wp2
      go_round
      case rel => exact ⟨k + 1, by omega, by go_num, by rw [show q + (k + 1) * 7 = Q + 7 by have := HQ.out; omega]; go_num⟩
      case measure => simp [intOf]; omega
    · obtain rfl : k = n := by omega
      go_wp2
      go_ret
      exact ⟨rfl, Below.refl _ _⟩
end Go.Proofs.Ythjajgpejfoghab
