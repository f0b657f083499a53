/- DrawSplitFields gives a string of at most 3000 bytes and leaves what was there. -/
import Derived.Test.YtcflfpdcphkoeaaDoorDrawText
import Derived.Laws.Concat
namespace Go.Proofs.YtcflfpdcphkoeaaDoor
open Go.RowKit

theorem pickS_any (n c : Nat) (b : Nat) (P : ByteArray → Prop) (B g : Nat) (A : Option Addr) (len cap : Nat) (w : World) (hc : Cur w B g A len cap) (hn : 0 < n) (hn2 : n ≤ 1000) (hb : b ≠ g)
    (hcell : ∀ j, j < n → ∃ v : ByteArray, P v ∧ w.cell? ⟨b, j, none⟩ = some (.string v)) :
    Calls Tryd.prog 30 #[.pointer (some ⟨g, 0, none⟩), .slice (some ⟨b, 0, none⟩) n c] w fun e w' => ∃ v : ByteArray, P v ∧ e = .returned (.string v) ∧ Cur w' B g A len cap ∧ w.grownBy w' (some g) := by
  have HC := Lib.hid hc
  have HK := Lib.hid hcell
  clear hc hcell
  go_enter Tryd.func30, Tryd.ntmps30
  go_wp2_with fail
  refine (below_any n B g A len cap _ HC.out (by omega) (by omega)).mono ?_
  rintro e w1 ⟨x, x0, x1, rfl, hc1, hg1⟩
  obtain ⟨v, hv, hcv⟩ := HK.out x.toNat (by omega)
  have hcv1 : w1.cell? ⟨b, x.toNat, none⟩ = some (.string v) := hg1.cell hcv (by simpa using hb)
  go_wp2
  go_ret
  exact ⟨v, hv, rfl, hc1, hg1⟩

/-- Where the draws of the line stand: the cursor's block lies at B, what was there before is as it was. -/
structure At (w0 wr : World) (A : Option Addr) (len cap : Nat) : Prop where
  cur : Cur wr w0.heap.size w0.heap.size A len cap
  bel : Below w0.heap.size w0 wr
theorem At.step {w0 w w' : World} {A : Option Addr} {len cap : Nat} (h : At w0 w A len cap) (hc : Cur w' w0.heap.size w0.heap.size A len cap) (hg : w.grownBy w' (some w0.heap.size)) : At w0 w' A len cap :=
  ⟨hc, below_of_cur h.bel h.bel.size hg (Nat.le_refl _)⟩
theorem At.below {w0 w w' : World} {A : Option Addr} {len cap : Nat} (h : At w0 w A len cap) (hb : Below w.heap.size w w') : At w0 w' A len cap := by
  obtain ⟨hc, hlo, i, x, hi, hblk⟩ := h.cur
  have hlt := h.cur.lt
  exact ⟨⟨hc.below (hb.mono (by omega)), hlo, i, x, hi, (hb.block _ hlt).trans hblk⟩, h.bel.trans (hb.mono h.bel.size)⟩
theorem At.alloc {w0 w : World} {A : Option Addr} {len cap : Nat} (h : At w0 w A len cap) (o : Obj) : At w0 (w.alloc o) A len cap := h.below ((Below.refl _ _).alloc (Nat.le_refl _) o)

theorem small_mul (x y : Int) (x0 : 0 ≤ x) (x1 : x < 2) (y0 : 0 ≤ y) (y1 : y < 3) : ∃ m : Nat, m ≤ 3 ∧ 1 + x * y = (m : Int) := by
  rcases (show x = 0 ∨ x = 1 by omega) with rfl | rfl
  · exact ⟨1, by omega, by omega⟩
  · exact ⟨(1 + y).toNat, by omega, by omega⟩
theorem size_one (c : UInt8) : (⟨#[c]⟩ : ByteArray).size = 1 := rfl
/-- 'string([]byte{..})' of one byte. -/
theorem conv_one (d : Int) (h0 : 0 ≤ d) (h1 : d < 256) : ∀ W : World, (convert 22 9 (.slice (some ⟨W.heap.size, 0, none⟩) 1 1)).run Tryd.prog (W.alloc (.cells #[.int .u8 d] 5)) = .ok (.string ⟨#[UInt8.ofNat d.toNat]⟩) (W.alloc (.cells #[.int .u8 d] 5)) := fun W =>
  run_convert_bytes_back (P := Tryd.prog) (W.alloc (.cells #[.int .u8 d] 5)) _ _ _ ⟨W.heap.size, 0, none⟩ 1 [UInt8.ofNat d.toNat] Tryd.underlying22 Tryd.underlying5 Tryd.underlying9 (fun j hj => by
    have hj0 : j = 0 := by simpa using hj
    subst hj0
    have hc := cell_of_row (W.alloc (.cells #[.int .u8 d] 5)) W.heap.size 0 _ _ _ (heap_alloc_new W (.cells #[.int .u8 d] 5))
    rw [show (⟨W.heap.size, 0, none⟩ : Addr).add 0 = ⟨W.heap.size, 0, none⟩ from rfl, hc]
    simp [UInt8.toNat_ofNat']
    omega)

set_option maxHeartbeats 4000000 in
set_option maxRecDepth 100000 in
theorem draw_fields (A : Option Addr) (len cap : Nat) (w : World) (hcode : Code w w.heap.size A len) :
    Calls Tryd.prog 15 #[.slice A len cap] w fun e w' => ∃ s : ByteArray, s.size ≤ 3000 ∧ e = .returned (.string s) ∧ Below w.heap.size w w' := by
  have HC := Lib.hid hcode
  clear hcode
  go_enter Tryd.func15, Tryd.ntmps15
  go_wp2_with fail
  refine (new_any A len cap _ HC.out).mono ?_
  rintro e w1 ⟨rfl, hc1, hb1⟩
  have T1 : At w w1 A len cap := ⟨hc1, hb1⟩
  clear hc1 hb1
  go_wp2_with fail
  refine (below_any 9 _ _ A len cap _ T1.cur (by omega) (by omega)).mono ?_
  rintro e w2 ⟨n0, n00, n01, rfl, hc2, hg2⟩
  have T2 := T1.step hc2 hg2
  clear hc2 hg2
  obtain ⟨n1, hn1, rfl⟩ : ∃ n1 : Nat, n1 ≤ 8 ∧ n0 = n1 := ⟨n0.toNat, by omega, by omega⟩
  clear n00 n01
  go_wp2_with fail
  refine (once_any 15 _ _ A len cap _ T2.cur (by omega) (by omega)).mono ?_
  rintro e w3 ⟨b, rfl, hc3, hg3⟩
  have T3 := T2.step hc3 hg3
  clear hc3 hg3
  go_upto_if 13 with (fail)
  go_cut [4] (fun s4 wx => ∃ n : Nat, n ≤ 25 ∧ s4 = .int .i64 n ∧ At w wx A len cap)
  case first =>
    cases b
    · go_wp2_with fail
      go_meet
      exact ⟨n1, by omega, rfl, T3⟩
    · go_wp2_with fail
      refine (below_any 2 _ _ A len cap _ T3.cur (by omega) (by omega)).mono ?_
      rintro e w4 ⟨x, x0, x1, rfl, hc4, hg4⟩
      have T4 := T3.step hc4 hg4
      clear hc4 hg4
      go_wp2_with fail
      go_meet
      exact ⟨(24 + x).toNat, by omega, by rw [show ((24 + x).toNat : Int) = 24 + x from by omega], T4⟩
  case rest =>
    obtain ⟨n, hn, rfl, T⟩ := hcut
    clear T1 T2 T3
    have HT := Lib.hid T
    clear T
    go_wp2_with fail
    go_loopw [5, 6, 7] (fun t i _ wr => ∃ k : Nat, k ≤ n ∧ i = .int .i64 k ∧ ∃ s : ByteArray, t = .string s ∧ s.size ≤ 8 * k ∧ At w wr A len cap)
      (fun _ i _ _ => n - (intOf i).toNat)
    case atStart => exact ⟨0, Nat.zero_le _, rfl, ⟨#[]⟩, rfl, by decide, HT.out⟩
    case round =>
      obtain ⟨k, hk, rfl, s, rfl, hs, T⟩ := hrel
      by_cases hlt : k < n
      · by_cases h0 : 0 < k
        · have h0' : (0 : Int) < k := by omega
          go_wp2_with fail
          refine (below_any 2 _ _ A len cap _ T.cur (by omega) (by omega)).mono ?_
          rintro e w4 ⟨x, x0, x1, rfl, hc4, hg4⟩
          have T4 := T.step hc4 hg4
          clear hc4 hg4
          go_wp2_with fail
          refine (below_any 3 _ _ A len cap _ T4.cur (by omega) (by omega)).mono ?_
          rintro e w5 ⟨y, y0, y1, rfl, hc5, hg5⟩
          have T5 := T4.step hc5 hg5
          clear hc5 hg5
          obtain ⟨m, hm, hme⟩ := small_mul x y x0 x1 y0 y1
          go_wp2_with fail
          try rw [hme]
          refine (long_any m 32 _ (by omega)).mono ?_
          rintro e w6 ⟨q, hq, rfl, hb6⟩
          have T1 := T5.below hb6
          have hs1 : (s ++ q).size ≤ 8 * k + 3 := by rw [ByteArray.size_append]; omega
          have hsa : s.size ≤ 300 := by omega
          have hqa : q.size ≤ 3 := by omega
          clear hme hq hb6
          go_wp2_with fail
          generalize s ++ q = s1 at hs1 ⊢
          go_loopw [5, 7] (fun t j wr => ∃ m : Nat, m ≤ 5 ∧ j = .int .i64 m ∧ ∃ z : ByteArray, t = .string z ∧ z.size ≤ 8 * k + 3 + m ∧ At w wr A len cap) (fun _ j _ => 6 - (intOf j).toNat)
          case atStart => exact ⟨0, by omega, rfl, s1, rfl, by omega, T1⟩
          case round =>
            obtain ⟨m, hm, rfl, z, rfl, hz, T⟩ := hrel
            have hza : z.size ≤ 300 := by omega
            go_wp2_with fail
            refine (below_any 5 _ _ A len cap _ T.cur (by omega) (by omega)).mono ?_
            rintro e w7 ⟨x, x0, x1, rfl, hc7, hg7⟩
            have T7 := T.step hc7 hg7
            clear hc7 hg7 T
            by_cases hmx : (m : Int) ≤ x
            · go_wp2_with fail
              refine (below_any 94 _ _ A len cap _ T7.cur (by omega) (by omega)).mono ?_
              rintro e w8 ⟨y, y0, y1, rfl, hc8, hg8⟩
              have T8 := T7.step hc8 hg8
              clear hc8 hg8 T7
              have hconv := conv_one (33 + y) (by omega) (by omega)
              generalize UInt8.ofNat (33 + y).toNat = c at hconv
              go_wp2
              go_roundw
              case rel => exact ⟨m + 1, by omega, by go_num, _, rfl, by rw [ByteArray.size_append, size_one]; omega, T8.alloc _⟩
              case measure => simp [intOf] <;> omega
            · go_wp2
              go_roundw
              case rel => exact ⟨k + 1, by omega, by go_num, z, rfl, by omega, T7⟩
              case measure => simp [intOf] <;> omega
        · have h0' : ¬ (0 : Int) < k := by omega
          go_wp2_with fail
          refine (once_any 5 _ _ A len cap _ T.cur (by omega) (by omega)).mono ?_
          rintro e w3 ⟨b, rfl, hc3, hg3⟩
          have T3 := T.step hc3 hg3
          clear hc3 hg3 T
          cases b
          · have hs1 : s.size ≤ 8 * k + 3 := by omega
            have T1 := T3
            go_wp2_with fail
            generalize s = s1 at hs1 ⊢
            go_loopw [5, 7] (fun t j wr => ∃ m : Nat, m ≤ 5 ∧ j = .int .i64 m ∧ ∃ z : ByteArray, t = .string z ∧ z.size ≤ 8 * k + 3 + m ∧ At w wr A len cap) (fun _ j _ => 6 - (intOf j).toNat)
            case atStart => exact ⟨0, by omega, rfl, s1, rfl, by omega, T1⟩
            case round =>
              obtain ⟨m, hm, rfl, z, rfl, hz, T⟩ := hrel
              have hza : z.size ≤ 300 := by omega
              go_wp2_with fail
              refine (below_any 5 _ _ A len cap _ T.cur (by omega) (by omega)).mono ?_
              rintro e w7 ⟨x, x0, x1, rfl, hc7, hg7⟩
              have T7 := T.step hc7 hg7
              clear hc7 hg7 T
              by_cases hmx : (m : Int) ≤ x
              · go_wp2_with fail
                refine (below_any 94 _ _ A len cap _ T7.cur (by omega) (by omega)).mono ?_
                rintro e w8 ⟨y, y0, y1, rfl, hc8, hg8⟩
                have T8 := T7.step hc8 hg8
                clear hc8 hg8 T7
                have hconv := conv_one (33 + y) (by omega) (by omega)
                generalize UInt8.ofNat (33 + y).toNat = c at hconv
                go_wp2
                go_roundw
                case rel => exact ⟨m + 1, by omega, by go_num, _, rfl, by rw [ByteArray.size_append, size_one]; omega, T8.alloc _⟩
                case measure => simp [intOf] <;> omega
              · go_wp2
                go_roundw
                case rel => exact ⟨k + 1, by omega, by go_num, z, rfl, by omega, T7⟩
                case measure => simp [intOf] <;> omega
          · go_wp2_with fail
            refine (below_any 2 _ _ A len cap _ T3.cur (by omega) (by omega)).mono ?_
            rintro e w4 ⟨x, x0, x1, rfl, hc4, hg4⟩
            have T4 := T3.step hc4 hg4
            clear hc4 hg4
            go_wp2_with fail
            refine (below_any 3 _ _ A len cap _ T4.cur (by omega) (by omega)).mono ?_
            rintro e w5 ⟨y, y0, y1, rfl, hc5, hg5⟩
            have T5 := T4.step hc5 hg5
            clear hc5 hg5
            obtain ⟨m, hm, hme⟩ := small_mul x y x0 x1 y0 y1
            go_wp2_with fail
            try rw [hme]
            refine (long_any m 32 _ (by omega)).mono ?_
            rintro e w6 ⟨q, hq, rfl, hb6⟩
            have T1 := T5.below hb6
            have hs1 : (s ++ q).size ≤ 8 * k + 3 := by rw [ByteArray.size_append]; omega
            have hsa : s.size ≤ 300 := by omega
            have hqa : q.size ≤ 3 := by omega
            clear hme hq hb6
            go_wp2_with fail
            generalize s ++ q = s1 at hs1 ⊢
            go_loopw [5, 7] (fun t j wr => ∃ m : Nat, m ≤ 5 ∧ j = .int .i64 m ∧ ∃ z : ByteArray, t = .string z ∧ z.size ≤ 8 * k + 3 + m ∧ At w wr A len cap) (fun _ j _ => 6 - (intOf j).toNat)
            case atStart => exact ⟨0, by omega, rfl, s1, rfl, by omega, T1⟩
            case round =>
              obtain ⟨m, hm, rfl, z, rfl, hz, T⟩ := hrel
              have hza : z.size ≤ 300 := by omega
              go_wp2_with fail
              refine (below_any 5 _ _ A len cap _ T.cur (by omega) (by omega)).mono ?_
              rintro e w7 ⟨x, x0, x1, rfl, hc7, hg7⟩
              have T7 := T.step hc7 hg7
              clear hc7 hg7 T
              by_cases hmx : (m : Int) ≤ x
              · go_wp2_with fail
                refine (below_any 94 _ _ A len cap _ T7.cur (by omega) (by omega)).mono ?_
                rintro e w8 ⟨y, y0, y1, rfl, hc8, hg8⟩
                have T8 := T7.step hc8 hg8
                clear hc8 hg8 T7
                have hconv := conv_one (33 + y) (by omega) (by omega)
                generalize UInt8.ofNat (33 + y).toNat = c at hconv
                go_wp2
                go_roundw
                case rel => exact ⟨m + 1, by omega, by go_num, _, rfl, by rw [ByteArray.size_append, size_one]; omega, T8.alloc _⟩
                case measure => simp [intOf] <;> omega
              · go_wp2
                go_roundw
                case rel => exact ⟨k + 1, by omega, by go_num, z, rfl, by omega, T7⟩
                case measure => simp [intOf] <;> omega
      · obtain rfl : k = n := by omega
        have hsa : s.size ≤ 200 := by omega
        go_wp2_with fail
        refine (below_any 12 _ _ A len cap _ T.cur (by omega) (by omega)).mono ?_
        rintro e w3 ⟨x, x0, x1, rfl, hc3, hg3⟩
        have T3 := T.step hc3 hg3
        clear hc3 hg3 T
        by_cases hx0 : x = 0
        · subst hx0
          go_wp2_with fail
          refine (pickS_any 6 6 w3.heap.size (fun v => v.size ≤ 2) _ _ A len cap _ (T3.cur.alloc _) (by omega) (by omega) (by have := T3.cur.lt; omega) ?_).mono ?_
          · intro j hj
            rw [cell_of_row _ _ j _ _ _ (heap_alloc_new _ _)]
            have hj' : j = 0 ∨ j = 1 ∨ j = 2 ∨ j = 3 ∨ j = 4 ∨ j = 5 := by omega
            rcases hj' with rfl | rfl | rfl | rfl | rfl | rfl <;> refine ⟨_, ?_, rfl⟩ <;> decide
          · rintro e w4 ⟨v, hv, rfl, hc4, hg4⟩
            have T4 := (T3.alloc _).step hc4 hg4
            have hsz : (s ++ v).size ≤ 3000 := by rw [ByteArray.size_append]; omega
            clear hc4 hg4
            go_wp2
            go_ret
            exact ⟨_, hsz, rfl, T4.bel⟩
        · have hx0' : (x == 0) = false := by simpa using hx0
          by_cases hx1 : x = 1
          · subst hx1
            have h6 : (s.size : Int) < 600 := by omega
            go_wp2_with fail
            refine (below_any 2 _ _ A len cap _ T3.cur (by omega) (by omega)).mono ?_
            rintro e w4 ⟨y, y0, y1, rfl, hc4, hg4⟩
            have T4 := T3.step hc4 hg4
            clear hc4 hg4
            obtain ⟨m, hm, hme⟩ : ∃ m : Nat, m ≤ 601 ∧ 600 - (s.size : Int) + y = (m : Int) := ⟨(600 - (s.size : Int) + y).toNat, by omega, by omega⟩
            go_wp2_with fail
            try rw [hme]
            refine (long_any m 32 _ (by omega)).mono ?_
            rintro e w5 ⟨q, hq, rfl, hb5⟩
            have T5 := T4.below hb5
            have hqa : q.size ≤ 601 := by omega
            have hsz : (s ++ q).size ≤ 3000 := by rw [ByteArray.size_append]; omega
            clear hme hq hb5
            go_wp2
            go_ret
            exact ⟨_, hsz, rfl, T5.bel⟩
          · have hx1' : (x == 1) = false := by simpa using hx1
            have hsz : s.size ≤ 3000 := by omega
            clear hx0 hx1
            go_wp2
            go_ret
            exact ⟨_, hsz, rfl, T3.bel⟩

end Go.Proofs.YtcflfpdcphkoeaaDoor
