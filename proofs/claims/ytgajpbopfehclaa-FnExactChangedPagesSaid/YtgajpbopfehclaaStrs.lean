/- Slices of strings that a call owns: comparing, marking and looking for the marks. -/
import Derived.Test.YtgajpbopfehclaaStrsOwn
import Derived.Test.YtgajpbopfehclaaFormatMath
import Derived.Deep.QuietTactic
import Derived.BigQuiet
namespace Go.Proofs.Ytgajpbopfehclaa
open Go.RowKit

theorem eq_same (l : List ByteArray) (B1 B2 : Nat) (v1 v2 : Value) (w : World) (h1 : Own w B1 v1 l) (h2 : Own w B2 v2 l) (hl : l.length ≤ 1000000) :
    Calls Try.prog 84 #[v1, v2] w fun e w' => e = .returned (.bool true) ∧ Below w.heap.size w w' := by
  obtain ⟨A1, c1, rfl, f1⟩ := h1.form
  obtain ⟨A2, c2, rfl, f2⟩ := h2.form
  have H1 := Lib.hid h1
  have H2 := Lib.hid h2
  have F1 := Lib.hid f1
  have F2 := Lib.hid f2
  clear h1 h2 f1 f2
  obtain ⟨n, hn⟩ : ∃ n, n = l.length := ⟨_, rfl⟩
  rw [← hn] at hl ⊢
  have HN := Lib.hid hn
  clear hn
  go_enter Try.func84, Try.ntmps84
  go_wp2
  go_loopw [5] (fun i wr => ∃ k : Nat, k ≤ n ∧ i = .int .i64 k ∧ ∃ q, wr = w.drewN q) (fun i _ => n - (intOf i).toNat)
  case atStart => exact ⟨0, Nat.zero_le _, rfl, 0, rfl⟩
  case round =>
    obtain ⟨k, hk, rfl, q, rfl⟩ := hrel
    by_cases hlt : k < n
    · obtain ⟨g1, rfl, _, _⟩ := F1.out (by have := HN.out; omega)
      obtain ⟨g2, rfl, _, _⟩ := F2.out (by have := HN.out; omega)
      have hk' : k < l.length := by have := HN.out; omega
      have x1 := H1.out.cell k hk'
      have x2 := H2.out.cell k hk'
      generalize l[k] = x at x1 x2
      go_wp2_with fail
      go_quiet (fail)
      go_wp2
      go_roundw
      case rel => exact ⟨k + 1, by omega, by go_num, _, rfl⟩
      case measure => simp [intOf]; omega
    · go_wp2
      go_ret
      exact ⟨rfl, below_drewN (Below.refl _ _) _⟩

/-- The mark of number k. -/
def mT (k : Nat) : ByteArray := ⟨#[109]⟩ ++ ⟨(decD k).toArray⟩

set_option maxHeartbeats 1000000 in
set_option maxRecDepth 100000 in
theorem mark_text (K : Nat) (w : World) (h0 : 1 ≤ K) (h1 : K ≤ 1000000000) :
    Calls Try.prog 141 #[.int .i64 K] w fun e w' => e = .returned (.string (mT K)) ∧ Below w.heap.size w w' := by
  have hz : ¬ (K : Int) ≤ 0 := by omega
  go_enter Try.func141, Try.ntmps141
  go_wp2
  go_loopw [0, 3] (fun v t wr => ∃ m : Nat, m ≤ 1000000000 ∧ v = .int .i64 m ∧ ∃ s : ByteArray, t = .string s ∧ Hid (FmtRel K m s) ∧ Below w.heap.size w wr)
    (fun v _ _ => (intOf v).toNat)
  case atStart => exact ⟨K, h1, rfl, _, rfl, Lib.hid ⟨by simp, by decide⟩, Below.refl _ _⟩
  case round =>
    obtain ⟨m, m1, rfl, s, rfl, hrel, hb⟩ := hrel
    have hs : s.size ≤ 20 := hrel.out.2
    by_cases hm : m = 0
    · subst hm
      have HE : Hid (mT K = ⟨#[109]⟩ ++ s) := Lib.hid (by
        have := hrel.out.1
        rw [decD_zero, List.nil_append] at this
        unfold mT
        rw [← this])
      clear hrel
      go_wp2
      go_ret
      exact ⟨by rw [HE.out]; rfl, hb⟩
    · have hp : 0 < (m : Int) := by omega
      have HM := Lib.hid hm
      have HR0 := fmt_step _ _ s hrel.out hm (by omega)
      obtain ⟨d, hd⟩ : ∃ d : Int, d = ((m % 10 : Nat) : Int) := ⟨_, rfl⟩
      have d0 : 0 ≤ d := by omega
      have d9 : d < 10 := by omega
      have HB0 : (((UInt8.ofNat (48 + m % 10)).toNat : Nat) : Int) = 48 + d := by rw [UInt8.toNat_ofNat', hd]; omega
      generalize UInt8.ofNat (48 + m % 10) = c at HR0 HB0
      have HR := Lib.hid HR0
      have HB := Lib.hid HB0
      clear HR0 HB0
      have hconv : ∀ W : World, (convert 58 9 (.slice (some ⟨W.heap.size, 0, none⟩) 1 1)).run Try.prog (W.alloc (.cells #[.int .u8 (48 + d)] 5)) = .ok (.string ⟨#[c]⟩) (W.alloc (.cells #[.int .u8 (48 + d)] 5)) := fun W =>
        run_convert_bytes_back (P := Try.prog) (W.alloc (.cells #[.int .u8 (48 + d)] 5)) _ _ _ ⟨W.heap.size, 0, none⟩ 1 [c] Try.underlying58 Try.underlying5 Try.underlying9 (fun j hj => by
          have hj0 : j = 0 := by simpa using hj
          subst hj0
          have hc := cell_of_row (W.alloc (.cells #[.int .u8 (48 + d)] 5)) W.heap.size 0 _ _ _ (heap_alloc_new W (.cells #[.int .u8 (48 + d)] 5))
          rw [show (⟨W.heap.size, 0, none⟩ : Addr).add 0 = ⟨W.heap.size, 0, none⟩ from rfl, hc]
          simp [HB.out])
      have hr1 : (m : Int) % 10 = d := by omega
      clear hd hm
      go_wp2
      go_roundw
      case rel => exact ⟨m / 10, by omega, by go_num, _, rfl, HR, hb.alloc hb.size _⟩
      case measure => simp [intOf]; have := HM.out; omega

/-- The marks from number k on. -/
def marks (k : Nat) : Nat → List ByteArray
  | 0 => []
  | n + 1 => marks k n ++ [mT (k + n)]
theorem marks_length (k n : Nat) : (marks k n).length = n := by induction n with
  | zero => rfl
  | succ n ih => simp [marks, ih]
theorem marks_at (k n j : Nat) (h : j < n) : (marks k n)[j]? = some (mT (k + j)) := by
  induction n with
  | zero => omega
  | succ n ih =>
    rw [marks]
    by_cases hj : j < n
    · rw [List.getElem?_append_left (by rw [marks_length]; exact hj)]; exact ih hj
    · obtain rfl : j = n := by omega
      rw [List.getElem?_append_right (by rw [marks_length]; exact Nat.le_refl _), marks_length]; simp
/-- The first k elements marked, the rest as they were. -/
def markTo (q : Nat) (l : List ByteArray) (k : Nat) : List ByteArray := marks q k ++ l.drop k
theorem markTo_length (q : Nat) (l : List ByteArray) (k : Nat) (h : k ≤ l.length) : (markTo q l k).length = l.length := by simp [markTo, marks_length]; omega
theorem markTo_set (q : Nat) (l : List ByteArray) (k : Nat) (h : k < l.length) : (markTo q l k).set k (mT (q + k)) = markTo q l (k + 1) := by
  unfold markTo
  have hd : (l.drop k).set 0 (mT (q + k)) = mT (q + k) :: l.drop (k + 1) := by rw [List.drop_eq_getElem_cons h]; rfl
  rw [List.set_append_right _ _ (by rw [marks_length]; exact Nat.le_refl _), marks_length, Nat.sub_self, marks, hd]
  simp
theorem markTo_all (q : Nat) (l : List ByteArray) : markTo q l l.length = marks q l.length := by simp [markTo]

set_option maxHeartbeats 1000000 in
set_option maxRecDepth 100000 in
theorem mark_any (l : List ByteArray) (q B : Nat) (v : Value) (w : World) (h : Own w B v l) (hl : l.length ≤ 1000000) (hq : 1 ≤ q) (hq2 : q ≤ 1000000) :
    Calls Try.prog 85 #[v, .int .i64 q] w fun e w' => e = .returned (.int .i64 ((q + l.length : Nat) : Int)) ∧ Own w' B v (marks q l.length) ∧ w.grownBy w' v.ownBlock := by
  obtain ⟨A, c, hv, f⟩ := h.form
  have H := Lib.hid h
  have F := Lib.hid f
  clear h f
  obtain ⟨n, hn⟩ : ∃ n, n = l.length := ⟨_, rfl⟩
  rw [← hn] at hl hv ⊢
  have HN := Lib.hid hn
  have HV := Lib.hid hv
  rw [hv]
  clear hn hv
  go_enter Try.func85, Try.ntmps85
  go_wp2
  go_loopw [1, 5] (fun y i wr => ∃ k : Nat, k ≤ n ∧ i = .int .i64 k ∧ y = .int .i64 ((q + k : Nat) : Int) ∧ Hid (Own wr B v (markTo q l k)) ∧ w.grownBy wr v.ownBlock) (fun _ i _ => n - (intOf i).toNat)
  case atStart => exact ⟨0, Nat.zero_le _, rfl, rfl, Lib.hid (by simpa [markTo, marks] using H.out), World.grownBy.refl _ _⟩
  case round =>
    obtain ⟨k, hk, rfl, rfl, HO, hgr⟩ := hrel
    have HG := Lib.hid hgr
    clear hgr
    by_cases hlt : k < n
    · obtain ⟨g, rfl, hgB, _⟩ := F.out (by have := HN.out; omega)
      go_wp2_with fail
      refine (mark_text (q + k) _ (by omega) (by omega)).mono ?_
      rintro e w1 ⟨rfl, hb1⟩
      have hO1 := HO.out.below hb1
      have hln : (markTo q l k).length = n := by rw [markTo_length q l k (by have := HN.out; omega)]; exact HN.out.symm
      have hO2 : w1.ownsRow B 9 1 (.slice (some ⟨g, 0, none⟩) n c) n (strs (markTo q l k)) := by
        have := hO1
        unfold Own at this
        rw [hln, HV.out] at this
        exact this
      have hcell : ∃ x, w1.cell? ⟨g, k, none⟩ = some (.string x) := by
        rw [hO2.cellAt k (by omega)]
        exact ⟨(markTo q l k)[k]'(by omega), by simp [strs, List.getElem?_eq_getElem (show k < (markTo q l k).length by omega)]⟩
      obtain ⟨x, hx⟩ := hcell
      have hfr := hO2.frozenAt k
      have hst := hO2.stored k (.string (mT (q + k)))
      rw [strs_set, markTo_set q l k (by have := HN.out; omega)] at hst
      have hln2 : (markTo q l (k + 1)).length = n := by rw [markTo_length q l (k + 1) (by have := HN.out; omega)]; exact HN.out.symm
      have HS : Hid (Own (w1.setCell ⟨g, k, none⟩ (.string (mT (q + k)))) B v (markTo q l (k + 1))) := Lib.hid (by unfold Own; rw [hln2, HV.out]; exact hst.1)
      have HG2 : Hid (w.grownBy (w1.setCell ⟨g, k, none⟩ (.string (mT (q + k)))) v.ownBlock) := Lib.hid ((HG.out.trans (grown_below hb1 _)).trans (by rw [HV.out]; exact hst.2))
      clear hst hO1 hO2 hln hln2
      go_wp2
      go_roundw
      case rel => exact ⟨k + 1, by omega, by go_num, by go_num, HS, HG2.out⟩
      case measure => simp [intOf]; omega
    · obtain rfl : k = n := by omega
      have HO2 : Hid (Own wr B v (marks q k)) := Lib.hid (by have := HO.out; rw [HN.out, markTo_all] at this; rw [HN.out]; exact this)
      go_wp2
      go_ret
      have e := HV.out
      exact ⟨rfl, by rw [← e]; exact HO2.out, by rw [← e]; exact HG.out⟩

set_option maxHeartbeats 1000000 in
set_option maxRecDepth 100000 in
theorem held_any (n q B : Nat) (v : Value) (w : World) (h : Own w B v (marks q n)) (hl : n ≤ 1000000) (hq : 1 ≤ q) (hq2 : q ≤ 1000000) :
    Calls Try.prog 86 #[v, .int .i64 q] w fun e w' => e = .returned (.int .i64 ((q + n : Nat) : Int)) ∧ Below w.heap.size w w' := by
  obtain ⟨A, c, hv, f⟩ := h.form
  rw [marks_length] at hv f
  have H := Lib.hid h
  have F := Lib.hid f
  subst hv
  clear h f
  go_enter Try.func86, Try.ntmps86
  go_wp2
  go_loopw [1, 5] (fun y i wr => ∃ k : Nat, k ≤ n ∧ i = .int .i64 k ∧ y = .int .i64 ((q + k : Nat) : Int) ∧ Below w.heap.size w wr) (fun _ i _ => n - (intOf i).toNat)
  case atStart => exact ⟨0, Nat.zero_le _, rfl, rfl, Below.refl _ _⟩
  case round =>
    obtain ⟨k, hk, rfl, rfl, hb⟩ := hrel
    by_cases hlt : k < n
    · obtain ⟨g, rfl, hgB, hgl⟩ := F.out (by omega)
      have hx : wr.cell? ⟨g, k, none⟩ = some (.string (mT (q + k))) := by
        have h1 : wr.ownsRow B 9 1 (.slice (some ⟨g, 0, none⟩) n c) n (strs (marks q n)) := by
          have := H.out.below hb
          unfold Own at this
          rw [marks_length] at this
          exact this
        rw [h1.cellAt k (by omega)]
        simp [strs, marks_at q n k hlt]
      have hgw : g < wr.heap.size := by have := hb.size; omega
      go_wp2_with fail
      go_region_with ((go_at_call 141; refine (mark_text (q + k) _ (by omega) (by omega)).mono ?_; rintro e w1 ⟨rfl, hb1⟩; have hx1 := (bcellS hb1 g k hgw).trans hx))
      all_goals
        go_wp2
        go_roundw
        case rel => exact ⟨k + 1, by omega, by go_num, by go_num, (hb.drew).trans (hb1.mono hb.size)⟩
        case measure => simp [intOf]; omega
    · obtain rfl : k = n := by omega
      go_wp2
      go_ret
      exact ⟨rfl, hb⟩

end Go.Proofs.Ytgajpbopfehclaa
