/- Rows of ints. -/
import Derived.Test.YtogiocinhjbdkaaRows2
import Derived.Deep.QuietTactic
import Derived.BigQuiet
import Derived.StillTailTactics
namespace Go.Proofs.Ytogiocinhjbdkaa
open Go.RowKit
set_option linter.unusedSimpArgs false
set_option linter.unusedVariables false

def intrA (x : Int) : Array Value := #[.int .i64 x]
def intrM (q : Nat) : Int := (q : Int)
def intrMs (q n : Nat) : List Int := (List.range n).map fun i => intrM (q + i)
theorem intrMs_length (q n : Nat) : (intrMs q n).length = n := by simp [intrMs]
theorem intrMs_at (q n i : Nat) (h : i < n) : (intrMs q n)[i]? = some (intrM (q + i)) := by simp [intrMs, h]

set_option maxHeartbeats 4000000 in
set_option maxRecDepth 100000 in
theorem eq_intrs (w : World) (S1 S2 : Nat → Prop) (T1 T2 : TypeId) (v1 v2 : Value) (l : List Int) (hn : l.length ≤ 4194304) (h1 : Row w S1 T1 1 v1 (l.map intrA)) (h2 : Row w S2 T2 1 v2 (l.map intrA)) :
    Calls Try.prog 37 #[v1, v2] w fun e w' => e = .returned (.bool true) ∧ Below w.heap.size w w' := by
  obtain ⟨a1, g1, c1, rfl, x1, _⟩ := h1.open
  obtain ⟨a2, g2, c2, rfl, x2, _⟩ := h2.open
  rw [List.length_map]
  obtain ⟨n, hl⟩ : ∃ n, n = l.length := ⟨_, rfl⟩
  rw [← hl] at hn ⊢
  have HL := Lib.hid hl
  have H1 := Lib.hid x1
  have H2 := Lib.hid x2
  clear h1 h2 hl x1 x2
  go_enter Try.func37, Try.ntmps37
  go_wp2
  go_loopw [5] (fun i wr => ∃ k : Nat, k ≤ n ∧ i = .int .i64 k ∧ ∃ q, wr = w.drewN q) (fun i _ => n + 1 - (intOf i).toNat)
  case atStart => exact ⟨0, by omega, rfl, 0, rfl⟩
  case round =>
    obtain ⟨k, hk, rfl, q, rfl⟩ := hrel
    by_cases hlt : k < n
    · have hk' : k < l.length := by have := HL.out; omega
      have hne : l.map intrA ≠ [] := fun e => by simp at e; rw [e] at hk'; simp at hk'
      obtain ⟨ea1, eg1⟩ := H1.out.1 hne
      obtain ⟨ea2, eg2⟩ := H2.out.1 hne
      subst ea1
      subst ea2
      have x1 := H1.out.2 k (intrA l[k]) (by simp [hk']) 0 (by omega)
      have x2 := H2.out.2 k (intrA l[k]) (by simp [hk']) 0 (by omega)
      clear hne
      generalize l[k] = e at x1 x2
      unfold intrA at x1 x2
      simp at x1 x2
      have d1 : (w.drewN q).cell? ⟨g1, k, none⟩ = some (.int .i64 e) := x1
      have d2 : (w.drewN q).cell? ⟨g2, k, none⟩ = some (.int .i64 e) := x2
      have e1 : (k : Int) < (n : Int) := by omega
      have e0 : (0 : Int) ≤ (k : Int) := by omega
      go_wp2
      go_quiet (fail)
      go_wp2
      go_roundw
      case rel => exact ⟨k + 1, by omega, by go_num, _, rfl⟩
      case measure => simp [intOf]; omega
    · obtain rfl : k = n := by omega
      go_wp2
      go_ret
      exact ⟨rfl, below_drewM _⟩

set_option maxHeartbeats 4000000 in
set_option maxRecDepth 100000 in
theorem mark_intrs (w : World) (S : Nat → Prop) (q : Nat) (v : Value) (l : List Int) (hn : l.length ≤ 2097152) (hq1 : 1 ≤ q) (hq : q ≤ 500000000) (h : Row w S 3 1 v (l.map intrA)) :
    Calls Try.prog 39 #[v, .int .i64 q] w fun e w' => e = .returned (.int .i64 ((q + l.length : Nat) : Int)) ∧ Row w' S 3 1 v ((intrMs q l.length).map intrA) ∧ Touch w w' S := by
  by_cases hne : l.map intrA = []
  · obtain ⟨a, g, c, rfl, _, _⟩ := h.open
    have h0 : l = [] := by simpa using hne
    subst h0
    clear h
    go_enter Try.func39, Try.ntmps39
    go_wp2
    go_loop [1, 5] (fun x i => x = .int .i64 q ∧ i = .int .i64 0) (fun _ _ => 0)
    case atStart => exact ⟨rfl, rfl⟩
    case round =>
      obtain ⟨rfl, rfl⟩ := hrel
      go_wp2
      go_ret
      exact ⟨by simp, Row.nil _ _ _ _ _ _, Touch.refl _ _⟩
  obtain ⟨g, c, rfl, hSg, hc, hm, hU⟩ := h.upto hne (fun i => intrA (intrM (q + i)))
  rw [List.length_map] at hU hc ⊢
  generalize l.length = n at hU hc hn ⊢
  have HU0 := Lib.hid hU
  clear hU h hne
  go_enter Try.func39, Try.ntmps39
  go_wp2
  go_loopw [1, 5] (fun x i wr => ∃ k : Nat, k ≤ n ∧ i = .int .i64 k ∧ x = .int .i64 ((q + k : Nat) : Int) ∧ Hid (Upto wr g 3 1 n k 0 (fun i => intrA (intrM (q + i)))) ∧ Hid (Touch w wr S)) (fun _ i _ => n + 1 - (intOf i).toNat)
  case atStart => exact ⟨0, by omega, rfl, by simp, HU0, Lib.hid (Touch.refl _ _)⟩
  case round =>
    clear HU0
    obtain ⟨k, hk, rfl, rfl, HU, HT⟩ := hrel
    by_cases hlt : k < n
    · obtain ⟨Q, hQ⟩ : ∃ Q, Q = q + k := ⟨_, rfl⟩
      have hq2 : Q ≤ 1000000000 - 100 := by omega
      have hq3 : 1 ≤ Q := by omega
      have V0 : ((fun i => intrA (intrM (q + i))) k)[0]? = some (.int .i64 (Q : Int)) := by
        show (intrA (intrM (q + k)))[0]? = _
        rw [← hQ]
        rfl
      have HV0 := Lib.hid V0
      rw [← hQ]
      have HQ := Lib.hid hQ
      clear hQ V0
      have e1 : (k : Int) < (n : Int) := by omega
      have e0 : (0 : Int) ≤ (k : Int) := by omega
      have HU0 := Lib.hid HU.out
      have HT0 := Lib.hid HT.out
      clear HU HT
      go_wp2_with (first
        | (refine wpList_store_upto HU0.out HT0.out hSg hlt (by omega) (.int .i64 (Q : Int)) HV0.out rfl rfl _ _ _ rfl (by kernel_rfl) (by go_simp) (by go_simp; first | done | omega) ?_; intro w2 hu2 ht2; have HU2 := Lib.hid hu2; have HT2 := Lib.hid ht2; clear hu2 ht2 HU0 HT0))
      go_roundw
      case rel => exact ⟨k + 1, by omega, by go_num, by rw [show q + (k + 1) = Q + 1 by have := HQ.out; omega]; go_num, Lib.hid (Upto.next HU2.out), HT2⟩
      case measure => simp [intOf]; omega
    · obtain rfl : k = n := by omega
      have HR : Hid (Row wr S 3 1 (.slice (some ⟨g, 0, none⟩) k c) ((intrMs q k).map intrA)) := Lib.hid (by
        have hl : ((intrMs q k).map intrA).length = k := by simp [intrMs]
        have h := HU.out
        have h2 : Upto wr g 3 1 ((intrMs q k).map intrA).length ((intrMs q k).map intrA).length 0 (fun i => intrA (intrM (q + i))) := by rw [hl]; exact h
        have h3 := h2.to_row (S := S) (c := c) (fun i x hx => by
          rw [List.getElem?_map] at hx
          have hi : i < k := by
            have := (List.getElem?_eq_some_iff.1 (by simpa using hx : ((intrMs q k).map intrA)[i]? = some x)).1
            omega
          rw [intrMs_at q k i hi] at hx
          simpa using hx) hSg (by omega) hm
        rw [hl] at h3
        exact h3)
      go_wp2
      go_ret
      exact ⟨rfl, HR.out, HT.out⟩

set_option maxHeartbeats 4000000 in
set_option maxRecDepth 100000 in
theorem held_intrs (w : World) (S : Nat → Prop) (q n : Nat) (v : Value) (T : TypeId) (hn : n ≤ 2097152) (hq1 : 1 ≤ q) (hq : q ≤ 500000000) (h : Row w S T 1 v ((intrMs q n).map intrA)) :
    Calls Try.prog 41 #[v, .int .i64 q] w fun e w' => e = .returned (.int .i64 ((q + n : Nat) : Int)) ∧ Below w.heap.size w w' := by
  obtain ⟨a, g, c, rfl, hV, _⟩ := h.open
  have hl : ((intrMs q n).map intrA).length = n := by simp [intrMs]
  rw [hl]
  have HV := Lib.hid hV
  have HL := Lib.hid hl
  clear h hV hl
  go_enter Try.func41, Try.ntmps41
  go_wp2
  go_loopw [1, 5] (fun x i wr => ∃ k : Nat, k ≤ n ∧ i = .int .i64 k ∧ x = .int .i64 ((q + k : Nat) : Int) ∧ ∃ m, wr = w.drewN m) (fun _ i _ => n + 1 - (intOf i).toNat)
  case atStart => exact ⟨0, by omega, rfl, by simp, 0, rfl⟩
  case round =>
    obtain ⟨k, hk, rfl, rfl, m, rfl⟩ := hrel
    by_cases hlt : k < n
    · have hne : (intrMs q n).map intrA ≠ [] := fun e => by have := HL.out; rw [e] at this; simp at this; omega
      obtain ⟨ea, _⟩ := HV.out.1 hne
      subst ea
      have x := HV.out.2 k (intrA (intrM (q + k))) (by rw [List.getElem?_map, intrMs_at q n k hlt]; rfl) 0 (by omega)
      obtain ⟨Q, hQ⟩ : ∃ Q, Q = q + k := ⟨_, rfl⟩
      have hq2 : Q ≤ 1000000000 - 100 := by omega
      rw [← hQ] at x ⊢
      have HQ := Lib.hid hQ
      clear hQ hne
      have d0 : (w.drewN m).cell? ⟨g, k, none⟩ = some (.int .i64 (Q : Int)) := by
        have x' : w.cell? ⟨g, k, none⟩ = some (.int .i64 (Q : Int)) := by simpa [intrA, intrM] using x
        exact x'
      have d0' : w.cell? ⟨g, k, none⟩ = some (.int .i64 (Q : Int)) := d0
      clear x
      have e1 : (k : Int) < (n : Int) := by omega
      have e0 : (0 : Int) ≤ (k : Int) := by omega
      go_wp2
      try go_quiet (fail)
      try go_wp2
      go_roundw
      case rel => exact ⟨k + 1, by omega, by go_num, by rw [show q + (k + 1) = Q + 1 by have := HQ.out; omega]; go_num, _, rfl⟩
      case measure => simp [intOf]; omega
    · obtain rfl : k = n := by omega
      go_wp2
      go_ret
      exact ⟨rfl, below_drewM _⟩

end Go.Proofs.Ytogiocinhjbdkaa
