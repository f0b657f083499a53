/- Contracts of the model's cursor: each draw gives a number in its range, moves the cursor's own block, and leaves the rest as it was. -/
import Derived.Test.YtdcjbojigmgcgabBase
import Derived.Deep.QuietTactic
import Derived.BigQuiet
import Derived.Deep.DeepCutAuto
import Derived.Laws.BitsAllLaws
import Derived.Laws.BitsLemmas
import Derived.Laws.Rows
namespace Go.Proofs.Ytdcjbojigmgcgab
open Go.RowKit

/-- The code that a draw reads: bytes below block B. -/
def Code (w : World) (B : Nat) (A : Option Addr) (len : Nat) : Prop :=
  len ≤ 1048576 ∧ ∀ i, i < len → ∃ x n, A = some x ∧ x.block < B ∧ 0 ≤ n ∧ n ≤ 255 ∧ w.cell? (x.add i) = some (.int .u8 n)

/-- Block g is a cursor over the code. -/
structure Cur (w : World) (B g : Nat) (A : Option Addr) (len cap : Nat) : Prop where
  code : Code w B A len
  lo : B ≤ g
  blk : ∃ i : Nat, ∃ h : Int, i ≤ len ∧ w.heap[g]? = some (.cells #[.slice A len cap, .int .i64 i, .int .i64 h] 61 (0, 0))

/-- What a draw below n leaves. -/
def CurPost (B g : Nat) (A : Option Addr) (len cap : Nat) (n : Int) (w : World) (e : Ending) (w' : World) : Prop :=
  ∃ x : Int, 0 ≤ x ∧ x < n ∧ e = .returned (.int .i64 x) ∧ Cur w' B g A len cap ∧ w.grownBy w' (some g)

theorem grown_drewN {a w : World} {row : Option Nat} (h : a.grownBy w row) (n : Nat) : a.grownBy (w.drewN n) row := ⟨h.os, h.tape, h.output, h.size, h.block⟩
theorem grown_set {w : World} {g : Nat} {cs : Array Value} {t : TypeId} {fr : Nat × Nat} (_ : w.heap[g]? = some (.cells cs t fr)) (j : Nat) (u : Value) : w.grownBy (w.setCell ⟨g, j, none⟩ u) (some g) :=
  ⟨rfl, rfl, rfl, by simp [World.setCell], fun k _ hne => Below.heap_setCell w ⟨g, j, none⟩ u k (fun h => hne (by simp [h]))⟩
theorem block_of_add (a : Addr) (n : Nat) : (a.add n).block = a.block := by unfold Addr.add; split <;> rfl
theorem Code.grown {w w' : World} {B g : Nat} {A : Option Addr} {len : Nat} (h : Code w B A len) (hg : w.grownBy w' (some g)) (hlo : B ≤ g) : Code w' B A len := by
  refine ⟨h.1, fun i hi => ?_⟩
  obtain ⟨x, n, hA, hx, h0, h1, hc⟩ := h.2 i hi
  exact ⟨x, n, hA, hx, h0, h1, hg.cell hc (by rw [block_of_add]; intro e; injection e with e; omega)⟩

theorem and255 (x : Int) : 0 ≤ bits .and .i64 x 255 ∧ bits .and .i64 x 255 ≤ 255 := by
  have h : bits .and .i64 x 255 = IntKind.i64.wrap ((BitVec.ofInt 64 x &&& BitVec.ofInt 64 255).toNat : Int) := rfl
  rw [h, BitVec.toNat_and, IntKind.wrap_i64]
  have : (BitVec.ofInt 64 x).toNat &&& (BitVec.ofInt 64 255).toNat ≤ 255 := Nat.and_le_right
  omega

set_option maxHeartbeats 1000000 in
theorem byte_any (B g : Nat) (A : Option Addr) (len cap : Nat) (w : World) (hc : Cur w B g A len cap) :
    Calls Try.prog 56 #[.pointer (some ⟨g, 0, none⟩)] w (CurPost B g A len cap 256 w) := by
  obtain ⟨hcode, hlo, i, h, hi, hblk⟩ := hc
  have c0 : w.cell? ⟨g, 0, none⟩ = some (.slice A len cap) := by rw [cell_of_row w g 0 _ _ _ hblk]; rfl
  have c1 : w.cell? ⟨g, 1, none⟩ = some (.int .i64 i) := by rw [cell_of_row w g 1 _ _ _ hblk]; rfl
  have c2 : w.cell? ⟨g, 2, none⟩ = some (.int .i64 h) := by rw [cell_of_row w g 2 _ _ _ hblk]; rfl
  have f1 : w.frozen? ⟨g, 1, none⟩ = false := by simp [World.frozen?, hblk]
  have f2 : w.frozen? ⟨g, 2, none⟩ = false := by simp [World.frozen?, hblk]
  go_enter Try.func56, Try.ntmps56
  go_wp2_with fail
  generalize wrap64 (wrap64 (h * 6364136223846793005) + 1442695040888963407) = h2
  generalize wrap64 (h * 6364136223846793005) = h3
  have hblk1 : (w.setCell ⟨g, 2, none⟩ (.int .i64 h2)).heap[g]? = some (.cells #[.slice A len cap, .int .i64 i, .int .i64 h2] 61 (0, 0)) := by
    simp [World.setCell, Array.getElem?_modify, hblk]
  have hg1 : w.grownBy (w.setCell ⟨g, 2, none⟩ (.int .i64 h2)) (some g) := grown_set hblk _ _
  have hcode1 := hcode.grown hg1 hlo
  clear c0 c1 c2 f1 f2 hcode hblk
  generalize w.setCell ⟨g, 2, none⟩ (.int .i64 h2) = W at hblk1 hg1 hcode1 ⊢
  have c0 : W.cell? ⟨g, 0, none⟩ = some (.slice A len cap) := by rw [cell_of_row W g 0 _ _ _ hblk1]; rfl
  have c1 : W.cell? ⟨g, 1, none⟩ = some (.int .i64 i) := by rw [cell_of_row W g 1 _ _ _ hblk1]; rfl
  have c2 : W.cell? ⟨g, 2, none⟩ = some (.int .i64 h2) := by rw [cell_of_row W g 2 _ _ _ hblk1]; rfl
  have f1 : W.frozen? ⟨g, 1, none⟩ = false := by simp [World.frozen?, hblk1]
  go_quiet (fail)
  go_wp2_with fail
  obtain ⟨x0, hx0⟩ : ∃ x0, bits .and .i64 (bits .xor .i64 (h2 / 8589934592) (h2 / 35184372088832)) 255 = x0 := ⟨_, rfl⟩
  have b0 := and255 (bits .xor .i64 (h2 / 8589934592) (h2 / 35184372088832))
  rw [hx0] at b0
  rw [hx0]
  clear hx0
  obtain ⟨b1, b2⟩ := b0
  generalize bits .xor .i64 (h2 / 8589934592) (h2 / 35184372088832) = x1
  have hl : len ≤ 1048576 := hcode1.1
  by_cases hlt : i < len
  · obtain ⟨x, n, rfl, hxB, n0, n1, hcell⟩ := hcode1.2 i hlt
    go_quiet (fail)
    go_wp2_with fail
    go_quiet (fail)
    go_wp2_with fail
    go_ret
    have a1 := and255 (x0 + n)
    refine ⟨_, a1.1, by omega, rfl, ?_, ?_⟩
    · refine ⟨(hcode1.grown (grown_drewN (World.grownBy.refl W (some g)) _) hlo).grown (grown_set (w := W.drewN _) hblk1 1 _) hlo, hlo, i + 1, h2, by omega, ?_⟩
      simp [World.setCell, Array.getElem?_modify, hblk1]
    · exact World.grownBy.trans (grown_drewN hg1 _) (grown_set (w := W.drewN _) hblk1 1 _)
  · go_quiet (fail)
    go_wp2_with fail
    go_ret
    exact ⟨x0, b1, by omega, rfl, ⟨hcode1, hlo, i, h2, hi, hblk1⟩, grown_drewN (grown_drewN hg1 _) _⟩

def BoolPost (B g : Nat) (A : Option Addr) (len cap : Nat) (w : World) (e : Ending) (w' : World) : Prop :=
  ∃ b : Bool, e = .returned (.bool b) ∧ Cur w' B g A len cap ∧ w.grownBy w' (some g)

theorem below_any (n : Int) (B g : Nat) (A : Option Addr) (len cap : Nat) (w : World) (hc : Cur w B g A len cap) (hn : 0 < n) (hn2 : n ≤ 4294967296) :
    Calls Try.prog 52 #[.pointer (some ⟨g, 0, none⟩), .int .i64 n] w (CurPost B g A len cap n w) := by
  have HC := Lib.hid hc
  clear hc
  have h1 : ¬ n ≤ 0 := by omega
  by_cases h2 : n ≤ 256
  · go_enter Try.func52, Try.ntmps52
    go_wp2_with fail
    refine (byte_any B g A len cap _ HC.out).mono ?_
    rintro e w1 ⟨x, x0, x1, rfl, hc1, hg1⟩
    go_wp2
    go_ret
    exact ⟨x % n, Int.emod_nonneg _ (by omega), Int.emod_lt_of_pos _ hn, rfl, hc1, hg1⟩
  · go_enter Try.func52, Try.ntmps52
    go_wp2_with fail
    refine (byte_any B g A len cap _ HC.out).mono ?_
    rintro e w1 ⟨x, x0, x1, rfl, hc1, hg1⟩
    go_wp2_with fail
    refine (byte_any B g A len cap _ hc1).mono ?_
    rintro e w2 ⟨y, y0, y1, rfl, hc2, hg2⟩
    go_wp2_with fail
    refine (byte_any B g A len cap _ hc2).mono ?_
    rintro e w3 ⟨z, z0, z1, rfl, hc3, hg3⟩
    go_wp2_with fail
    refine (byte_any B g A len cap _ hc3).mono ?_
    rintro e w4 ⟨u, u0, u1, rfl, hc4, hg4⟩
    go_wp2
    go_ret
    exact ⟨_, Int.emod_nonneg _ (by omega), Int.emod_lt_of_pos _ hn, rfl, hc4, ((hg1.trans hg2).trans hg3).trans hg4⟩


theorem lt_of_cell {w : World} {a : Addr} {v : Value} (h : w.cell? a = some v) : a.block < w.heap.size := by
  rcases Nat.lt_or_ge a.block w.heap.size with h1 | h1
  · exact h1
  · simp [World.cell?, Array.getElem?_eq_none h1] at h
theorem Code.of_row {w : World} {a : Option Addr} {len cap : Nat} {zs : List Int} (h : IsRow .u8 w a len cap zs) (hlen : len ≤ 1048576) : Code w w.heap.size a len := by
  refine ⟨hlen, fun i hi => ?_⟩
  rcases h with ⟨rfl, rfl, rfl, rfl⟩ | ⟨x, rfl, hl, hm, hz, hc, hw⟩
  · omega
  · refine ⟨x, zs.getD i 0, rfl, by have := lt_of_cell (hc i (by omega)); rwa [block_of_add] at this, ?_, ?_, hc i (by omega)⟩
    all_goals
      have hin : zs.getD i 0 ∈ zs := by
        rw [List.getD_eq_getElem?_getD, List.getElem?_eq_getElem (by omega)]
        exact List.getElem_mem _
      have h1 := hw _ hin
      generalize zs.getD i 0 = y at h1 ⊢
      simp [Lit.wf, IntKind.min, IntKind.max, IntKind.signed, IntKind.bits] at h1
      omega

theorem Code.below {w w' : World} {B : Nat} {A : Option Addr} {len : Nat} (h : Code w B A len) (hb : Below B w w') : Code w' B A len := by
  refine ⟨h.1, fun i hi => ?_⟩
  obtain ⟨x, n, hA, hx, h0, h1, hc⟩ := h.2 i hi
  exact ⟨x, n, hA, hx, h0, h1, (hb.cell (by rw [block_of_add]; exact hx)).trans hc⟩
theorem cur_new {w : World} {A : Option Addr} {len : Nat} (h : Code w w.heap.size A len) (cap : Nat) (x : Int) :
    Cur (w.alloc (.cells #[.slice A len cap, .int .i64 0, .int .i64 x] 61)) w.heap.size w.heap.size A len cap :=
  ⟨h.below ((Below.refl _ _).alloc (Nat.le_refl _) _), Nat.le_refl _, 0, x, Nat.zero_le _, heap_alloc_new w _⟩

set_option maxHeartbeats 1000000 in
set_option maxRecDepth 100000 in
theorem new_any (A : Option Addr) (len cap : Nat) (w : World) (hcode : Code w w.heap.size A len) :
    Calls Try.prog 43 #[.slice A len cap] w fun e w' => e = .returned (.pointer (some ⟨w.heap.size, 0, none⟩)) ∧ Cur w' w.heap.size w.heap.size A len cap ∧ Below w.heap.size w w' := by
  have hl := hcode.1
  have HC := Lib.hid hcode
  clear hcode
  go_enter Try.func43, Try.ntmps43
  go_wp2
  go_loop [3, 4] (fun h i => ∃ k : Nat, k ≤ len ∧ i = .int .i64 k ∧ ∃ x : Int, h = .int .i64 x) (fun _ i => len - (intOf i).toNat)
  case atStart => exact ⟨0, Nat.zero_le _, rfl, _, rfl⟩
  case round =>
    obtain ⟨k, hk, rfl, x, rfl⟩ := hrel
    by_cases hlt : k < len
    · obtain ⟨ad, n, rfl, hxB, n0, n1, hcell⟩ := HC.out.2 k hlt
      by_cases h4 : k < 4000
      · go_wp2
        go_round
        case rel => exact ⟨k + 1, by omega, by go_num, _, rfl⟩
        case measure => simp [intOf]; omega
      · go_wp2
        go_ret
        exact ⟨rfl, cur_new HC.out _ _, (Below.refl _ _).alloc (Nat.le_refl _) _⟩
    · go_wp2
      go_ret
      exact ⟨rfl, cur_new HC.out _ _, (Below.refl _ _).alloc (Nat.le_refl _) _⟩

theorem big_no (A : Option Addr) (len cap : Nat) (w : World) (h : len ≤ 1048576) :
    Calls Try.prog 27 #[.slice A len cap] w fun e w' => e = .returned (.bool false) ∧ w = w' := by
  have h' : ¬ (1048576 : Int) < (len : Int) := by omega
  go_enter Try.func27, Try.ntmps27
  go_wp2
  go_ret
  exact ⟨rfl, rfl⟩
theorem big_yes (A : Option Addr) (len cap : Nat) (w : World) (h : 1048576 < len) :
    Calls Try.prog 27 #[.slice A len cap] w fun e w' => e = .returned (.bool true) ∧ w = w' := by
  have h' : (1048576 : Int) < (len : Int) := by omega
  go_enter Try.func27, Try.ntmps27
  go_wp2
  go_ret
  exact ⟨rfl, rfl⟩

theorem below_of_cur {B g : Nat} {w0 w w' : World} (hb : Below B w0 w) (hB : B ≤ w.heap.size) (hg : w.grownBy w' (some g)) (hlo : B ≤ g) : Below B w0 w' :=
  hb.grown hg hB (fun k hk => by injection hk with hk; omega)

/-- A cursor stays over new blocks. -/
theorem Cur.alloc {w : World} {B g : Nat} {A : Option Addr} {len cap : Nat} (h : Cur w B g A len cap) (o : Obj) : Cur (w.alloc o) B g A len cap := by
  obtain ⟨hc, hlo, i, x, hi, hb⟩ := h
  have hlt : g < w.heap.size := by
    rcases Nat.lt_or_ge g w.heap.size with h | h
    · exact h
    · rw [Array.getElem?_eq_none h] at hb; cases hb
  exact ⟨hc.below ((Below.refl _ _).alloc (by omega) _), hlo, i, x, hi, (Below.heap_alloc w o g hlt).trans hb⟩
theorem Cur.lt {w : World} {B g : Nat} {A : Option Addr} {len cap : Nat} (h : Cur w B g A len cap) : g < w.heap.size := by
  obtain ⟨hc, hlo, i, x, hi, hb⟩ := h
  rcases Nat.lt_or_ge g w.heap.size with h | h
  · exact h
  · rw [Array.getElem?_eq_none h] at hb; cases hb

theorem grown_alloc_left {w w' : World} {row : Option Nat} {o : Obj} (h : (w.alloc o).grownBy w' row) : w.grownBy w' row :=
  World.grownBy.trans (World.grownBy_alloc w o row) h

end Go.Proofs.Ytdcjbojigmgcgab
