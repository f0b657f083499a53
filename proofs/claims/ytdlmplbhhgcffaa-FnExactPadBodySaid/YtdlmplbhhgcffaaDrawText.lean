/- Contracts of the model's draws of texts: a text of drawn bytes, a text of one byte. -/
import Derived.Test.YtdlmplbhhgcffaaDraw
namespace Go.Proofs.Ytdlmplbhhgcffaa
open Go.RowKit

/-- A cursor stays over an append onto a row above it. -/
theorem Cur.push {w w' : World} {B g : Nat} {A : Option Addr} {len cap : Nat} {o : Obj} {row : Option Nat} (h : Cur w B g A len cap) (hg : (w.alloc o).grownBy w' row) (hr : ∀ k, row = some k → g < k) : Cur w' B g A len cap := by
  have hlt := h.lt
  obtain ⟨hc, hlo, i, x, hi, hb⟩ := h.alloc o
  refine ⟨⟨hc.1, fun j hj => ?_⟩, hlo, i, x, hi, (hg.block g (by simp; omega) (fun e => by have := hr g e.symm; omega)).trans hb⟩
  obtain ⟨y, n, hA, hy, h0, h1, hcell⟩ := hc.2 j hj
  exact ⟨y, n, hA, hy, h0, h1, hg.cell hcell (by rw [block_of_add]; intro e; have := hr _ e.symm; omega)⟩
theorem grown_push {w0 w w' : World} {g : Nat} {o : Obj} {row : Option Nat} (h : w0.grownBy w (some g)) (hg : (w.alloc o).grownBy w' row) (hr : ∀ k, row = some k → w0.heap.size ≤ k) : w0.grownBy w' (some g) := by
  have h1 := World.grownBy.trans h (World.grownBy_alloc w o (some g))
  refine ⟨hg.os.trans h1.os, hg.tape.trans h1.tape, hg.output.trans h1.output, Nat.le_trans h1.size hg.size, fun k hk hne => ?_⟩
  exact (hg.block k (Nat.lt_of_lt_of_le hk h1.size) (fun e => by have := hr k e.symm; omega)).trans (h1.block k hk hne)

def TextPost (B g : Nat) (A : Option Addr) (len cap : Nat) (n : Nat) (w : World) (e : Ending) (w' : World) : Prop :=
  ∃ s : ByteArray, s.size = n ∧ e = .returned (.string s) ∧ Cur w' B g A len cap ∧ w.grownBy w' (some g)

set_option maxHeartbeats 1000000 in
set_option maxRecDepth 100000 in
theorem text_any (n : Nat) (B g : Nat) (A : Option Addr) (len cap : Nat) (w : World) (hc : Cur w B g A len cap) (hn : n ≤ 5000) :
    Calls Try.prog 83 #[.pointer (some ⟨g, 0, none⟩), .int .i64 n] w (TextPost B g A len cap n w) := by
  have h' : ¬ 5000 < (n : Int) := by omega
  have HC := Lib.hid hc
  have hlt := hc.lt
  clear hc
  go_enter Try.func83, Try.ntmps83
  go_wp2
  go_loopw [5, 6] (fun v i wr => ∃ k : Nat, k ≤ n ∧ i = .int .i64 k ∧ ∃ l : List UInt8, Hid (l.length = k) ∧ wr.ownsRow w.heap.size 5 1 v k (u8s l) ∧ Cur wr B g A len cap ∧ w.grownBy wr (some g))
    (fun _ i _ => n - (intOf i).toNat)
  case atStart => exact ⟨0, Nat.zero_le _, rfl, [], Lib.hid rfl, World.ownsRow_lit w #[] 0 (Nat.le_refl _) (by unfold maxLen; omega) rfl, HC.out.alloc _, World.grownBy_alloc w _ _⟩
  case round =>
    obtain ⟨k, hk, rfl, l, HL, hown, hcur, hgr⟩ := hrel
    have HCu := Lib.hid hcur
    have HG := Lib.hid hgr
    clear hcur hgr
    by_cases hlt2 : k < n
    · go_wp2_with fail
      refine (byte_any B g A len cap _ HCu.out).mono ?_
      rintro e w1 ⟨x, x0, x1, rfl, hc1, hg1⟩
      have hown1 : w1.ownsRow w.heap.size 5 1 u5 k (u8s l) := hown.kept hg1 (by
        rcases hob : u5.ownBlock with _ | b
        · exact .inl rfl
        · exact .inr (by intro e; have := (hown.lt b hob).1; injection e with e; omega))
      have HC1 := Lib.hid hc1
      have HG1 := Lib.hid (World.grownBy.trans HG.out hg1)
      have hz : w.heap.size ≤ w1.heap.size + 1 := by have := HG1.out.size; omega
      have m1 : k + 1 ≤ maxLen := by unfold maxLen; omega
      have m2 : (k + 1) * 1 ≤ 140737488355328 := by omega
      clear hc1 hg1 hown
      go_wp2_with (at_builtin; with_reducible refine wpList_push rfl (.tmp 15) (.tmp 19) 22 rfl w.heap.size elem8 rfl (hown1.alloc _) _ 1 1 [.int .u8 x] rfl (heap_alloc_new _ _) rfl (by simp [Value.oneCell']) (by decide) m1 m2 (by simpa using hz) ?_; intro g2 cap2 w2 hown2 hgrow2)
      have hr : ∀ b, u5.ownBlock = some b → w.heap.size ≤ b := fun b hb => (hown1.lt b hb).1
      go_roundw
      case rel =>
        refine ⟨k + 1, by omega, by go_num, l ++ [UInt8.ofNat x.toNat], Lib.hid (by have := HL.out; simp; omega), ?_, HC1.out.push hgrow2 (fun b hb => by have := hr b hb; omega), grown_push HG1.out hgrow2 hr⟩
        have e1 : u8s (l ++ [UInt8.ofNat x.toNat]) = u8s l ++ [.int .u8 x] := by
          rw [u8s_append]
          simp only [u8s, List.map_cons, List.map_nil, UInt8.toNat_ofNat']
          congr 3
          omega
        rw [e1]
        exact hown2
      case measure => simp [intOf]; omega
    · obtain rfl : k = n := by omega
      have hs := run_string_own (P := Try.prog) (dst := 9) Try.underlying22 Try.underlying5 Try.underlying9 hown
      go_wp2
      go_ret
      exact ⟨⟨l.toArray⟩, by show l.toArray.size = k; simpa using (show l.length = k from HL.out), rfl, HCu.out, HG.out⟩

theorem u8s_set (l : List UInt8) (k : Nat) (c : UInt8) : (u8s l).set k (.int .u8 c.toNat) = u8s (l.set k c) := by simp [u8s, List.map_set]
theorem u8s_zero (n : Nat) : (madeCells #[Value.int .u8 0] (n * 1)).toList = u8s (List.replicate n 0) := by
  rw [Nat.mul_one, toList_madeCells_one]; simp [u8s]

set_option maxHeartbeats 1000000 in
set_option maxRecDepth 100000 in
theorem long_any (n : Nat) (c : UInt8) (w : World) (hn : n ≤ 30000) :
    Calls Try.prog 69 #[.int .i64 n, .int .u8 c.toNat] w fun e w' => ∃ s : ByteArray, s.size = n ∧ e = .returned (.string s) ∧ Below w.heap.size w w' := by
  obtain ⟨i0, hi, hz0, hz1, hz2⟩ := info_parts Try.info8
  go_enter Try.func69, Try.ntmps69
  go_wp2_with (at_make; refine wpList_make_full _ rfl _ _ 22 rfl w.heap.size 5 i0 (.int .u8 0) 1 Try.underlying22 hi hz0 hz1 .i64 .i64 _ _ n rfl rfl rfl rfl (by rw [hz2]; omega) (by unfold maxLen; omega) (Nat.le_refl _) ?_; intro w0 hown0 hgrow0)
  have hb0 : Below w.heap.size w w0 := (Below.refl _ _).grown hgrow0 (Nat.le_refl _) (by intro k hk; cases hk)
  rw [show (Value.int IntKind.u8 0).cells = #[Value.int .u8 0] from rfl, u8s_zero] at hown0
  go_loopw [6] (fun i wr => ∃ k : Nat, k ≤ n ∧ i = .int .i64 k ∧ ∃ l : List UInt8, Hid (l.length = n) ∧ wr.ownsRow w.heap.size 5 1 (.slice (some ⟨w.heap.size, 0, none⟩) n n) n (u8s l) ∧ Below w.heap.size w wr)
    (fun i _ => n - (intOf i).toNat)
  case atStart => exact ⟨0, Nat.zero_le _, rfl, List.replicate n 0, Lib.hid (by simp), hown0, hb0⟩
  case round =>
    clear hown0 hgrow0 hb0
    obtain ⟨k, hk, rfl, l, HL, hown, hb⟩ := hrel
    by_cases hlt : k < n
    · have hll : k < l.length := by have := HL.out; omega
      have hcell : wr.cell? ⟨w.heap.size, k, none⟩ = some (.int .u8 l[k].toNat) := by
        rw [hown.cellAt k (by omega)]; simp [u8s, List.getElem?_eq_getElem hll]
      have hfr := hown.frozenAt k
      have HO := Lib.hid hown
      clear hown
      go_wp2
      go_roundw
      case rel =>
        refine ⟨k + 1, by omega, by go_num, l.set k c, Lib.hid (by simpa using (show l.length = n from HL.out)), ?_, hb.setCell (Nat.le_refl _) _⟩
        rw [← u8s_set]
        exact (HO.out.stored k _).1
      case measure => simp [intOf]; omega
    · obtain rfl : k = n := by omega
      have hs := run_string_own (P := Try.prog) (dst := 9) Try.underlying22 Try.underlying5 Try.underlying9 hown
      go_wp2
      go_ret
      exact ⟨⟨l.toArray⟩, by show l.toArray.size = k; simpa using (show l.length = k from HL.out), rfl, hb⟩

end Go.Proofs.Ytdlmplbhhgcffaa
