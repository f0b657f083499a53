/- Segmentation: the plain mathematics. -/
import Derived.Test.YtbidaccdjnbhfaaSuperOkB
namespace Go.Proofs.Ytbidaccdjnbhfaa
open Go.RowKit
set_option linter.unusedVariables false
def cntM (n size : Int) : Nat := ((n + size - 1) / size).toNat
theorem cnt_lt {n size : Int} (h : 1 ≤ size) (hn : 0 ≤ n) (k : Nat) : k < cntM n size ↔ (k : Int) * size < n := by
  unfold cntM
  have h1 : ((k : Int) + 1 ≤ (n + size - 1) / size) ↔ ((k : Int) + 1) * size ≤ n + size - 1 := Int.le_ediv_iff_mul_le (by omega)
  have h2 : ((k : Int) + 1) * size = (k : Int) * size + size := by rw [Int.add_mul, Int.one_mul]
  omega
theorem cnt_eq {n size : Int} (h : 1 ≤ size) (hn : 0 ≤ n) : ((cntM n size : Nat) : Int) = (n + size - 1) / size := by
  unfold cntM
  rw [Int.toNat_of_nonneg (Int.ediv_nonneg (by omega) (by omega))]
theorem cnt_le {n size : Int} (h : 1 ≤ size) (hn : 0 ≤ n) : (cntM n size : Int) ≤ n := by
  by_cases hz : cntM n size = 0
  · omega
  · have h1 := (cnt_lt h hn (cntM n size - 1)).1 (by omega)
    have h2 : ((cntM n size - 1 : Nat) : Int) * 1 ≤ ((cntM n size - 1 : Nat) : Int) * size := Int.mul_le_mul_of_nonneg_left h (by omega)
    omega
/-- Piece k. -/
def pieceM (p : PktM) (size : Int) (k : Nat) : PktM := ⟨p.dmac, p.smac, p.vlan, p.tos, (p.id + k) % 65536, p.ttl, p.sip, p.dip, ⟨p.seg.kind, p.seg.sport, p.seg.dport, (p.seg.seq + (k : Int) * size) % 4294967296, p.seg.ack,
  if ((k : Int) + 1) * size < (p.seg.body.size : Int) then bits .andNot .i64 p.seg.flags 9 else p.seg.flags, p.seg.window, p.seg.body.extract ((k : Int) * size).toNat (if ((k : Int) + 1) * size < (p.seg.body.size : Int) then ((k : Int) + 1) * size else (p.seg.body.size : Int)).toNat⟩⟩
/-- What is left behind k pieces. -/
def leftM (p : PktM) (size : Int) (k : Nat) : PktM := ⟨p.dmac, p.smac, p.vlan, p.tos, (p.id + k) % 65536, p.ttl, p.sip, p.dip, ⟨p.seg.kind, p.seg.sport, p.seg.dport, (p.seg.seq + (k : Int) * size) % 4294967296, p.seg.ack,
  p.seg.flags, p.seg.window, p.seg.body.extract ((k : Int) * size).toNat p.seg.body.size⟩⟩
def splitOk (p : PktM) (size : Int) : Prop := p.SuperOk ∧ 1 ≤ size ∧ size ≤ 128
instance (p : PktM) (size : Int) : Decidable (splitOk p size) := by unfold splitOk; infer_instance
def splitL (p : PktM) (size : Int) : List PktM :=
  if splitOk p size then (if p.seg.kind = 6 ∧ size < (p.seg.body.size : Int) then (List.range (cntM p.seg.body.size size)).map (pieceM p size) else [p]) else []
theorem splitL_no {p : PktM} {size : Int} (h : ¬ splitOk p size) : splitL p size = [] := if_neg h
theorem splitL_one {p : PktM} {size : Int} (h : splitOk p size) (h2 : ¬ (p.seg.kind = 6 ∧ size < (p.seg.body.size : Int))) : splitL p size = [p] := by unfold splitL; rw [if_pos h, if_neg h2]
theorem splitL_many {p : PktM} {size : Int} (h : splitOk p size) (h2 : p.seg.kind = 6 ∧ size < (p.seg.body.size : Int)) : splitL p size = (List.range (cntM p.seg.body.size size)).map (pieceM p size) := by unfold splitL; rw [if_pos h, if_pos h2]
theorem leftM_zero {p : PktM} {size : Int} (h : p.SuperOk) : leftM p size 0 = p := by
  unfold PktM.SuperOk SegM.Ok at h
  unfold leftM
  have e1 : (p.id + ((0 : Nat) : Int)) % 65536 = p.id := by omega
  have e2 : (p.seg.seq + ((0 : Nat) : Int) * size) % 4294967296 = p.seg.seq := by
    rw [show ((0 : Nat) : Int) * size = 0 by simp]; omega
  have e3 : p.seg.body.extract (((0 : Nat) : Int) * size).toNat p.seg.body.size = p.seg.body := by simp
  rw [e1, e2, e3]
theorem superok_lin {p : PktM} (h : p.SuperOk) : (0 ≤ p.id ∧ p.id ≤ 65535) ∧ (0 ≤ p.seg.seq ∧ p.seg.seq ≤ 4294967295) ∧ p.seg.body.size ≤ 320 := by
  unfold PktM.SuperOk SegM.Ok at h
  refine ⟨h.2.2.2.2.2.1, ?_, by omega⟩
  omega
theorem succ_mul' (k : Nat) (size : Int) : ((k : Int) + 1) * size = (k : Int) * size + size := by rw [Int.add_mul, Int.one_mul]
/-- The body of what is left, cut again. -/
theorem left_cut {B : ByteArray} {a s : Nat} (h : a + s ≤ B.size) : (B.extract a B.size).extract s (B.extract a B.size).size = B.extract (a + s) B.size := by
  rw [ByteArray.extract_extract, ByteArray.size_extract]
  congr 1
  omega
theorem left_head {B : ByteArray} {a s : Nat} (h : a + s ≤ B.size) : (B.extract a B.size).extract 0 s = B.extract a (a + s) := by
  rw [ByteArray.extract_extract]
  congr 1
  omega
end Go.Proofs.Ytbidaccdjnbhfaa
