/- Ethernet frames: the plain mathematics. -/
import Derived.Test.YtfbnjemmmgobkaaBytesVal
namespace Go.Proofs.Ytfbnjemmmgobkaa

structure EthM where
  dst : Int
  src : Int
  vlan : Int
  type : Int
  body : ByteArray
def EthM.val (e : EthM) : Value := .agg #[.int .i64 e.dst, .int .i64 e.src, .int .i64 e.vlan, .int .i64 e.type, .string e.body]
/-- A number that an int can hold. -/
def I64 (a : Int) : Prop := -9223372036854775808 ≤ a ∧ a ≤ 9223372036854775807
def EthM.Wf (e : EthM) : Prop := I64 e.dst ∧ I64 e.src ∧ I64 e.vlan ∧ I64 e.type ∧ e.body.size ≤ maxLen
def EthM.zero : EthM := ⟨0, 0, 0, 0, ⟨#[]⟩⟩
/-- A frame that can be sent. -/
def EthM.Ok (e : EthM) : Prop := (0 ≤ e.dst ∧ e.dst ≤ 281474976710655) ∧ (0 ≤ e.src ∧ e.src ≤ 281474976710655) ∧ (-1 ≤ e.vlan ∧ e.vlan ≤ 4095) ∧ (1536 ≤ e.type ∧ e.type ≤ 65535) ∧ e.type ≠ 33024 ∧ (46 ≤ e.body.size ∧ e.body.size ≤ 400)
instance (e : EthM) : Decidable e.Ok := by unfold EthM.Ok; infer_instance
/-- Six bytes of an address. -/
def mac (x : Int) : ByteArray := w16 (x / 4294967296) ++ w32 (x % 4294967296)
def EthM.tag (e : EthM) : ByteArray := if 0 ≤ e.vlan then w16 33024 ++ w16 e.vlan else ⟨#[]⟩
def EthM.bytes (e : EthM) : ByteArray := mac e.dst ++ mac e.src ++ e.tag ++ w16 e.type ++ e.body
def EthM.built (e : EthM) : ByteArray := if e.Ok then e.bytes else ⟨#[]⟩
open Go.RowKit
/-- A struct that lies in a block of its own. -/
def Box (w : World) (g : Nat) (vs : Array Value) (t : TypeId) : Prop := w.heap[g]? = some (.cells vs t (0, 0))
theorem Box.below {w w' : World} {g B : Nat} {vs : Array Value} {t : TypeId} (h : Box w g vs t) (hb : Below B w w') (hg : g < B) : Box w' g vs t := (hb.block g hg).trans h
theorem Box.cell {w : World} {g : Nat} {vs : Array Value} {t : TypeId} (h : Box w g vs t) (j : Nat) (hj : j < vs.size) : w.cell? ⟨g, j, none⟩ = some vs[j] := by
  rw [cell_of_row w g j _ _ _ h, Array.getElem?_eq_getElem hj]
theorem Box.new (w : World) (vs : Array Value) (t : TypeId) : Box (w.alloc (.cells vs t)) w.heap.size vs t := heap_alloc_new w _
theorem Box.five {w : World} {g : Nat} {a b c d e : Value} {t : TypeId} (h : Box w g #[a, b, c, d, e] t) :
    w.cell? ⟨g, 0, none⟩ = some a ∧ w.cell? ⟨g, 1, none⟩ = some b ∧ w.cell? ⟨g, 2, none⟩ = some c ∧ w.cell? ⟨g, 3, none⟩ = some d ∧ w.cell? ⟨g, 4, none⟩ = some e :=
  ⟨h.cell 0 (by simp), h.cell 1 (by simp), h.cell 2 (by simp), h.cell 3 (by simp), h.cell 4 (by simp)⟩
theorem keep_cell {W W' : World} {g j : Nat} {x : Value} (hb : Below W.heap.size W W') (hg : g < W.heap.size) (h : W.cell? ⟨g, j, none⟩ = some x) : W'.cell? ⟨g, j, none⟩ = some x :=
  (hb.cell (p := ⟨g, j, none⟩) hg).trans h
theorem trans_below {A W W' : World} (h1 : Below A.heap.size A W) (h2 : Below W.heap.size W W') : Below A.heap.size A W' := h1.trans (h2.mono h1.size)
/-- What a drawn region keeps of a struct of five cells and of what lay there before. -/
theorem keep_five {A W W' : World} {g : Nat} {a b c d e : Value} (hb : Below W.heap.size W W')
    (h : W.cell? ⟨g, 0, none⟩ = some a ∧ W.cell? ⟨g, 1, none⟩ = some b ∧ W.cell? ⟨g, 2, none⟩ = some c ∧ W.cell? ⟨g, 3, none⟩ = some d ∧ W.cell? ⟨g, 4, none⟩ = some e ∧ Below A.heap.size A W ∧ g < W.heap.size) :
    W'.cell? ⟨g, 0, none⟩ = some a ∧ W'.cell? ⟨g, 1, none⟩ = some b ∧ W'.cell? ⟨g, 2, none⟩ = some c ∧ W'.cell? ⟨g, 3, none⟩ = some d ∧ W'.cell? ⟨g, 4, none⟩ = some e ∧ Below A.heap.size A W' ∧ g < W'.heap.size :=
  have hg := h.2.2.2.2.2.2
  ⟨keep_cell hb hg h.1, keep_cell hb hg h.2.1, keep_cell hb hg h.2.2.1, keep_cell hb hg h.2.2.2.1, keep_cell hb hg h.2.2.2.2.1, trans_below h.2.2.2.2.2.1 hb, Nat.lt_of_lt_of_le hg hb.size⟩
theorem keep_two {A W W' : World} {g i j : Nat} {a b : Value} (hb : Below W.heap.size W W')
    (h : W.cell? ⟨g, i, none⟩ = some a ∧ W.cell? ⟨g, j, none⟩ = some b ∧ Below A.heap.size A W ∧ g < W.heap.size) :
    W'.cell? ⟨g, i, none⟩ = some a ∧ W'.cell? ⟨g, j, none⟩ = some b ∧ Below A.heap.size A W' ∧ g < W'.heap.size :=
  ⟨keep_cell hb h.2.2.2 h.1, keep_cell hb h.2.2.2 h.2.1, trans_below h.2.2.1 hb, Nat.lt_of_lt_of_le h.2.2.2 hb.size⟩
theorem keep_one {A W W' : World} {g i : Nat} {a : Value} (hb : Below W.heap.size W W')
    (h : W.cell? ⟨g, i, none⟩ = some a ∧ Below A.heap.size A W ∧ g < W.heap.size) : W'.cell? ⟨g, i, none⟩ = some a ∧ Below A.heap.size A W' ∧ g < W'.heap.size :=
  ⟨keep_cell hb h.2.2 h.1, trans_below h.2.1 hb, Nat.lt_of_lt_of_le h.2.2 hb.size⟩

end Go.Proofs.Ytfbnjemmmgobkaa
