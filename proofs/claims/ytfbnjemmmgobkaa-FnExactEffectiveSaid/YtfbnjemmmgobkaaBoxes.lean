/- Structs that lie in blocks of their own: what stores, calls and new memory leave of them; what a function hands back out of them. -/
import Derived.Test.YtfbnjemmmgobkaaKit
import Derived.Test.YtfbnjemmmgobkaaEthMath
import Derived.Laws.Rows
import Derived.Laws.Tables
namespace Go.Proofs.Ytfbnjemmmgobkaa
open Go.RowKit
theorem Box.lt {w : World} {g : Nat} {vs : Array Value} {t : TypeId} (h : Box w g vs t) : g < w.heap.size := by
  unfold Box at h
  rcases Nat.lt_or_ge g w.heap.size with h1 | h1
  · exact h1
  · rw [Array.getElem?_eq_none h1] at h; cases h
theorem Box.newAt {w : World} {g : Nat} {vs : Array Value} {t : TypeId} (h : g = w.heap.size) : Box (w.alloc (.cells vs t)) g vs t := h ▸ heap_alloc_new w _
theorem Box.alloc {w : World} {g : Nat} {vs : Array Value} {t : TypeId} (h : Box w g vs t) (o : Obj) : Box (w.alloc o) g vs t := (heap_alloc_old w o h.lt).trans h
theorem with_it {w : World} {g : Nat} {vs : Array Value} {t : TypeId} {P : Prop} (h : Box w g vs t) (k : Box w g vs t → P) : P := k h
theorem Box.drew {w : World} {g : Nat} {vs : Array Value} {t : TypeId} (h : Box w g vs t) : Box w.drew g vs t := h
theorem Box.later {w w' : World} {g : Nat} {vs : Array Value} {t : TypeId} (h : Box w g vs t) (hb : Below w.heap.size w w') : Box w' g vs t := h.below hb h.lt
theorem with_box {w w1 : World} {g : Nat} {vs : Array Value} {t : TypeId} {P : Prop} (hb : Below w.heap.size w w1) (h : Box w g vs t) (k : Box w1 g vs t → P) : P := k (h.later hb)
theorem Box.set {w : World} {g j : Nat} {vs : Array Value} {t : TypeId} {v : Value} (h : Box w g vs t) : Box (w.setCell ⟨g, j, none⟩ v) g (vs.setIfInBounds j v) t := heap_setCell_same w g j vs t v h
theorem Box.skip {w : World} {g b j : Nat} {vs : Array Value} {t : TypeId} {v : Value} (hne : g ≠ b) (h : Box w g vs t) : Box (w.setCell ⟨b, j, none⟩ v) g vs t := (heap_setCell_other w ⟨b, j, none⟩ g v hne).trans h
theorem Box.row {w : World} {g : Nat} {vs cs : Array Value} {t : TypeId} (h : Box w g vs t) : Box (w.setRow g cs) g cs t := setRow_heap w g vs cs t (0, 0) h
theorem Box.skipRow {w : World} {g b : Nat} {vs cs : Array Value} {t : TypeId} (hne : g ≠ b) (h : Box w g vs t) : Box (w.setRow b cs) g vs t := (setRow_other w b g cs hne).trans h
theorem Box.frozen {w : World} {g : Nat} {vs : Array Value} {t : TypeId} (h : Box w g vs t) (j : Nat) : w.frozen? ⟨g, j, none⟩ = false := frozen_of_row w g j vs t h
theorem Box.to {w : World} {g : Nat} {vs cs : Array Value} {t : TypeId} (h : Box w g vs t) (e : vs = cs) : Box w g cs t := e ▸ h
theorem results_row_tmp {P : Program} {fn : Func} {p q : Tmp} {ty : TypeId} (h : fn.results = #[.cell p ty, .tmp q]) (tmps : Array Value) (w : World) (g : Nat) (t : TypeId) (cs : Array Value) (fr : Nat × Nat) (d : TypeDesc)
    (hp : tmps.getD p undef = .pointer (some ⟨g, 0, none⟩)) (hg : w.heap[g]? = some (.cells cs t fr)) (v : Value) (hq : tmps.getD q undef = v)
    (hu : P.underlying ty = some d) (hd : (match d with | .struct _ | .array _ _ => true | _ => false) = true) (hi : (P.info? ty).map (·.size) = some cs.size) :
    (results fn tmps).run P w = .ok (.tuple #[.agg cs, v]) w := by
  have hp' : tmps[p]?.getD undef = .pointer (some ⟨g, 0, none⟩) := by simpa using hp
  have hq' : tmps[q]?.getD undef = v := by simpa using hq
  simp [results, h, hp', hq', asAddr, run_loadVar_row w g t ty cs fr d hg hu hd hi]
theorem bodyPost_row {P : Program} {fn : Func} {R : Ending → World → Prop} {a : Act} {w : World} {p : Tmp} {ty : TypeId} {g : Nat} {t : TypeId} {cs : Array Value} {d : TypeDesc}
    (h : fn.results = #[.cell p ty]) (hp : a.tmps.getD p undef = .pointer (some ⟨g, 0, none⟩)) (hu : P.underlying ty = some d) (hd : (match d with | .struct _ | .array _ _ => true | _ => false) = true)
    (hb : Box w g cs t) (hi : (P.info? ty).map (·.size) = some cs.size) (hdf : a.defers = []) (hR : R (.returned (.agg cs)) w) : bodyPost P fn R .ret a w :=
  bodyPost_ret (results_cell_row h a.tmps w g t cs (0, 0) d hp hb hu hd hi) hdf hR
theorem bodyPost_row_tmp {P : Program} {fn : Func} {R : Ending → World → Prop} {a : Act} {w : World} {p q : Tmp} {ty : TypeId} {g : Nat} {t : TypeId} {cs : Array Value} {d : TypeDesc} {v : Value}
    (h : fn.results = #[.cell p ty, .tmp q]) (hp : a.tmps.getD p undef = .pointer (some ⟨g, 0, none⟩)) (hq : a.tmps.getD q undef = v) (hu : P.underlying ty = some d) (hd : (match d with | .struct _ | .array _ _ => true | _ => false) = true)
    (hb : Box w g cs t) (hi : (P.info? ty).map (·.size) = some cs.size) (hdf : a.defers = []) (hR : R (.returned (.tuple #[.agg cs, v])) w) : bodyPost P fn R .ret a w :=
  bodyPost_ret (results_row_tmp h a.tmps w g t cs (0, 0) d hp hb v hq hu hd hi) hdf hR
end Go.Proofs.Ytfbnjemmmgobkaa
