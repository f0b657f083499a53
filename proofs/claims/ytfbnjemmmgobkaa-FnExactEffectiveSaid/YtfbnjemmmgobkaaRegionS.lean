/- Regions with guards that are not decided: what an operation yields if its guard lets it; regions of one fixed order by the same rule. -/
import Derived.Test.YtfbnjemmmgobkaaRegionG
namespace Go.Proofs.Ytfbnjemmmgobkaa
open Go.RowKit
/-- The value, if the guard says yes. -/
def onlyIf (E : Bool) (v : Value) : Value := bif E then v else undef
theorem onlyIf_pos {E : Bool} {v : Value} (h : E = true) : onlyIf E v = v := by rw [h]; rfl
theorem onlyIf_neg {E : Bool} {v : Value} (h : E = false) : onlyIf E v = undef := by rw [h]; rfl
theorem and_l {a b : Bool} (h : (a && b) = true) : a = true := by cases a <;> simp_all
theorem and_r {a b : Bool} (h : (a && b) = true) : b = true := by cases a <;> simp_all
section
variable {P : Program}
theorem wanted_sym {ops : Array Oper} {o : Oper} {a : Act} {j d : Nat} {b X : Bool} (hg : o.guard = some (j, b)) (h : dstOf ops j = some d) (x : a.tmps.getD d undef = .bool X) : Region.wanted o (yielded ops a.tmps) = (X == b) := by
  unfold Region.wanted; rw [hg]; show (yielded ops a.tmps j == some b) = (X == b); rw [yielded_bool h x]; cases X <;> cases b <;> rfl
theorem wanted_cond {ops : Array Oper} {o : Oper} {a : Act} {j d : Nat} {b E X : Bool} (hg : o.guard = some (j, b)) (h : dstOf ops j = some d) (x : a.tmps.getD d undef = onlyIf E (.bool X)) : Region.wanted o (yielded ops a.tmps) = (E && (X == b)) := by
  cases E
  · exact wanted_undef hg h x
  · exact wanted_sym hg h x
/-- The rule for a region of one fixed order. -/
theorem wp_region_valuesF {id : Nat} {ops : Array Oper} {Q : Exit → Act → World → Prop} {a0 : Act} {w0 : World} (hl : Region.linearise .any ops 0 = List.range ops.size) (S : World → Prop) (V : Nat → Value → World → Prop) (n : Nat) (hn : a0.tmps.size = n)
    (hord : inOrderG ops = true) (honce : onceOnly ops n = true) (hS : S w0)
    (hop : ∀ i o, ops[i]? = some o → ∀ a w, a.defers = a0.defers → S w →
      (∀ j d, waitsFor ops i j = true → dstOf ops j = some d → V j (a.tmps.getD d undef) w) →
      (∀ k, freeFor ops i k = true → a.tmps.getD k undef = a0.tmps.getD k undef) →
      (Region.wanted o (yielded ops a.tmps) = true ∧ o.wp P a w (Nxt o i V S a w) Q) ∨ (Region.wanted o (yielded ops a.tmps) = false ∧ ∀ d, o.dst = some d → V i undef w))
    (hend : ∀ a w, a.tmps.size = a0.tmps.size → a.defers = a0.defers → S w → (∀ j d, dstOf ops j = some d → V j (a.tmps.getD d undef) w) →
      (∀ k, (∀ j, dstOf ops j ≠ some k) → a.tmps.getD k undef = a0.tmps.getD k undef) → Q .normal a w) :
    (Code.region id ops false).wp P Q a0 w0 := by
  have h := wpAny_valuesG (P := P) (Q := Q) (S := S) (V := V) hord (by rw [hn]; exact honce) hop hend ops.size (Array.replicate ops.size false) a0 w0 (by simp) ⟨by simp, rfl, rfl, hS, ?_, ?_, ?_⟩
  · have h2 : wpOps P ops Q (Region.linearise .any ops 0) a0 w0 := wpAny_sound ops.size 0 (Array.replicate ops.size false) a0 w0 h
    rw [hl] at h2
    exact wp_region h2
  · intro j i hj
    rw [none_listed] at hj
    cases hj
  · intro j d hj
    rw [none_listed] at hj
    cases hj
  · intro k _
    rfl
end
end Go.Proofs.Ytfbnjemmmgobkaa
