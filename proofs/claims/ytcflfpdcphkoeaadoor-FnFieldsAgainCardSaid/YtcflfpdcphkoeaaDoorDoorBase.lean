/- What the listed variables give a walk: strconv's table of powers of ten; that strconv's two errors are not nil. -/
import Derived.Test.YtcflfpdcphkoeaaDoorRows
import Derived.Test.YtcflfpdcphkoeaaDoorTie
import Derived.Test.YtcflfpdcphkoeaaDoorCards
import Derived.WalkKit
import Derived.ProofKit
import Derived.LaidMore
import Derived.Lib.LaidTab
import Derived.Lib.ItoaNum
import Derived.Lib.SmallJoins
import Derived.Sort.Grow
import Derived.Deep.Draws
import Derived.MakeChecks
namespace Go.Proofs.YtcflfpdcphkoeaaDoor
open Go.ChangeShapes Go.WideShapes Go.ChangeAt Go.RowKit
open Go.Sort (grow)

theorem gPow : Tryd.prog.globalNamed "internal/strconv.uint64pow10" = some 3 := by kernel_rfl
theorem pow_data {H : Type} : (Rows.laid_internal_strconv_uint64pow10 : DataW H) = Lib.tabData .u64 Lib.pow10Tab := rfl
theorem cellsU64 : Tryd.prog.cellsOf 66 = 1 := by kernel_rfl
theorem cellsPow : Tryd.prog.cellsOf 79 = 20 := by kernel_rfl
theorem tPow : (Tryd.prog.globals[3]?).map (·.type) = some 79 := by kernel_rfl

theorem pow_of_laid {W : World} {n1 n2 : String} {d1 d2 : DataW Unit} {rest : List (String × DataW Unit)}
    (h : laidMet Tryd.prog ((n1, d1) :: (n2, d2) :: ("internal/strconv.uint64pow10", Rows.laid_internal_strconv_uint64pow10) :: rest) W) : Lib.TabIs Tryd.prog W "internal/strconv.uint64pow10" .u64 Lib.pow10Tab := by
  obtain ⟨ps, ⟨_, _, _, _, _, _, _, _, _, _, ⟨_, _, _, _, _, _, _, _, _, _, ⟨g, t, cs, f, p, q, hg, ht, hv, hd, _, _⟩, _⟩, _⟩, _, _⟩ := h
  obtain rfl := Option.some.inj (gPow.symm.trans hg)
  obtain rfl := Option.some.inj (tPow.symm.trans ht)
  rw [pow_data] at hd
  unfold Lib.TabIs
  rw [hv, ← Lib.cells_of_tab Tryd.underlying79 Tryd.underlying66 cellsU64 cellsPow hd]

theorem gSyn : Tryd.prog.globalNamed "strconv.ErrSyntax" = some 1 := by kernel_rfl
theorem tSyn : (Tryd.prog.globals[1]?).map (·.type) = some 47 := by kernel_rfl
theorem gRan : Tryd.prog.globalNamed "strconv.ErrRange" = some 2 := by kernel_rfl
theorem tRan : (Tryd.prog.globals[2]?).map (·.type) = some 47 := by kernel_rfl

theorem errs_of_laid {W : World} {n1 n2 n3 : String} {d1 d2 d3 : DataW Unit}
    (h : laidMet Tryd.prog ((n1, d1) :: (n2, d2) :: (n3, d3) :: ("strconv.ErrRange", Rows.laid_strconv_ErrRange) :: ("strconv.ErrSyntax", Rows.laid_strconv_ErrSyntax) :: []) W) :
    (∃ tp p, W.var? Tryd.prog "strconv.ErrRange" = some #[.iface tp p]) ∧ (∃ tp p, W.var? Tryd.prog "strconv.ErrSyntax" = some #[.iface tp p]) := by
  obtain ⟨ps, ⟨_, _, _, _, _, _, _, _, _, _, ⟨_, _, _, _, _, _, _, _, _, _, ⟨_, _, _, _, _, _, _, _, _, _, ⟨g, t, cs, f, p, q, hg, ht, hv, hd, ⟨g', t', cs', f', p', q', hg', ht', hv', hd', _, _⟩, _⟩, _⟩, _⟩, _⟩, _, _⟩ := h
  obtain rfl := Option.some.inj (tRan.symm.trans (by rw [← Option.some.inj (gRan.symm.trans hg)] at ht; exact ht))
  obtain rfl := Option.some.inj (tSyn.symm.trans (by rw [← Option.some.inj (gSyn.symm.trans hg')] at ht'; exact ht'))
  obtain ⟨_, u, v, e1, _⟩ := iface_of_trod Tryd.underlying47 hd
  obtain ⟨_, u', v', e2, _⟩ := iface_of_trod Tryd.underlying47 hd'
  refine ⟨⟨u, v, ?_⟩, ⟨u', v', ?_⟩⟩
  · rw [hv]; exact congrArg some (Array.ext' e1)
  · rw [hv']; exact congrArg some (Array.ext' e2)

theorem var_stays {w w' : World} {g : Nat} {n : String} {cs : Array Value} (hg : Tryd.prog.globalNamed n = some g) (h : w.var? Tryd.prog n = some cs) (hb : Below w.heap.size w w') : w'.var? Tryd.prog n = some cs := by
  unfold World.var? at h ⊢
  rw [hg] at h ⊢
  simp only [Option.bind_some] at h ⊢
  have hlt : g < w.heap.size := by
    rcases Nat.lt_or_ge g w.heap.size with h1 | h1
    · exact h1
    · simp [Array.getElem?_eq_none h1] at h
  rw [hb.block g hlt]
  exact h

/-- New blocks and draws leave what was there. -/
theorem below_grow (w : World) (k : Nat) (os : Array Obj) : Below w.heap.size w (grow (w.drewN k) os) :=
  ⟨rfl, rfl, rfl, by simp [grow], fun j hj => by simp [grow, Array.getElem?_append, hj]⟩

end Go.Proofs.YtcflfpdcphkoeaaDoor
