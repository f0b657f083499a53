/- A struct argument (Pool) opened to its fields. -/
import Derived.Test.YthjajgpejfoghabOpen
import Derived.Test.YthjajgpejfoghabToInts
import Derived.OpenShut
import Derived.ShutString
namespace Go.Proofs.Ythjajgpejfoghab
open Go.Joins Go.ChangeShapes Go.WideShapes Go.RowKit Go.Deep Go.ChangeAt
set_option linter.unusedVariables false
namespace OpPool
section
variable {H : Type} {enc : TypeId × Value → H} {w : World} {base : Nat} {held : Bool}
theorem cells_i : Try.prog.cellsOf 3 = 1 := by kernel_rfl
theorem cells_r : Try.prog.cellsOf 22 = 1 := by kernel_rfl
theorem cells_all : Try.prog.cellsOf 40 = 4 := by kernel_rfl
set_option maxRecDepth 100000 in
theorem opened {r : Reach} {b0 : Nat} {v : Value} {d : DataW H} {p : List MemPlace} (hv : Value.okWide Try.prog w r b0 40 v) (h : DataW.Trod enc Try.prog w base (fun _ => true) held 40 v d p) :
    ∃ (ba : Int) (si : Int) (co : Int) (a : Option Addr) (len cap : Nat) (zs : List Int), v = .agg #[.int .i64 ba, .int .i64 si, .int .i64 co, .slice a len cap] ∧ IsRow .i64 w a len cap zs ∧ len ≤ maxLen ∧ (-9223372036854775808 ≤ ba ∧ ba ≤ 9223372036854775807) ∧ (-9223372036854775808 ≤ si ∧ si ≤ 9223372036854775807) ∧ (-9223372036854775808 ≤ co ∧ co ≤ 9223372036854775807) := by
  obtain ⟨cs, rfl, hsz⟩ := okWide_struct Try.underlying40 hv
  obtain ⟨l⟩ := cs
  match l, hsz.trans cells_all with
  | [c0, c1, c2, c3], _ =>
    obtain ⟨fuel, hf0⟩ := h
    have hf : DataW.trod enc Try.prog w base (fun _ => true) held fuel 40 [c0, c1, c2, c3] = some _ := hf0
    obtain ⟨y0, n0, g0⟩ := open_parts Try.underlying40 hf 0 _ rfl
    have h0 : DataW.trod enc Try.prog w base (fun _ => true) held n0 3 [c0] = some y0 := by simpa [Value.cells, cells_i] using g0
    obtain ⟨a0, rfl, w0⟩ := part_int Try.underlying3 h0
    obtain ⟨y1, n1, g1⟩ := open_parts Try.underlying40 hf 1 _ rfl
    have h1 : DataW.trod enc Try.prog w base (fun _ => true) held n1 3 [c1] = some y1 := by simpa [Value.cells, cells_i] using g1
    obtain ⟨a1, rfl, w1⟩ := part_int Try.underlying3 h1
    obtain ⟨y2, n2, g2⟩ := open_parts Try.underlying40 hf 2 _ rfl
    have h2 : DataW.trod enc Try.prog w base (fun _ => true) held n2 3 [c2] = some y2 := by simpa [Value.cells, cells_i] using g2
    obtain ⟨a2, rfl, w2⟩ := part_int Try.underlying3 h2
    obtain ⟨y3, n3, g3⟩ := open_parts Try.underlying40 hf 3 _ rfl
    have h3 : DataW.trod enc Try.prog w base (fun _ => true) held n3 22 [c3] = some y3 := by simpa [Value.cells, cells_r] using g3
    have hrow : ∃ a len cap zs, c3 = .slice a len cap ∧ IsRow .i64 w a len cap zs ∧ len ≤ maxLen := by
      rcases open_ints Try.underlying22 Try.underlying3 (by kernel_rfl) h3 with ⟨hcs, _⟩ | ⟨x, l, c, zs, hcs, _, hl, hm, hz, _, hcell, hwz⟩
      · simp at hcs
        exact ⟨_, _, _, [], hcs, .inl ⟨rfl, rfl, rfl, rfl⟩, Nat.zero_le _⟩
      · simp at hcs
        exact ⟨_, _, _, zs, hcs, .inr ⟨_, rfl, hl, hm, by simpa using hz, hcell, hwz⟩, Nat.le_trans hl hm⟩
    obtain ⟨ra, rl, rc, rz, rfl, rR, rM⟩ := hrow
    exact ⟨a0, a1, a2, ra, rl, rc, rz, rfl, rR, rM, i64_bd w0, i64_bd w1, i64_bd w2⟩
end
end OpPool
end Go.Proofs.Ythjajgpejfoghab
