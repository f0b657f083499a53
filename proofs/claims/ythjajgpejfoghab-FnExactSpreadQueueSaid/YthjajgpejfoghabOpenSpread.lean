/- A struct argument (Spread) opened to its fields. -/
import Derived.Test.YthjajgpejfoghabOpen
import Derived.Test.YthjajgpejfoghabToInts
import Derived.OpenShut
import Derived.ShutString
namespace Go.Proofs.Ythjajgpejfoghab
open Go.Joins Go.ChangeShapes Go.WideShapes Go.RowKit Go.Deep Go.ChangeAt
set_option linter.unusedVariables false
namespace OpSpread
section
variable {H : Type} {enc : TypeId × Value → H} {w : World} {base : Nat} {held : Bool}
theorem cells_r : Try.prog.cellsOf 22 = 1 := by kernel_rfl
theorem cells_s : Try.prog.cellsOf 9 = 1 := by kernel_rfl
theorem cells_all : Try.prog.cellsOf 24 = 2 := by kernel_rfl
set_option maxRecDepth 100000 in
theorem opened {r : Reach} {b0 : Nat} {v : Value} {d : DataW H} {p : List MemPlace} (hv : Value.okWide Try.prog w r b0 24 v) (h : DataW.Trod enc Try.prog w base (fun _ => true) held 24 v d p) :
    ∃ (key : ByteArray) (a : Option Addr) (len cap : Nat) (zs : List Int), v = .agg #[.string key, .slice a len cap] ∧ IsRow .i64 w a len cap zs ∧ len ≤ maxLen ∧ key.size ≤ maxLen := by
  obtain ⟨cs, rfl, hsz⟩ := okWide_struct Try.underlying24 hv
  obtain ⟨l⟩ := cs
  match l, hsz.trans cells_all with
  | [c0, c1], _ =>
    obtain ⟨fuel, hf0⟩ := h
    have hf : DataW.trod enc Try.prog w base (fun _ => true) held fuel 24 [c0, c1] = some _ := hf0
    obtain ⟨y0, n0, g0⟩ := open_parts Try.underlying24 hf 0 _ rfl
    have h0 : DataW.trod enc Try.prog w base (fun _ => true) held n0 9 [c0] = some y0 := by simpa [Value.cells, cells_s] using g0
    obtain ⟨a0, rfl, w0⟩ := part_string Try.underlying9 h0
    obtain ⟨y1, n1, g1⟩ := open_parts Try.underlying24 hf 1 _ rfl
    have h1 : DataW.trod enc Try.prog w base (fun _ => true) held n1 22 [c1] = some y1 := by simpa [Value.cells, cells_r] using g1
    have hrow : ∃ a len cap zs, c1 = .slice a len cap ∧ IsRow .i64 w a len cap zs ∧ len ≤ maxLen := by
      rcases open_ints Try.underlying22 Try.underlying3 (by kernel_rfl) h1 with ⟨hcs, _⟩ | ⟨x, l, c, zs, hcs, _, hl, hm, hz, _, hcell, hwz⟩
      · simp at hcs
        exact ⟨_, _, _, [], hcs, .inl ⟨rfl, rfl, rfl, rfl⟩, Nat.zero_le _⟩
      · simp at hcs
        exact ⟨_, _, _, zs, hcs, .inr ⟨_, rfl, hl, hm, by simpa using hz, hcell, hwz⟩, Nat.le_trans hl hm⟩
    obtain ⟨ra, rl, rc, rz, rfl, rR, rM⟩ := hrow
    exact ⟨a0, ra, rl, rc, rz, rfl, rR, rM, w0⟩
end
end OpSpread
end Go.Proofs.Ythjajgpejfoghab
