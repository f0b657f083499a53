/- Rows of ints that a function makes. -/
import Derived.Test.YtogiocinhjbdkaaIntRowDef
import Derived.Laws.Tables
import Derived.Laws.CopyOwn
import Derived.Laws.Rows
namespace Go.Proofs.Ytogiocinhjbdkaa
open Go.RowKit
theorem Try.infoI : (Try.prog.info? 3).map (fun i => (i.zero, i.size, i.bytes)) = some (some (.int .i64 0), 1, 8) := by kernel_rfl
theorem elemI : Elem Try.prog 48 3 (.int .i64 0) 1 8 := ⟨Try.underlying48, info_parts Try.infoI, by decide, by decide⟩
theorem row_of_own {W : World} {B n : Nat} {v : Value} {xs : List Value} {f : Nat → Int} (h : W.ownsRow B 3 1 v n xs) (hx : ∀ j, j < n → xs[j]? = some (.int .i64 (f j))) : IntRow W B v n f := by
  obtain ⟨hl, ⟨rfl, rfl⟩ | ⟨g, cap, cur, rfl, hb, hg, hc, hm, hs, ht⟩⟩ := h
  · exact .inl ⟨rfl, _, _, rfl⟩
  · rcases Nat.eq_zero_or_pos n with rfl | h0
    · exact .inl ⟨rfl, _, _, rfl⟩
    · refine .inr ⟨h0, g, cap, cur, rfl, hb, (Array.getElem?_eq_some_iff.1 hg).1, hg, ⟨by omega, hc, hm⟩, fun j hj => ?_⟩
      have h2 := hx j hj
      rw [← ht, List.getElem?_take_of_lt (by omega)] at h2
      simpa using h2
end Go.Proofs.Ytogiocinhjbdkaa
