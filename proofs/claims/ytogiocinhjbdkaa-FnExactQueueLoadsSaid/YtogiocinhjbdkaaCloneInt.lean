/- slices.Clone over int. -/
import Derived.Test.YtogiocinhjbdkaaRegion4
import Derived.Test.YtogiocinhjbdkaaRowInt
import Derived.Lib.SliceRun
namespace Go.Proofs.Ytogiocinhjbdkaa
open Go.RowKit
set_option linter.unusedSimpArgs false
set_option linter.unusedVariables false

theorem elem_int : Elm Try.prog 48 3 1 := ⟨Try.underlying48, by kernel_rfl, by decide⟩
theorem el_int : El intrA 1 := ⟨fun x => rfl, fun x u hu => by simp [intrA] at hu; first | (subst hu; rfl) | (rcases hu with rfl <;> rfl)⟩

set_option maxHeartbeats 4000000 in
set_option maxRecDepth 100000 in
theorem cloneAt_int (a : Option Addr) (g q c : Nat) (l : List Int) (w : World) (hn : l.length ≤ 4194304) (hV : ViewAt w a g q 1 (l.map intrA)) :
    Calls Try.prog 150 #[.slice a l.length c] w fun e w' => ∃ v, e = .returned v ∧ Ownd w' w.heap.size 3 1 v (l.map intrA) ∧ Below w.heap.size w w' := by
  have HV := Lib.hid hV
  have hnil := fun (W : World) (a : Option Addr) (n c : Nat) => Lib.run_eql_slice_nil (P := Try.prog) W 48 3 a n c 0 0 Try.underlying48
  rcases a with _ | a
  · have hl : l = [] := by
      rcases l with _ | ⟨x, r⟩
      · rfl
      · have := (hV.1 (by simp)).1; cases this
    subst hl
    clear hV
    go_enter Try.func150, Try.ntmps150
    go_wp2
    go_ret
    exact ⟨_, rfl, Ownd.nil _ _ _ _ none, Below.refl _ _⟩
  · clear hV
    by_cases h0 : l = []
    · subst h0
      clear hn HV
      simp only [List.length_nil]
      go_enter Try.func150, Try.ntmps150
      go_wp2
      go_ret
      exact ⟨_, rfl, Ownd.nil _ _ _ _ _, below_new _⟩
    obtain ⟨n, hl⟩ : ∃ n, n = l.length := ⟨_, rfl⟩
    have hp : ¬ n = 0 := fun e => h0 (List.length_eq_zero_iff.1 (hl.symm.trans e))
    rw [← hl] at hn ⊢
    have HL := Lib.hid hl
    clear hl h0
    go_enter Try.func150, Try.ntmps150
    go_wp2_with (refine wpList_append_e rfl (.tmp 5) (.tmp 6) rfl (B := w.heap.size) elem_int el_int (v := .slice (some ⟨w.heap.size, 0, none⟩) 0 0) (xs := []) (by simp [go_sem, Act.eval]) (Ownd.nil _ _ _ _ _) (a := some a) c (ys := l) (by rw [← HL.out]; simp [go_sem, Act.eval]) (HV.out.later (below_new _)) (by have := HL.out; simp; omega) (by simp) ?_; intro v' w' ho ht)
    go_ret
    exact ⟨_, rfl, ho, below_touch (below_new _) ht (fun k hk => hk.1)⟩
theorem clone_int (a : Option Addr) (g c : Nat) (l : List Int) (w : World) (hn : l.length ≤ 4194304) (hV : View w a g 1 (l.map intrA)) :
    Calls Try.prog 150 #[.slice a l.length c] w fun e w' => ∃ v, e = .returned v ∧ Ownd w' w.heap.size 3 1 v (l.map intrA) ∧ Below w.heap.size w w' := cloneAt_int a g 0 c l w hn hV.at0
end Go.Proofs.Ytogiocinhjbdkaa
