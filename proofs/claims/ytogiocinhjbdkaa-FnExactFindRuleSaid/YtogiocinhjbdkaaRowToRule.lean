/- Rows of Rule that came in: to, sz, and how they are opened. -/
import Derived.Test.YtogiocinhjbdkaaOpElRule
import Derived.Test.YtogiocinhjbdkaaToRule
import Derived.Laws.OwnMore
import Derived.Laws.MakeOwn
namespace Go.Proofs.Ytogiocinhjbdkaa
open Go.RowKit
set_option linter.unusedSimpArgs false
set_option linter.unusedVariables false

theorem Try.infoRule : (Try.prog.info? 127).map (fun i => (i.zero, i.size, i.bytes)) = some (some (.agg #[.int .i64 0, .int .i64 0, .int .i64 0, .int .i64 0, .int .i64 0, .int .i64 0, .int .i64 0, .int .i64 0, .int .i64 0]), 9, 72) := by kernel_rfl
theorem elemRule : Elem Try.prog 33 127 (.agg #[.int .i64 0, .int .i64 0, .int .i64 0, .int .i64 0, .int .i64 0, .int .i64 0, .int .i64 0, .int .i64 0, .int .i64 0]) 9 72 := ⟨Try.underlying33, info_parts Try.infoRule, by decide, by decide⟩
def OwnRuleS (w : World) (l : List RuleM) (e : Ending) (w' : World) : Prop := ∃ v, e = .returned v ∧ Row w' (Rng w.heap.size w'.heap.size) 127 9 v (l.map RuleM.arr) ∧ Below w.heap.size w w'

set_option maxHeartbeats 4000000 in
set_option maxRecDepth 100000 in
theorem to_rules (a : Option Addr) (cap : Nat) (l : List RuleM) (w : World) (hn : l.length ≤ 2097152) (h : EltsL w a 9 (l.map RuleM.arr)) :
    Calls Try.prog 25 #[.slice a l.length cap] w (OwnRuleS w l) := by
  have H := Lib.hid h
  clear h
  obtain ⟨n, hl⟩ : ∃ n, n = l.length := ⟨_, rfl⟩
  rw [← hl] at hn ⊢
  have HL := Lib.hid hl
  clear hl
  obtain ⟨i0, hi, hz0, hz1, hz2⟩ := info_parts Try.infoRule
  go_enter Try.func25, Try.ntmps25
  go_wp2_with (at_make; refine wpList_make_full _ rfl _ _ 33 rfl w.heap.size 127 i0 _ 9 Try.underlying33 hi hz0 hz1 .i64 .i64 _ _ n rfl rfl rfl rfl (by rw [hz2]; omega) (by unfold maxLen; omega) (Nat.le_refl _) ?_; intro w0 hown0 hgrow0)
  have HB0 : Hid (Below w.heap.size w w0) := Lib.hid ((Below.refl _ _).grown hgrow0 (Nat.le_refl _) (by intro k hk; cases hk))
  have HU0 : Hid (Upto w0 w.heap.size 127 9 n 0 0 (fun i => ((l.map RuleM.arr).getD i #[]))) := Lib.hid (by
    obtain ⟨_, ⟨h, _⟩ | ⟨g, cap, cur, hv, hb, hg, hc, hm, hs, ht⟩⟩ := hown0
    · cases h
    · cases hv
      exact Upto.start hg (by omega))
  clear hown0 hgrow0
  go_loopw [4] (fun i wr => ∃ k : Nat, k ≤ n ∧ i = .int .i64 k ∧ Hid (Upto wr w.heap.size 127 9 n k 0 (fun i => ((l.map RuleM.arr).getD i #[]))) ∧ Hid (Below w.heap.size w wr)) (fun i _ => n + 1 - (intOf i).toNat)
  case atStart => exact ⟨0, by omega, rfl, HU0, HB0⟩
  case round =>
    clear HU0 HB0
    obtain ⟨k, hk, rfl, HU, HB⟩ := hrel
    by_cases hlt : k < n
    · have hk' : k < l.length := by have := HL.out; omega
      obtain ⟨x, rfl, hx1, hx2⟩ := (H.out.later HB.out) k l[k].arr (by simp [hk'])
      have HF : Hid ((fun i => ((l.map RuleM.arr).getD i #[])) k = l[k].arr) := Lib.hid (by simp [hk'])
      generalize l[k] = e at hx2 HF
      have HE := Lib.hid fun W => to_rule e W
      obtain ⟨y0, y1, y2, y3, y4, y5, y6, y7, y8⟩ := e
      unfold RuleM.arr RuleM.val at *
      have HC : Hid (∀ j v, ([.int .i64 y0, .int .i64 y1, .int .i64 y2, .int .i64 y3, .int .i64 y4, .int .i64 y5, .int .i64 y6, .int .i64 y7, .int .i64 y8] : List Value)[j]? = some v → wr.cell? ((x.add (k * 9)).add j) = some v) := Lib.hid fun j v hj => by
        have hjl : j < 9 := by have := (List.getElem?_eq_some_iff.1 hj).1; simpa using this
        rw [hx2 j hjl]; simpa using hj
      clear hx2
      have e1 : (k : Int) < (n : Int) := by omega
      have e0 : (0 : Int) ≤ (k : Int) := by omega
      go_wp2_with (first
        | (refine wpList_load_at rfl 129 (.tmp 18) rfl (x.add (k * 9)) (by go_simp) [.int .i64 y0, .int .i64 y1, .int .i64 y2, .int .i64 y3, .int .i64 y4, .int .i64 y5, .int .i64 y6, .int .i64 y7, .int .i64 y8] _ HC.out Try.underlying129 rfl (by kernel_rfl) ?_)
        | (go_at_call 90; refine (HE.out _).mono ?_; rintro e w1 ⟨rfl, hb1⟩; have HB1 := Lib.hid (below_comp HB.out hb1); have HU1 := Lib.hid (HU.out.later hb1); clear hb1 HU)
        | (refine wpList_store_elem HU1.out HB1.out (Nat.le_refl _) hlt #[.int .i64 y0, .int .i64 y1, .int .i64 y2, .int .i64 y3, .int .i64 y4, .int .i64 y5, .int .i64 y6, .int .i64 y7, .int .i64 y8] HF.out rfl (by simp [Value.oneCell']) rfl 127 (.tmp 21) (.tmp 20) rfl (by kernel_rfl) (by go_simp) (by go_simp) ?_; intro w2 hu2 hb2 hz2; have HU2 := Lib.hid hu2; have HB2 := Lib.hid hb2; clear hu2 hb2))
      go_roundw
      case rel => exact ⟨k + 1, by omega, by go_num, HU2, HB2⟩
      case measure => simp [intOf]; omega
    · obtain rfl : k = n := by omega
      have HR : Hid (Row wr (Rng w.heap.size wr.heap.size) 127 9 (.slice (some ⟨w.heap.size, 0, none⟩) k k) (l.map RuleM.arr)) := Lib.hid (by
        have hl2 : (l.map RuleM.arr).length = k := by rw [List.length_map]; exact HL.out.symm
        have h2 : Upto wr w.heap.size 127 9 (l.map RuleM.arr).length (l.map RuleM.arr).length 0 (fun i => ((l.map RuleM.arr).getD i #[])) := by rw [hl2]; exact HU.out
        have h3 := h2.to_row (S := Rng w.heap.size wr.heap.size) (c := k) (fun i x hx => by simp only [List.getD_eq_getElem?_getD]; rw [hx]; rfl) ⟨Nat.le_refl _, HU.out.lt⟩ (by omega) (by unfold maxLen; omega)
        rw [hl2] at h3
        exact h3)
      go_wp2
      exact bodyPost_ret (v := .slice (some ⟨w.heap.size, 0, none⟩) k k) (by simp [results, Try.results25, go_sem]) rfl ⟨_, rfl, HR.out, HB.out⟩

def RuleM.szL (l : List RuleM) : Nat := l.length
theorem RuleM.szL_ge (l : List RuleM) : l.length ≤ RuleM.szL l := Nat.le_refl _
set_option maxHeartbeats 4000000 in
set_option maxRecDepth 100000 in
theorem sz_rules (a : Option Addr) (cap : Nat) (l : List RuleM) (left : Int) (w : World) (hl : l.length ≤ 9223372036854775807) (h : 0 ≤ left ∧ left ≤ 4194304) (_ : EltsL w a 9 (l.map RuleM.arr)) :
    Calls Try.prog 23 #[.slice a l.length cap, .int .i64 left] w fun e w' => e = .returned (.int .i64 (if left < (RuleM.szL l : Nat) then -1 else left - (RuleM.szL l : Nat))) ∧ Below w.heap.size w w' := by
  unfold RuleM.szL
  generalize l.length = len at hl ⊢
  by_cases hlt : left < len
  · rw [if_pos hlt]
    have h1 : left - len < 0 := by omega
    obtain ⟨h0, h2⟩ := h
    go_enter Try.func23, Try.ntmps23
    go_wp2
    go_ret
    exact ⟨rfl, Below.refl _ _⟩
  · rw [if_neg hlt]
    have h1 : ¬ left - len < 0 := by omega
    obtain ⟨h0, h2⟩ := h
    go_enter Try.func23, Try.ntmps23
    go_wp2
    go_ret
    exact ⟨rfl, Below.refl _ _⟩

namespace OpRuleS
section
variable {H : Type} {enc : TypeId × Value → H} {w : World} {base : Nat} {spare : Nat → Bool} {held : Bool}
theorem row {fuel : Nat} {c : Value} {x : DataW H × List MemPlace} (h : DataW.trod enc Try.prog w base spare held fuel 30 [c] = some x) :
    ∃ (a : Option Addr) (cap : Nat) (l : List RuleM), c = .slice a l.length cap ∧ EltsL w a 9 (l.map RuleM.arr) ∧ l.length ≤ maxLen ∧ ∀ z ∈ l, z.Wf :=
  open_row Try.underlying30 (by kernel_rfl) (by omega) (fun _ _ _ h => OpRule.el h) h
end
end OpRuleS
end Go.Proofs.Ytogiocinhjbdkaa
