/- EncodeCompletion of both sides. -/
import Derived.Test.YtncpnoloamebnaaComplOkB
import Derived.Test.YtncpnoloamebnaaHashInputB
import Derived.Test.YtncpnoloamebnaaInYN
import Derived.Deep.QuietTactic
import Derived.BigQuiet
namespace Go.Proofs.Ytncpnoloamebnaa
open Go.RowKit
set_option linter.unusedSimpArgs false
set_option linter.unusedVariables false

def CompletionM.bytes (e : CompletionM) (ph : Int) : ByteArray := word16V e.xCookie ++ word16V e.xLen ++ word16V e.xSize ++ word16V e.xCount ++ word32V e.xHash ++ word32V ph
def CompletionM.enc (e : CompletionM) (ph : Int) : ByteArray := if e.Ok ∧ 0 ≤ ph ∧ ph ≤ 1 then e.bytes ph else ⟨#[]⟩

set_option maxHeartbeats 4000000 in
set_option maxRecDepth 100000 in
theorem spec_enccompl (e : CompletionM) (ph : Int) (w : World) :
    Calls Try.prog 45 #[e.val, .int .i64 ph] w fun r w' => r = .returned (.string (e.enc ph)) ∧ Below w.heap.size w w' := by
  by_cases h : e.Ok
  case neg =>
    have HV : Hid (∀ W, Calls Try.prog 42 #[e.val] W fun r w' => r = .returned (.bool false) ∧ Below W.heap.size W w') := Lib.hid fun W => by have := spec_completionok e W; rwa [decide_eq_false h] at this
    rw [show e.enc ph = ⟨#[]⟩ from if_neg (fun hh => h hh.1)]
    clear h
    obtain ⟨co, le, si, cn, ha⟩ := e
    unfold CompletionM.val at *
    dsimp only at *
    go_enter Try.func45, Try.ntmps45
    go_wp2_with (go_at_call 42; refine (HV.out _).mono ?_; rintro e w1 ⟨rfl, hb1⟩)
    go_ret
    exact ⟨rfl, below_comp (below_new _) hb1⟩
  have HV : Hid (∀ W, Calls Try.prog 42 #[e.val] W fun r w' => r = .returned (.bool true) ∧ Below W.heap.size W w') := Lib.hid fun W => by have := spec_completionok e W; rwa [decide_eq_true h] at this
  by_cases hp : 0 ≤ ph ∧ ph ≤ 1
  case neg =>
    rw [show e.enc ph = ⟨#[]⟩ from if_neg (fun hh => hp hh.2)]
    have HI := Lib.hid fun W => spec_in_no ph 0 1 W hp
    clear h hp
    obtain ⟨co, le, si, cn, ha⟩ := e
    unfold CompletionM.val at *
    dsimp only at *
    go_enter Try.func45, Try.ntmps45
    go_wp2_with (first
      | (go_at_call 42; refine (HV.out _).mono ?_; rintro e w1 ⟨rfl, hb1⟩)
      | (go_at_call 47; refine (HI.out _).mono ?_; rintro e w' ⟨rfl, rfl⟩))
    go_ret
    exact ⟨rfl, below_comp (below_new _) hb1⟩
  have HI := Lib.hid fun W => spec_in_yes ph 0 1 W hp
  obtain ⟨R, HR⟩ : ∃ R, Hid (R = e.bytes ph) := ⟨_, Lib.hid rfl⟩
  rw [show e.enc ph = R from (if_pos ⟨h, hp⟩).trans HR.out.symm]
  clear h hp
  obtain ⟨co, le, si, cn, ha⟩ := e
  unfold CompletionM.val CompletionM.bytes at *
  dsimp only at *
  have z1 := w16V_size co
  have z2 := w16V_size le
  have z3 := w16V_size si
  have z4 := w16V_size cn
  have z5 := w32V_size ha
  have z6 := w32V_size ph
  go_enter Try.func45, Try.ntmps45
  go_wp2_with (first
    | (go_at_call 42; refine (HV.out _).mono ?_; rintro e w1 ⟨rfl, hb1⟩)
    | (go_at_call 47; refine (HI.out _).mono ?_; rintro e w' ⟨rfl, rfl⟩))
  have hg1 : w.heap.size < w1.heap.size := by have := hb1.size; simp at this; omega
  have HB1 := Lib.hid ((Box.new w #[.int .i64 co, .int .i64 le, .int .i64 si, .int .i64 cn, .int .i64 ha] 54).below hb1 (by simp))
  have hb01 := below_comp (below_new _) hb1
  clear hb1
  refine wp_region_values (by kernel_rfl) (fun W => Below w1.heap.size w1 W) (Vals [.pointer (some ⟨w.heap.size, 0, none⟩), .int .i64 co, .string (word16V co), .pointer (some ⟨w.heap.size, 1, none⟩), .int .i64 le, .string (word16V le), .string ((word16V co) ++ (word16V le)), .pointer (some ⟨w.heap.size, 2, none⟩), .int .i64 si, .string (word16V si), .string (((word16V co) ++ (word16V le)) ++ (word16V si)), .pointer (some ⟨w.heap.size, 3, none⟩), .int .i64 cn, .string (word16V cn), .string ((((word16V co) ++ (word16V le)) ++ (word16V si)) ++ (word16V cn)), .pointer (some ⟨w.heap.size, 4, none⟩), .int .i64 ha, .string (word32V ha), .string (((((word16V co) ++ (word16V le)) ++ (word16V si)) ++ (word16V cn)) ++ (word32V ha)), .int .i64 ph, .string (word32V ph), .string ((((((word16V co) ++ (word16V le)) ++ (word16V si)) ++ (word16V cn)) ++ (word32V ha)) ++ (word32V ph)), .string ((((((word16V co) ++ (word16V le)) ++ (word16V si)) ++ (word16V cn)) ++ (word32V ha)) ++ (word32V ph))] [])
    35 rfl (by kernel_rfl) (by kernel_rfl) below_drew (eachOp_all ?_) ?_
  · refine ⟨?_, ?_, ?_, ?_, ?_, ?_, ?_, ?_, ?_, ?_, ?_, ?_, ?_, ?_, ?_, ?_, ?_, ?_, ?_, ?_, ?_, ?_, ?_, trivial⟩
    · intro a W hd hS hdep hfree
      have x2 : a.tmps.getD 2 undef = .pointer (some ⟨w.heap.size, 0, none⟩) := hfree 2 rfl
      clear hd hdep hfree
      simp only [Oper.wp, execOp]
      go_simp
      refine Nxt.mk _ rfl (fun _ _ => ?_) hS (fun _ _ h => h)
      rfl
    · intro a W hd hS hdep hfree
      have x13 : a.tmps.getD 13 undef = .pointer (some ⟨w.heap.size, 0, none⟩) := hdep 0 13 rfl rfl
      clear hd hdep hfree
      have c : W.cell? ⟨w.heap.size, 0, none⟩ = some (.int .i64 co) := (HB1.out.below hS hg1).cell 0 (by simp)
      simp only [Oper.wp, execOp]
      go_simp
      refine Nxt.mk _ rfl (fun _ _ => ?_) hS (fun _ _ h => h)
      rfl
    · intro a W hd hS hdep hfree
      have x14 : a.tmps.getD 14 undef = .int .i64 co := hdep 1 14 rfl rfl
      clear hd hdep hfree
      simp only [Oper.wp, execOp]
      go_simp
      refine (spec_word16 co W).mono ?_
      rintro e W' ⟨rfl, hb⟩
      exact Nxt.mk _ rfl (fun _ _ => rfl) (below_comp hS hb) (fun j u h => Vals.below hb j u h)
    · intro a W hd hS hdep hfree
      have x2 : a.tmps.getD 2 undef = .pointer (some ⟨w.heap.size, 0, none⟩) := hfree 2 rfl
      clear hd hdep hfree
      simp only [Oper.wp, execOp]
      go_simp
      refine Nxt.mk _ rfl (fun _ _ => ?_) hS (fun _ _ h => h)
      rfl
    · intro a W hd hS hdep hfree
      have x16 : a.tmps.getD 16 undef = .pointer (some ⟨w.heap.size, 1, none⟩) := hdep 3 16 rfl rfl
      clear hd hdep hfree
      have c : W.cell? ⟨w.heap.size, 1, none⟩ = some (.int .i64 le) := (HB1.out.below hS hg1).cell 1 (by simp)
      simp only [Oper.wp, execOp]
      go_simp
      refine Nxt.mk _ rfl (fun _ _ => ?_) hS (fun _ _ h => h)
      rfl
    · intro a W hd hS hdep hfree
      have x17 : a.tmps.getD 17 undef = .int .i64 le := hdep 4 17 rfl rfl
      clear hd hdep hfree
      simp only [Oper.wp, execOp]
      go_simp
      refine (spec_word16 le W).mono ?_
      rintro e W' ⟨rfl, hb⟩
      exact Nxt.mk _ rfl (fun _ _ => rfl) (below_comp hS hb) (fun j u h => Vals.below hb j u h)
    · intro a W hd hS hdep hfree
      have x15 : a.tmps.getD 15 undef = .string (word16V co) := hdep 2 15 rfl rfl
      have x18 : a.tmps.getD 18 undef = .string (word16V le) := hdep 5 18 rfl rfl
      clear hd hdep hfree
      have k : ¬ 9223372036854775807 < (word16V co).size + (word16V le).size := by (try simp only [ByteArray.size_append]); omega
      have k2 := k
      try simp only [ByteArray.size_append] at k2
      simp only [Oper.wp, execOp]
      go_simp
      refine Nxt.mk _ rfl (fun _ _ => ?_) hS (fun _ _ h => h)
      rfl
    · intro a W hd hS hdep hfree
      have x2 : a.tmps.getD 2 undef = .pointer (some ⟨w.heap.size, 0, none⟩) := hfree 2 rfl
      clear hd hdep hfree
      simp only [Oper.wp, execOp]
      go_simp
      refine Nxt.mk _ rfl (fun _ _ => ?_) hS (fun _ _ h => h)
      rfl
    · intro a W hd hS hdep hfree
      have x20 : a.tmps.getD 20 undef = .pointer (some ⟨w.heap.size, 2, none⟩) := hdep 7 20 rfl rfl
      clear hd hdep hfree
      have c : W.cell? ⟨w.heap.size, 2, none⟩ = some (.int .i64 si) := (HB1.out.below hS hg1).cell 2 (by simp)
      simp only [Oper.wp, execOp]
      go_simp
      refine Nxt.mk _ rfl (fun _ _ => ?_) hS (fun _ _ h => h)
      rfl
    · intro a W hd hS hdep hfree
      have x21 : a.tmps.getD 21 undef = .int .i64 si := hdep 8 21 rfl rfl
      clear hd hdep hfree
      simp only [Oper.wp, execOp]
      go_simp
      refine (spec_word16 si W).mono ?_
      rintro e W' ⟨rfl, hb⟩
      exact Nxt.mk _ rfl (fun _ _ => rfl) (below_comp hS hb) (fun j u h => Vals.below hb j u h)
    · intro a W hd hS hdep hfree
      have x19 : a.tmps.getD 19 undef = .string ((word16V co) ++ (word16V le)) := hdep 6 19 rfl rfl
      have x22 : a.tmps.getD 22 undef = .string (word16V si) := hdep 9 22 rfl rfl
      clear hd hdep hfree
      have k : ¬ 9223372036854775807 < ((word16V co) ++ (word16V le)).size + (word16V si).size := by (try simp only [ByteArray.size_append]); omega
      have k2 := k
      try simp only [ByteArray.size_append] at k2
      simp only [Oper.wp, execOp]
      go_simp
      refine Nxt.mk _ rfl (fun _ _ => ?_) hS (fun _ _ h => h)
      rfl
    · intro a W hd hS hdep hfree
      have x2 : a.tmps.getD 2 undef = .pointer (some ⟨w.heap.size, 0, none⟩) := hfree 2 rfl
      clear hd hdep hfree
      simp only [Oper.wp, execOp]
      go_simp
      refine Nxt.mk _ rfl (fun _ _ => ?_) hS (fun _ _ h => h)
      rfl
    · intro a W hd hS hdep hfree
      have x24 : a.tmps.getD 24 undef = .pointer (some ⟨w.heap.size, 3, none⟩) := hdep 11 24 rfl rfl
      clear hd hdep hfree
      have c : W.cell? ⟨w.heap.size, 3, none⟩ = some (.int .i64 cn) := (HB1.out.below hS hg1).cell 3 (by simp)
      simp only [Oper.wp, execOp]
      go_simp
      refine Nxt.mk _ rfl (fun _ _ => ?_) hS (fun _ _ h => h)
      rfl
    · intro a W hd hS hdep hfree
      have x25 : a.tmps.getD 25 undef = .int .i64 cn := hdep 12 25 rfl rfl
      clear hd hdep hfree
      simp only [Oper.wp, execOp]
      go_simp
      refine (spec_word16 cn W).mono ?_
      rintro e W' ⟨rfl, hb⟩
      exact Nxt.mk _ rfl (fun _ _ => rfl) (below_comp hS hb) (fun j u h => Vals.below hb j u h)
    · intro a W hd hS hdep hfree
      have x23 : a.tmps.getD 23 undef = .string (((word16V co) ++ (word16V le)) ++ (word16V si)) := hdep 10 23 rfl rfl
      have x26 : a.tmps.getD 26 undef = .string (word16V cn) := hdep 13 26 rfl rfl
      clear hd hdep hfree
      have k : ¬ 9223372036854775807 < (((word16V co) ++ (word16V le)) ++ (word16V si)).size + (word16V cn).size := by (try simp only [ByteArray.size_append]); omega
      have k2 := k
      try simp only [ByteArray.size_append] at k2
      simp only [Oper.wp, execOp]
      go_simp
      refine Nxt.mk _ rfl (fun _ _ => ?_) hS (fun _ _ h => h)
      rfl
    · intro a W hd hS hdep hfree
      have x2 : a.tmps.getD 2 undef = .pointer (some ⟨w.heap.size, 0, none⟩) := hfree 2 rfl
      clear hd hdep hfree
      simp only [Oper.wp, execOp]
      go_simp
      refine Nxt.mk _ rfl (fun _ _ => ?_) hS (fun _ _ h => h)
      rfl
    · intro a W hd hS hdep hfree
      have x28 : a.tmps.getD 28 undef = .pointer (some ⟨w.heap.size, 4, none⟩) := hdep 15 28 rfl rfl
      clear hd hdep hfree
      have c : W.cell? ⟨w.heap.size, 4, none⟩ = some (.int .i64 ha) := (HB1.out.below hS hg1).cell 4 (by simp)
      simp only [Oper.wp, execOp]
      go_simp
      refine Nxt.mk _ rfl (fun _ _ => ?_) hS (fun _ _ h => h)
      rfl
    · intro a W hd hS hdep hfree
      have x29 : a.tmps.getD 29 undef = .int .i64 ha := hdep 16 29 rfl rfl
      clear hd hdep hfree
      simp only [Oper.wp, execOp]
      go_simp
      refine (spec_word32 ha W).mono ?_
      rintro e W' ⟨rfl, hb⟩
      exact Nxt.mk _ rfl (fun _ _ => rfl) (below_comp hS hb) (fun j u h => Vals.below hb j u h)
    · intro a W hd hS hdep hfree
      have x27 : a.tmps.getD 27 undef = .string ((((word16V co) ++ (word16V le)) ++ (word16V si)) ++ (word16V cn)) := hdep 14 27 rfl rfl
      have x30 : a.tmps.getD 30 undef = .string (word32V ha) := hdep 17 30 rfl rfl
      clear hd hdep hfree
      have k : ¬ 9223372036854775807 < ((((word16V co) ++ (word16V le)) ++ (word16V si)) ++ (word16V cn)).size + (word32V ha).size := by (try simp only [ByteArray.size_append]); omega
      have k2 := k
      try simp only [ByteArray.size_append] at k2
      simp only [Oper.wp, execOp]
      go_simp
      refine Nxt.mk _ rfl (fun _ _ => ?_) hS (fun _ _ h => h)
      rfl
    · intro a W hd hS hdep hfree
      have x1 : a.tmps.getD 1 undef = .int .i64 ph := hfree 1 rfl
      clear hd hdep hfree
      simp only [Oper.wp, execOp]
      go_simp
      refine Nxt.mk _ rfl (fun _ _ => ?_) hS (fun _ _ h => h)
      rfl
    · intro a W hd hS hdep hfree
      have x32 : a.tmps.getD 32 undef = .int .i64 ph := hdep 19 32 rfl rfl
      clear hd hdep hfree
      simp only [Oper.wp, execOp]
      go_simp
      refine (spec_word32 ph W).mono ?_
      rintro e W' ⟨rfl, hb⟩
      exact Nxt.mk _ rfl (fun _ _ => rfl) (below_comp hS hb) (fun j u h => Vals.below hb j u h)
    · intro a W hd hS hdep hfree
      have x31 : a.tmps.getD 31 undef = .string (((((word16V co) ++ (word16V le)) ++ (word16V si)) ++ (word16V cn)) ++ (word32V ha)) := hdep 18 31 rfl rfl
      have x33 : a.tmps.getD 33 undef = .string (word32V ph) := hdep 20 33 rfl rfl
      clear hd hdep hfree
      have k : ¬ 9223372036854775807 < (((((word16V co) ++ (word16V le)) ++ (word16V si)) ++ (word16V cn)) ++ (word32V ha)).size + (word32V ph).size := by (try simp only [ByteArray.size_append]); omega
      have k2 := k
      try simp only [ByteArray.size_append] at k2
      simp only [Oper.wp, execOp]
      go_simp
      refine Nxt.mk _ rfl (fun _ _ => ?_) hS (fun _ _ h => h)
      rfl
    · intro a W hd hS hdep hfree
      have x34 : a.tmps.getD 34 undef = .string ((((((word16V co) ++ (word16V le)) ++ (word16V si)) ++ (word16V cn)) ++ (word32V ha)) ++ (word32V ph)) := hdep 21 34 rfl rfl
      clear hd hdep hfree
      simp only [Oper.wp, execOp]
      go_simp
      refine Nxt.mk _ rfl (fun _ _ => ?_) hS (fun _ _ h => h)
      rfl
  intro a W2 hs hd hS2 hdone hrest
  have ea := written_all [.pointer (some ⟨w.heap.size, 0, none⟩), .int .i64 co, .string (word16V co), .pointer (some ⟨w.heap.size, 1, none⟩), .int .i64 le, .string (word16V le), .string ((word16V co) ++ (word16V le)), .pointer (some ⟨w.heap.size, 2, none⟩), .int .i64 si, .string (word16V si), .string (((word16V co) ++ (word16V le)) ++ (word16V si)), .pointer (some ⟨w.heap.size, 3, none⟩), .int .i64 cn, .string (word16V cn), .string ((((word16V co) ++ (word16V le)) ++ (word16V si)) ++ (word16V cn)), .pointer (some ⟨w.heap.size, 4, none⟩), .int .i64 ha, .string (word32V ha), .string (((((word16V co) ++ (word16V le)) ++ (word16V si)) ++ (word16V cn)) ++ (word32V ha)), .int .i64 ph, .string (word32V ph), .string ((((((word16V co) ++ (word16V le)) ++ (word16V si)) ++ (word16V cn)) ++ (word32V ha)) ++ (word32V ph)), .string ((((((word16V co) ++ (word16V le)) ++ (word16V si)) ++ (word16V cn)) ++ (word32V ha)) ++ (word32V ph))] rfl hs hd hrest hdone
  clear hs hd hdone hrest
  subst ea
  simp only [written, List.map_cons, List.map_nil, List.zip_cons_cons, List.zip_nil_right, putAll]
  simp only [Exit.then, Act.put, List.setIfInBounds_toArray, List.set_cons_zero, List.set_cons_succ]
  rw [show ((((((word16V co) ++ (word16V le)) ++ (word16V si)) ++ (word16V cn)) ++ (word32V ha)) ++ (word32V ph)) = R from HR.out.symm]
  go_wp2
  go_ret
  exact ⟨rfl, below_comp hb01 hS2⟩

set_option maxHeartbeats 4000000 in
set_option maxRecDepth 100000 in
theorem impl_enccompl (e : CompletionM) (ph : Int) (w : World) :
    Calls Try.prog 46 #[e.val, .int .i64 ph] w fun r w' => r = .returned (.string (e.enc ph)) ∧ Below w.heap.size w w' := by
  by_cases h : e.Ok
  case neg =>
    have HV : Hid (∀ W, Calls Try.prog 44 #[e.val] W fun r w' => r = .returned (.bool false) ∧ Below W.heap.size W w') := Lib.hid fun W => by have := impl_completionok e W; rwa [decide_eq_false h] at this
    rw [show e.enc ph = ⟨#[]⟩ from if_neg (fun hh => h hh.1)]
    clear h
    obtain ⟨co, le, si, cn, ha⟩ := e
    unfold CompletionM.val at *
    dsimp only at *
    go_enter Try.func46, Try.ntmps46
    go_wp2_with (go_at_call 44; refine (HV.out _).mono ?_; rintro e w1 ⟨rfl, hb1⟩)
    go_ret
    exact ⟨rfl, below_comp (below_new _) hb1⟩
  have HV : Hid (∀ W, Calls Try.prog 44 #[e.val] W fun r w' => r = .returned (.bool true) ∧ Below W.heap.size W w') := Lib.hid fun W => by have := impl_completionok e W; rwa [decide_eq_true h] at this
  by_cases hp : 0 ≤ ph ∧ ph ≤ 1
  case neg =>
    rw [show e.enc ph = ⟨#[]⟩ from if_neg (fun hh => hp hh.2)]
    have HI := Lib.hid fun W => impl_in_no ph 0 1 W hp
    clear h hp
    obtain ⟨co, le, si, cn, ha⟩ := e
    unfold CompletionM.val at *
    dsimp only at *
    go_enter Try.func46, Try.ntmps46
    go_wp2_with (first
      | (go_at_call 44; refine (HV.out _).mono ?_; rintro e w1 ⟨rfl, hb1⟩)
      | (go_at_call 49; refine (HI.out _).mono ?_; rintro e w' ⟨rfl, rfl⟩))
    go_ret
    exact ⟨rfl, below_comp (below_new _) hb1⟩
  have HI := Lib.hid fun W => impl_in_yes ph 0 1 W hp
  obtain ⟨R, HR⟩ : ∃ R, Hid (R = e.bytes ph) := ⟨_, Lib.hid rfl⟩
  rw [show e.enc ph = R from (if_pos ⟨h, hp⟩).trans HR.out.symm]
  clear h hp
  obtain ⟨co, le, si, cn, ha⟩ := e
  unfold CompletionM.val CompletionM.bytes at *
  dsimp only at *
  have z1 := w16V_size co
  have z2 := w16V_size le
  have z3 := w16V_size si
  have z4 := w16V_size cn
  have z5 := w32V_size ha
  have z6 := w32V_size ph
  go_enter Try.func46, Try.ntmps46
  go_wp2_with (first
    | (go_at_call 44; refine (HV.out _).mono ?_; rintro e w1 ⟨rfl, hb1⟩)
    | (go_at_call 49; refine (HI.out _).mono ?_; rintro e w' ⟨rfl, rfl⟩))
  have hg1 : w.heap.size < w1.heap.size := by have := hb1.size; simp at this; omega
  have HB1 := Lib.hid ((Box.new w #[.int .i64 co, .int .i64 le, .int .i64 si, .int .i64 cn, .int .i64 ha] 54).below hb1 (by simp))
  have hb01 := below_comp (below_new _) hb1
  clear hb1
  refine wp_region_values (by kernel_rfl) (fun W => Below w1.heap.size w1 W) (Vals [.pointer (some ⟨w.heap.size, 0, none⟩), .int .i64 co, .string (word16V co), .pointer (some ⟨w.heap.size, 1, none⟩), .int .i64 le, .string (word16V le), .string ((word16V co) ++ (word16V le)), .pointer (some ⟨w.heap.size, 2, none⟩), .int .i64 si, .string (word16V si), .string (((word16V co) ++ (word16V le)) ++ (word16V si)), .pointer (some ⟨w.heap.size, 3, none⟩), .int .i64 cn, .string (word16V cn), .string ((((word16V co) ++ (word16V le)) ++ (word16V si)) ++ (word16V cn)), .pointer (some ⟨w.heap.size, 4, none⟩), .int .i64 ha, .string (word32V ha), .string (((((word16V co) ++ (word16V le)) ++ (word16V si)) ++ (word16V cn)) ++ (word32V ha)), .int .i64 ph, .string (word32V ph), .string ((((((word16V co) ++ (word16V le)) ++ (word16V si)) ++ (word16V cn)) ++ (word32V ha)) ++ (word32V ph)), .string ((((((word16V co) ++ (word16V le)) ++ (word16V si)) ++ (word16V cn)) ++ (word32V ha)) ++ (word32V ph))] [])
    35 rfl (by kernel_rfl) (by kernel_rfl) below_drew (eachOp_all ?_) ?_
  · refine ⟨?_, ?_, ?_, ?_, ?_, ?_, ?_, ?_, ?_, ?_, ?_, ?_, ?_, ?_, ?_, ?_, ?_, ?_, ?_, ?_, ?_, ?_, ?_, trivial⟩
    · intro a W hd hS hdep hfree
      have x2 : a.tmps.getD 2 undef = .pointer (some ⟨w.heap.size, 0, none⟩) := hfree 2 rfl
      clear hd hdep hfree
      simp only [Oper.wp, execOp]
      go_simp
      refine Nxt.mk _ rfl (fun _ _ => ?_) hS (fun _ _ h => h)
      rfl
    · intro a W hd hS hdep hfree
      have x13 : a.tmps.getD 13 undef = .pointer (some ⟨w.heap.size, 0, none⟩) := hdep 0 13 rfl rfl
      clear hd hdep hfree
      have c : W.cell? ⟨w.heap.size, 0, none⟩ = some (.int .i64 co) := (HB1.out.below hS hg1).cell 0 (by simp)
      simp only [Oper.wp, execOp]
      go_simp
      refine Nxt.mk _ rfl (fun _ _ => ?_) hS (fun _ _ h => h)
      rfl
    · intro a W hd hS hdep hfree
      have x14 : a.tmps.getD 14 undef = .int .i64 co := hdep 1 14 rfl rfl
      clear hd hdep hfree
      simp only [Oper.wp, execOp]
      go_simp
      refine (impl_word16 co W).mono ?_
      rintro e W' ⟨rfl, hb⟩
      exact Nxt.mk _ rfl (fun _ _ => rfl) (below_comp hS hb) (fun j u h => Vals.below hb j u h)
    · intro a W hd hS hdep hfree
      have x2 : a.tmps.getD 2 undef = .pointer (some ⟨w.heap.size, 0, none⟩) := hfree 2 rfl
      clear hd hdep hfree
      simp only [Oper.wp, execOp]
      go_simp
      refine Nxt.mk _ rfl (fun _ _ => ?_) hS (fun _ _ h => h)
      rfl
    · intro a W hd hS hdep hfree
      have x16 : a.tmps.getD 16 undef = .pointer (some ⟨w.heap.size, 1, none⟩) := hdep 3 16 rfl rfl
      clear hd hdep hfree
      have c : W.cell? ⟨w.heap.size, 1, none⟩ = some (.int .i64 le) := (HB1.out.below hS hg1).cell 1 (by simp)
      simp only [Oper.wp, execOp]
      go_simp
      refine Nxt.mk _ rfl (fun _ _ => ?_) hS (fun _ _ h => h)
      rfl
    · intro a W hd hS hdep hfree
      have x17 : a.tmps.getD 17 undef = .int .i64 le := hdep 4 17 rfl rfl
      clear hd hdep hfree
      simp only [Oper.wp, execOp]
      go_simp
      refine (impl_word16 le W).mono ?_
      rintro e W' ⟨rfl, hb⟩
      exact Nxt.mk _ rfl (fun _ _ => rfl) (below_comp hS hb) (fun j u h => Vals.below hb j u h)
    · intro a W hd hS hdep hfree
      have x15 : a.tmps.getD 15 undef = .string (word16V co) := hdep 2 15 rfl rfl
      have x18 : a.tmps.getD 18 undef = .string (word16V le) := hdep 5 18 rfl rfl
      clear hd hdep hfree
      have k : ¬ 9223372036854775807 < (word16V co).size + (word16V le).size := by (try simp only [ByteArray.size_append]); omega
      have k2 := k
      try simp only [ByteArray.size_append] at k2
      simp only [Oper.wp, execOp]
      go_simp
      refine Nxt.mk _ rfl (fun _ _ => ?_) hS (fun _ _ h => h)
      rfl
    · intro a W hd hS hdep hfree
      have x2 : a.tmps.getD 2 undef = .pointer (some ⟨w.heap.size, 0, none⟩) := hfree 2 rfl
      clear hd hdep hfree
      simp only [Oper.wp, execOp]
      go_simp
      refine Nxt.mk _ rfl (fun _ _ => ?_) hS (fun _ _ h => h)
      rfl
    · intro a W hd hS hdep hfree
      have x20 : a.tmps.getD 20 undef = .pointer (some ⟨w.heap.size, 2, none⟩) := hdep 7 20 rfl rfl
      clear hd hdep hfree
      have c : W.cell? ⟨w.heap.size, 2, none⟩ = some (.int .i64 si) := (HB1.out.below hS hg1).cell 2 (by simp)
      simp only [Oper.wp, execOp]
      go_simp
      refine Nxt.mk _ rfl (fun _ _ => ?_) hS (fun _ _ h => h)
      rfl
    · intro a W hd hS hdep hfree
      have x21 : a.tmps.getD 21 undef = .int .i64 si := hdep 8 21 rfl rfl
      clear hd hdep hfree
      simp only [Oper.wp, execOp]
      go_simp
      refine (impl_word16 si W).mono ?_
      rintro e W' ⟨rfl, hb⟩
      exact Nxt.mk _ rfl (fun _ _ => rfl) (below_comp hS hb) (fun j u h => Vals.below hb j u h)
    · intro a W hd hS hdep hfree
      have x19 : a.tmps.getD 19 undef = .string ((word16V co) ++ (word16V le)) := hdep 6 19 rfl rfl
      have x22 : a.tmps.getD 22 undef = .string (word16V si) := hdep 9 22 rfl rfl
      clear hd hdep hfree
      have k : ¬ 9223372036854775807 < ((word16V co) ++ (word16V le)).size + (word16V si).size := by (try simp only [ByteArray.size_append]); omega
      have k2 := k
      try simp only [ByteArray.size_append] at k2
      simp only [Oper.wp, execOp]
      go_simp
      refine Nxt.mk _ rfl (fun _ _ => ?_) hS (fun _ _ h => h)
      rfl
    · intro a W hd hS hdep hfree
      have x2 : a.tmps.getD 2 undef = .pointer (some ⟨w.heap.size, 0, none⟩) := hfree 2 rfl
      clear hd hdep hfree
      simp only [Oper.wp, execOp]
      go_simp
      refine Nxt.mk _ rfl (fun _ _ => ?_) hS (fun _ _ h => h)
      rfl
    · intro a W hd hS hdep hfree
      have x24 : a.tmps.getD 24 undef = .pointer (some ⟨w.heap.size, 3, none⟩) := hdep 11 24 rfl rfl
      clear hd hdep hfree
      have c : W.cell? ⟨w.heap.size, 3, none⟩ = some (.int .i64 cn) := (HB1.out.below hS hg1).cell 3 (by simp)
      simp only [Oper.wp, execOp]
      go_simp
      refine Nxt.mk _ rfl (fun _ _ => ?_) hS (fun _ _ h => h)
      rfl
    · intro a W hd hS hdep hfree
      have x25 : a.tmps.getD 25 undef = .int .i64 cn := hdep 12 25 rfl rfl
      clear hd hdep hfree
      simp only [Oper.wp, execOp]
      go_simp
      refine (impl_word16 cn W).mono ?_
      rintro e W' ⟨rfl, hb⟩
      exact Nxt.mk _ rfl (fun _ _ => rfl) (below_comp hS hb) (fun j u h => Vals.below hb j u h)
    · intro a W hd hS hdep hfree
      have x23 : a.tmps.getD 23 undef = .string (((word16V co) ++ (word16V le)) ++ (word16V si)) := hdep 10 23 rfl rfl
      have x26 : a.tmps.getD 26 undef = .string (word16V cn) := hdep 13 26 rfl rfl
      clear hd hdep hfree
      have k : ¬ 9223372036854775807 < (((word16V co) ++ (word16V le)) ++ (word16V si)).size + (word16V cn).size := by (try simp only [ByteArray.size_append]); omega
      have k2 := k
      try simp only [ByteArray.size_append] at k2
      simp only [Oper.wp, execOp]
      go_simp
      refine Nxt.mk _ rfl (fun _ _ => ?_) hS (fun _ _ h => h)
      rfl
    · intro a W hd hS hdep hfree
      have x2 : a.tmps.getD 2 undef = .pointer (some ⟨w.heap.size, 0, none⟩) := hfree 2 rfl
      clear hd hdep hfree
      simp only [Oper.wp, execOp]
      go_simp
      refine Nxt.mk _ rfl (fun _ _ => ?_) hS (fun _ _ h => h)
      rfl
    · intro a W hd hS hdep hfree
      have x28 : a.tmps.getD 28 undef = .pointer (some ⟨w.heap.size, 4, none⟩) := hdep 15 28 rfl rfl
      clear hd hdep hfree
      have c : W.cell? ⟨w.heap.size, 4, none⟩ = some (.int .i64 ha) := (HB1.out.below hS hg1).cell 4 (by simp)
      simp only [Oper.wp, execOp]
      go_simp
      refine Nxt.mk _ rfl (fun _ _ => ?_) hS (fun _ _ h => h)
      rfl
    · intro a W hd hS hdep hfree
      have x29 : a.tmps.getD 29 undef = .int .i64 ha := hdep 16 29 rfl rfl
      clear hd hdep hfree
      simp only [Oper.wp, execOp]
      go_simp
      refine (impl_word32 ha W).mono ?_
      rintro e W' ⟨rfl, hb⟩
      exact Nxt.mk _ rfl (fun _ _ => rfl) (below_comp hS hb) (fun j u h => Vals.below hb j u h)
    · intro a W hd hS hdep hfree
      have x27 : a.tmps.getD 27 undef = .string ((((word16V co) ++ (word16V le)) ++ (word16V si)) ++ (word16V cn)) := hdep 14 27 rfl rfl
      have x30 : a.tmps.getD 30 undef = .string (word32V ha) := hdep 17 30 rfl rfl
      clear hd hdep hfree
      have k : ¬ 9223372036854775807 < ((((word16V co) ++ (word16V le)) ++ (word16V si)) ++ (word16V cn)).size + (word32V ha).size := by (try simp only [ByteArray.size_append]); omega
      have k2 := k
      try simp only [ByteArray.size_append] at k2
      simp only [Oper.wp, execOp]
      go_simp
      refine Nxt.mk _ rfl (fun _ _ => ?_) hS (fun _ _ h => h)
      rfl
    · intro a W hd hS hdep hfree
      have x1 : a.tmps.getD 1 undef = .int .i64 ph := hfree 1 rfl
      clear hd hdep hfree
      simp only [Oper.wp, execOp]
      go_simp
      refine Nxt.mk _ rfl (fun _ _ => ?_) hS (fun _ _ h => h)
      rfl
    · intro a W hd hS hdep hfree
      have x32 : a.tmps.getD 32 undef = .int .i64 ph := hdep 19 32 rfl rfl
      clear hd hdep hfree
      simp only [Oper.wp, execOp]
      go_simp
      refine (impl_word32 ph W).mono ?_
      rintro e W' ⟨rfl, hb⟩
      exact Nxt.mk _ rfl (fun _ _ => rfl) (below_comp hS hb) (fun j u h => Vals.below hb j u h)
    · intro a W hd hS hdep hfree
      have x31 : a.tmps.getD 31 undef = .string (((((word16V co) ++ (word16V le)) ++ (word16V si)) ++ (word16V cn)) ++ (word32V ha)) := hdep 18 31 rfl rfl
      have x33 : a.tmps.getD 33 undef = .string (word32V ph) := hdep 20 33 rfl rfl
      clear hd hdep hfree
      have k : ¬ 9223372036854775807 < (((((word16V co) ++ (word16V le)) ++ (word16V si)) ++ (word16V cn)) ++ (word32V ha)).size + (word32V ph).size := by (try simp only [ByteArray.size_append]); omega
      have k2 := k
      try simp only [ByteArray.size_append] at k2
      simp only [Oper.wp, execOp]
      go_simp
      refine Nxt.mk _ rfl (fun _ _ => ?_) hS (fun _ _ h => h)
      rfl
    · intro a W hd hS hdep hfree
      have x34 : a.tmps.getD 34 undef = .string ((((((word16V co) ++ (word16V le)) ++ (word16V si)) ++ (word16V cn)) ++ (word32V ha)) ++ (word32V ph)) := hdep 21 34 rfl rfl
      clear hd hdep hfree
      simp only [Oper.wp, execOp]
      go_simp
      refine Nxt.mk _ rfl (fun _ _ => ?_) hS (fun _ _ h => h)
      rfl
  intro a W2 hs hd hS2 hdone hrest
  have ea := written_all [.pointer (some ⟨w.heap.size, 0, none⟩), .int .i64 co, .string (word16V co), .pointer (some ⟨w.heap.size, 1, none⟩), .int .i64 le, .string (word16V le), .string ((word16V co) ++ (word16V le)), .pointer (some ⟨w.heap.size, 2, none⟩), .int .i64 si, .string (word16V si), .string (((word16V co) ++ (word16V le)) ++ (word16V si)), .pointer (some ⟨w.heap.size, 3, none⟩), .int .i64 cn, .string (word16V cn), .string ((((word16V co) ++ (word16V le)) ++ (word16V si)) ++ (word16V cn)), .pointer (some ⟨w.heap.size, 4, none⟩), .int .i64 ha, .string (word32V ha), .string (((((word16V co) ++ (word16V le)) ++ (word16V si)) ++ (word16V cn)) ++ (word32V ha)), .int .i64 ph, .string (word32V ph), .string ((((((word16V co) ++ (word16V le)) ++ (word16V si)) ++ (word16V cn)) ++ (word32V ha)) ++ (word32V ph)), .string ((((((word16V co) ++ (word16V le)) ++ (word16V si)) ++ (word16V cn)) ++ (word32V ha)) ++ (word32V ph))] rfl hs hd hrest hdone
  clear hs hd hdone hrest
  subst ea
  simp only [written, List.map_cons, List.map_nil, List.zip_cons_cons, List.zip_nil_right, putAll]
  simp only [Exit.then, Act.put, List.setIfInBounds_toArray, List.set_cons_zero, List.set_cons_succ]
  rw [show ((((((word16V co) ++ (word16V le)) ++ (word16V si)) ++ (word16V cn)) ++ (word32V ha)) ++ (word32V ph)) = R from HR.out.symm]
  go_wp2
  go_ret
  exact ⟨rfl, below_comp hb01 hS2⟩

end Go.Proofs.Ytncpnoloamebnaa
