/- The contract of SplitFields in the program. -/
import Derived.Test.YtcflfpdcphkoeaaDoorSplitCommon
import Derived.WalkMore
namespace Go.Proofs.YtcflfpdcphkoeaaDoor
open Go.RowKit

theorem append_none (v : Value) (w : World) :
    Calls Tryd.prog 31 #[v, .string ByteArray.empty] w fun e w' => e = .returned v ∧ w = w' := by
  go_enter Tryd.func31, Tryd.ntmps31
  go_wp2
  go_ret
  exact ⟨rfl, rfl⟩

theorem append_some (v : Value) (t : ByteArray) (fs : List ByteArray) (B : Nat) (w : World) (ho : Own w B v fs) (hB : B ≤ w.heap.size) (hl : fs.length ≤ 1000) (ht : 0 < t.size) :
    Calls Tryd.prog 31 #[v, .string t] w fun e w' => ∃ v', e = .returned v' ∧ Own w' B v' (fs ++ [t]) ∧ Below B w w' := by
  have hne := str_ne (a := t) (b := ⟨#[]⟩) (by rintro rfl; exact absurd ht (by decide))
  have hne2 : t.toList.isEmpty = false := by
    rw [ByteArray.toList_eq]
    cases h : t.data.toList with
    | nil => have : t.size = 0 := by rw [← ByteArray.size_data, ← Array.length_toList, h]; rfl
             omega
    | cons a r => rfl
  have hne3 : ¬ t.toList = [] := by intro e; rw [e] at hne2; cases hne2
  have hown := ho
  have m1 : fs.length + 1 ≤ maxLen := by unfold maxLen; omega
  have m2 : (fs.length + 1) * 16 ≤ 140737488355328 := by omega
  unfold Own at hown
  go_enter Tryd.func31, Tryd.ntmps31
  go_wp2_with (at_builtin; with_reducible refine wpList_push rfl (.tmp 8) (.tmp 10) 31 rfl B elemS rfl (hown.alloc _) _ 1 1 [.string t] rfl (heap_alloc_new _ _) rfl (by simp [Value.oneCell']) (by decide) m1 m2 (by simp; omega) ?_; intro g cap w1 hown1 hgrow1)
  go_ret
  exact ⟨_, rfl, own_push hown1, below_push (Below.refl _ _) hB hown _ hgrow1⟩

set_option maxHeartbeats 2000000 in
set_option maxRecDepth 100000 in
theorem impl_split (s : ByteArray) (w : World) (hs : s.size ≤ 1048576) :
    Calls Tryd.prog 16 #[.string s] w (SplitPost s w) := by
  by_cases hl : 600 < s.size
  · have hl' : (600 : Int) < s.size := by omega
    go_enter Tryd.func16, Tryd.ntmps16
    go_wp2
    go_step3
    go_wp2
    try rw [Exit.noGoto_ret]
    go_ret2
    exact split_no (split_long s hl) (own_nil w _) (Below.refl _ _)
  have hl' : ¬ (600 : Int) < s.size := by omega
  have hs6 : s.size ≤ 600 := by omega
  go_enter Tryd.func16, Tryd.ntmps16
  go_wp2
  go_step3
  go_wp2
  go_step3
  go_wp2
  go_loopw [4, 5, 6, 7] (fun v i b _ wr => ∃ k : Nat, k ≤ s.size ∧ i = .int .i64 k ∧ ∃ fs : List ByteArray, ∃ bg : Nat, bg ≤ k ∧ fs.length ≤ k ∧ b = .int .i64 bg ∧ Hid (SplitRel s k fs bg) ∧ Hid (Own wr w.heap.size v fs) ∧ Below w.heap.size w wr)
    (fun _ i _ _ _ => s.size - (intOf i).toNat)
  case atStart => exact ⟨0, Nat.zero_le _, rfl, [], 0, Nat.le_refl _, Nat.le_refl _, rfl, Lib.hid (splitRel_start s), Lib.hid (own_nil w _), Below.refl _ _⟩
  case round =>
    obtain ⟨k, hk, rfl, fs, bg, hbg, hfs, rfl, HR, HO, hb⟩ := hrel
    by_cases hlt : k < s.size
    · by_cases c1 : (s[k].toNat : Int) < 32
      · have HB := Lib.hid (split_bad s k hlt (by omega))
        go_wp2
        try rw [Exit.noGoto_ret]
        go_ret2
        exact split_no HB.out (own_nil wr _) hb
      · by_cases c2 : 126 < (s[k].toNat : Int)
        · have HB := Lib.hid (split_bad s k hlt (by omega))
          go_wp2
          try rw [Exit.noGoto_ret]
          go_ret2
          exact split_no HB.out (own_nil wr _) hb
        · have c1' : 32 ≤ (s[k].toNat : Int) := by omega
          have c2' : (s[k].toNat : Int) ≤ 126 := by omega
          by_cases c3 : (s[k].toNat : Int) = 32
          · have HN := Lib.hid (splitRel_space s k fs bg hlt HR.out (by omega))
            have c3' : ((s[k].toNat : Int) == 32) = true := by simp [c3]
            by_cases hbk : bg < k
            · rw [pushF, if_pos hbk] at HN
              clear c3
              go_wp2_with fail
              refine (append_some u4 (s.extract bg k) fs w.heap.size _ HO.out hb.size (by omega) (by simp; omega)).mono ?_
              rintro e w1 ⟨v1, rfl, hO1, hb1⟩
              have HO1 := Lib.hid hO1
              have HB1 := Lib.hid (hb.trans hb1)
              clear hO1 hb1
              go_wp2
              go_roundw
              case rel => exact ⟨k + 1, by omega, by go_num, _, k + 1, Nat.le_refl _, by simp only [List.length_append, List.length_cons, List.length_nil]; omega, by go_num, HN, HO1, HB1.out⟩
              case measure => simp [intOf] <;> omega
            · obtain rfl : bg = k := by omega
              rw [pushF, if_neg hbk] at HN
              clear c3
              go_wp2_with fail
              refine (append_none u4 _).mono ?_
              rintro e w1 ⟨rfl, rfl⟩
              go_wp2
              go_roundw
              case rel => exact ⟨bg + 1, by omega, by go_num, fs, bg + 1, Nat.le_refl _, by omega, by go_num, HN, HO, hb⟩
              case measure => simp [intOf] <;> omega
          · have HN := Lib.hid (splitRel_other s k fs bg hlt HR.out ⟨by omega, by omega⟩ (by omega))
            have c3' : ((s[k].toNat : Int) == 32) = false := by simpa using c3
            clear c3
            go_wp2
            go_roundw
            case rel => exact ⟨k + 1, by omega, by go_num, fs, bg, by omega, by omega, rfl, HN, HO, hb⟩
            case measure => simp [intOf] <;> omega
    · obtain rfl : k = s.size := by omega
      have HN := Lib.hid (splitRel_end s fs bg HR.out (s.size + 1))
      have hk2 := HN.out.2 (by omega)
      by_cases hbk : bg < s.size
      · rw [pushF, if_pos hbk] at hk2
        have HK := Lib.hid hk2
        clear hk2
        go_wp2_with fail
        refine (append_some u4 (s.extract bg s.size) fs w.heap.size _ HO.out hb.size (by omega) (by simp; omega)).mono ?_
        rintro e w1 ⟨v1, rfl, hO1, hb1⟩
        have HB1 := Lib.hid (hb.trans hb1)
        rw [HK.out.2] at hO1
        have HO1 := Lib.hid hO1
        obtain ⟨A, c, rfl, _⟩ := hO1.form
        clear hO1 hb1
        by_cases hm : 24 < (splitAll s).length
        · have HB := Lib.hid (split_many s hm)
          go_wp2
          try rw [Exit.noGoto_ret]
          go_ret2
          exact split_no HB.out (own_nil _ _) HB1.out
        · have HB := Lib.hid (split_ok s hs6 HK.out.1 (by omega))
          go_wp2
          try rw [Exit.noGoto_ret]
          go_ret2
          refine ⟨.slice A (splitAll s).length c, ?_, ?_, HB1.out⟩
          · rw [HB.out.1]; rfl
          · rw [HB.out.2]; exact HO1.out
      · obtain rfl : bg = s.size := by omega
        rw [pushF, if_neg hbk] at hk2
        have HK := Lib.hid hk2
        clear hk2
        go_wp2_with fail
        refine (append_none u4 _).mono ?_
        rintro e w1 ⟨rfl, rfl⟩
        have hO1 := HO.out
        rw [HK.out.2] at hO1
        have HO1 := Lib.hid hO1
        obtain ⟨A, c, rfl, _⟩ := hO1.form
        clear hO1
        by_cases hm : 24 < (splitAll s).length
        · have HB := Lib.hid (split_many s hm)
          go_wp2
          try rw [Exit.noGoto_ret]
          go_ret2
          exact split_no HB.out (own_nil _ _) hb
        · have HB := Lib.hid (split_ok s hs6 HK.out.1 (by omega))
          go_wp2
          try rw [Exit.noGoto_ret]
          go_ret2
          refine ⟨.slice A (splitAll s).length c, ?_, ?_, hb⟩
          · rw [HB.out.1]; rfl
          · rw [HB.out.2]; exact HO1.out

end Go.Proofs.YtcflfpdcphkoeaaDoor
