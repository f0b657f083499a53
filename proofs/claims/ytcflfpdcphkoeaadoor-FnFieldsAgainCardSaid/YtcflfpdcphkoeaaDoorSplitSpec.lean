/- The contract of SplitFields in the model. -/
import Derived.Test.YtcflfpdcphkoeaaDoorSplitCommon
namespace Go.Proofs.YtcflfpdcphkoeaaDoor
open Go.RowKit

set_option maxHeartbeats 2000000 in
set_option maxRecDepth 100000 in
theorem spec_split (s : ByteArray) (w : World) (hs : s.size ≤ 1048576) :
    Calls Tryd.prog 17 #[.string s] w (SplitPost s w) := by
  by_cases hl : 600 < s.size
  · have hl' : (600 : Int) < s.size := by omega
    go_enter Tryd.func17, Tryd.ntmps17
    go_wp2
    go_ret2
    exact split_no (split_long s hl) (own_empty w _ (Nat.le_refl _)) ((Below.refl _ _).alloc (Nat.le_refl _) _)
  have hl' : ¬ (600 : Int) < s.size := by omega
  have hs6 : s.size ≤ 600 := by omega
  go_enter Tryd.func17, Tryd.ntmps17
  go_wp2
  go_loopw [4, 5, 6] (fun v b i wr => ∃ k : Nat, k ≤ s.size + 1 ∧ i = .int .i64 k ∧ ∃ fs : List ByteArray, ∃ bg : Nat, bg ≤ k ∧ fs.length ≤ k ∧ b = .int .i64 bg ∧ Hid (SplitRel s k fs bg) ∧ Hid (Own wr w.heap.size v fs) ∧ Below w.heap.size w wr)
    (fun _ _ i _ => s.size + 2 - (intOf i).toNat)
  case atStart => exact ⟨0, Nat.zero_le _, rfl, [], 0, Nat.le_refl _, Nat.le_refl _, rfl, Lib.hid (splitRel_start s), Lib.hid (own_empty w _ (Nat.le_refl _)), (Below.refl _ _).alloc (Nat.le_refl _) _⟩
  case round =>
    obtain ⟨k, hk, rfl, fs, bg, hbg, hfs, rfl, HR, HO, hb⟩ := hrel
    by_cases hle : k ≤ s.size
    · by_cases hlt : k < s.size
      · by_cases c1 : (s[k].toNat : Int) < 32
        · have HB := Lib.hid (split_bad s k hlt (by omega))
          go_wp2
          go_ret2
          exact split_no HB.out (own_empty wr _ hb.size) (hb.alloc hb.size _)
        · by_cases c2 : 126 < (s[k].toNat : Int)
          · have HB := Lib.hid (split_bad s k hlt (by omega))
            go_wp2
            go_ret2
            exact split_no HB.out (own_empty wr _ hb.size) (hb.alloc hb.size _)
          · have c1' : 32 ≤ (s[k].toNat : Int) := by omega
            have c2' : (s[k].toNat : Int) ≤ 126 := by omega
            by_cases c3 : (s[k].toNat : Int) = 32
            · have HN := Lib.hid (splitRel_space s k fs bg hlt HR.out (by omega))
              have c3' : ((s[k].toNat : Int) == 32) = true := by simp [c3]
              by_cases hbk : bg < k
              · rw [pushF, if_pos hbk] at HN
                have hown := HO.out
                have m1 : fs.length + 1 ≤ maxLen := by unfold maxLen; omega
                have m2 : (fs.length + 1) * 16 ≤ 140737488355328 := by omega
                have hz : w.heap.size ≤ wr.heap.size + 1 := by have := hb.size; omega
                unfold Own at hown
                clear c3
                go_wp2_with (at_builtin; with_reducible refine wpList_push rfl (.tmp 48) (.tmp 53) 31 rfl w.heap.size elemS rfl (hown.alloc _) _ 1 1 [.string (s.extract bg k)] rfl (heap_alloc_new _ _) rfl (by simp [Value.oneCell']) (by decide) m1 m2 (by simpa using hz) ?_; intro g cap w1 hown1 hgrow1)
                go_roundw
                case rel => exact ⟨k + 1, by omega, by go_num, _, k + 1, Nat.le_refl _, by simp only [List.length_append, List.length_cons, List.length_nil]; omega, by go_num, HN, Lib.hid (own_push hown1), below_push hb hb.size hown _ hgrow1⟩
                case measure => simp [intOf] <;> omega
              · rw [pushF, if_neg hbk] at HN
                clear c3
                go_wp2
                go_roundw
                case rel => exact ⟨k + 1, by omega, by go_num, fs, k + 1, Nat.le_refl _, by omega, by go_num, HN, HO, hb⟩
                case measure => simp [intOf] <;> omega
            · have HN := Lib.hid (splitRel_other s k fs bg hlt HR.out ⟨by omega, by omega⟩ (by omega))
              have c3' : ((s[k].toNat : Int) == 32) = false := by simpa using c3
              clear c3
              go_wp2
              go_roundw
              case rel => exact ⟨k + 1, by omega, by go_num, fs, bg, by omega, by omega, rfl, HN, HO, hb⟩
              case measure => simp [intOf] <;> omega
      · obtain rfl : k = s.size := by omega
        have HN := Lib.hid (splitRel_end s fs bg HR.out (s.size + 1))
        by_cases hbk : bg < s.size
        · rw [pushF, if_pos hbk] at HN
          have hown := HO.out
          have m1 : fs.length + 1 ≤ maxLen := by unfold maxLen; omega
          have m2 : (fs.length + 1) * 16 ≤ 140737488355328 := by omega
          have hz : w.heap.size ≤ wr.heap.size + 1 := by have := hb.size; omega
          unfold Own at hown
          go_wp2_with (at_builtin; with_reducible refine wpList_push rfl (.tmp 48) (.tmp 53) 31 rfl w.heap.size elemS rfl (hown.alloc _) _ 1 1 [.string (s.extract bg s.size)] rfl (heap_alloc_new _ _) rfl (by simp [Value.oneCell']) (by decide) m1 m2 (by simpa using hz) ?_; intro g cap w1 hown1 hgrow1)
          go_roundw
          case rel => exact ⟨s.size + 1, by omega, by go_num, _, s.size + 1, Nat.le_refl _, by simp only [List.length_append, List.length_cons, List.length_nil]; omega, by go_num, HN, Lib.hid (own_push hown1), below_push hb hb.size hown _ hgrow1⟩
          case measure => simp [intOf] <;> omega
        · rw [pushF, if_neg hbk] at HN
          go_wp2
          go_roundw
          case rel => exact ⟨s.size + 1, by omega, by go_num, fs, s.size + 1, Nat.le_refl _, by omega, by go_num, HN, HO, hb⟩
          case measure => simp [intOf] <;> omega
    · obtain rfl : k = s.size + 1 := by omega
      obtain ⟨hg, hall⟩ := HR.out.2 (by omega)
      obtain ⟨A, c, rfl, _⟩ := HO.out.form
      by_cases hm : 24 < fs.length
      · have HB := Lib.hid (split_many s (by rw [← hall]; exact hm))
        clear hg hall
        go_wp2
        go_ret2
        exact split_no HB.out (own_empty wr _ hb.size) (hb.alloc hb.size _)
      · have HB := Lib.hid (split_ok s hs6 hg (by rw [← hall]; omega))
        have HA := Lib.hid hall
        clear hg hall
        go_wp2
        go_ret2
        refine ⟨.slice A fs.length c, ?_, ?_, hb⟩
        · rw [HB.out.1]; rfl
        · rw [HB.out.2, ← HA.out]; exact HO.out

end Go.Proofs.YtcflfpdcphkoeaaDoor
