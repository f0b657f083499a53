/- MemoryOk of both sides. -/
import Derived.Test.YtogiocinhjbdkaaRowFun
import Derived.Test.YtogiocinhjbdkaaRepMemory
import Derived.Test.YtogiocinhjbdkaaBoxes
import Derived.Test.YtogiocinhjbdkaaEthMath
namespace Go.Proofs.Ytogiocinhjbdkaa
open Go.RowKit
set_option linter.unusedSimpArgs false
set_option linter.unusedVariables false

def badPage (s : ByteArray) : Bool := !(s.size == 128)
def memOkB (l : List ByteArray) : Bool := decide (l.length ≤ 64) && !(l.any badPage)
theorem badPage_no {s : ByteArray} (h : badPage s = false) : s.size = 128 := by unfold badPage at h; simpa using h
theorem badPage_yes {s : ByteArray} (h : ¬ badPage s = false) : ¬ s.size = 128 := fun e => h (by unfold badPage; simp [e])
theorem memOk_pages {l : List ByteArray} (h : memOkB l = true) : l.length ≤ 64 ∧ ∀ s ∈ l, s.size = 128 := by
  unfold memOkB at h
  simp only [Bool.and_eq_true, decide_eq_true_eq, Bool.not_eq_true', List.any_eq_false] at h
  exact ⟨h.1, fun s hs => badPage_no (Bool.eq_false_iff.2 (h.2 s hs))⟩

set_option maxHeartbeats 4000000 in
set_option maxRecDepth 100000 in
theorem spec_memok (e : MemoryM) (S : Nat → Prop) (v : Value) (w : World) (hn : e.xPages.length ≤ 2097152) (R : MemoryM.Rep w S e v) :
    Calls Try.prog 78 #[v] w fun r w' => r = .returned (.bool (memOkB e.xPages)) ∧ Below w.heap.size w w' := by
  obtain ⟨l⟩ := e
  obtain ⟨S3, v3, rfl, R3, hS3⟩ := R
  dsimp only at *
  obtain ⟨a, g, c, rfl, hV, _⟩ := R3.open
  rw [List.length_map]
  have HV := Lib.hid hV
  clear R3 hV hS3
  obtain ⟨n, hl⟩ : ∃ n, n = l.length := ⟨_, rfl⟩
  rw [← hl] at hn ⊢
  have HL := Lib.hid hl
  clear hl
  go_enter Try.func78, Try.ntmps78
  go_wp2
  go_loop [3] (fun i => ∃ k : Nat, k ≤ n ∧ i = .int .i64 k ∧ Hid (∀ j, j < k → (h : j < l.length) → badPage l[j] = false)) (fun i => n + 1 - (intOf i).toNat)
  case atStart => exact ⟨0, by omega, rfl, Lib.hid fun j hj => by omega⟩
  case round =>
    obtain ⟨k, hk, rfl, HK⟩ := hrel
    by_cases hlt : k < n
    · have hk' : k < l.length := by have := HL.out; omega
      have hne : l.map strrA ≠ [] := fun e => by simp at e; rw [e] at hk'; simp at hk'
      have hV := HV.out
      obtain ⟨ea, eg⟩ := hV.1 hne
      subst ea
      have d0 : w.cell? ⟨g, k, none⟩ = some (.string l[k]) := by have := hV.2 k (strrA l[k]) (by simp [hk']) 0 (by omega); simpa [strrA] using this
      clear hne hV

      have hgw : g < w.heap.size := eg
      have e1 : (k : Int) < (n : Int) := by omega
      have e0 : (0 : Int) ≤ (k : Int) := by omega
      by_cases hg : badPage l[k] = false
      · have HK2 := Lib.hid (upto_step (q := fun z => badPage z = false) hk' HK.out hg)
        have hs := badPage_no hg
        have hx : (((l[k].size : Nat) : Int) != 128) = false := by simp [hs]
        clear hg
        generalize l[k] = e at d0 hs hx
        have HS := Lib.hid hs
        clear hs
        go_wp2
        go_round
        case rel => exact ⟨k + 1, by omega, by go_num, HK2⟩
        case measure => simp [intOf]; omega
      · have HR : Hid (memOkB l = false) := Lib.hid (by unfold memOkB; rw [any_hit hk' (by simpa using hg)]; simp)
        have hs := badPage_yes hg
        have hx : (((l[k].size : Nat) : Int) != 128) = true := by first | (simp; done) | (simp; omega)
        clear hg
        generalize l[k] = e at d0 hs hx
        have HS := Lib.hid hs
        clear hs
        go_wp2
        go_ret
        exact ⟨ret_bool HR.out.symm, below_new _⟩
    · obtain rfl : k = n := by omega
      have HR : Hid (memOkB l = decide ((k : Int) ≤ 64)) := Lib.hid (by
        have e := HL.out
        unfold memOkB
        rw [any_none (by subst e; exact HK.out), ← e]
        simp only [Bool.not_false, Bool.and_true]
        exact decide_eq_decide.2 ⟨fun h => by omega, fun h => by omega⟩)
      go_wp2
      go_ret
      exact ⟨ret_bool (by first | exact HR.out.symm | (rw [HR.out]; exact decide_eq_decide.2 ⟨fun h => by omega, fun h => by omega⟩)), below_new _⟩

set_option maxHeartbeats 4000000 in
set_option maxRecDepth 100000 in
theorem impl_memok1 (e : ByteArray) (w : World) :
    Calls Try.prog 137 #[.string e] w fun r w' => r = .returned (.bool (badPage e)) ∧ Below w.heap.size w w' := by
  have HQ : Hid (((e.size : Int) != 128) = badPage e) := Lib.hid (by unfold badPage; rw [Bool.eq_iff_iff]; simp; omega)
  go_enter Try.func137, Try.ntmps137
  go_wp2
  go_ret
  exact ⟨ret_bool HQ.out, Below.refl _ _⟩

set_option maxHeartbeats 4000000 in
set_option maxRecDepth 100000 in
theorem idx_page (a : Option Addr) (g c : Nat) (l : List ByteArray) (p : ByteArray → Bool) (w : World) (hn : l.length ≤ 2097152) (hV : View w a g 1 (l.map strrA))
    (hp : ∀ (e : ByteArray) (W : World), e ∈ l → Below w.heap.size w W → Calls Try.prog 137 #[.string e] W fun r w' => r = .returned (.bool (p e)) ∧ Below W.heap.size W w') :
    Calls Try.prog 163 #[.slice a l.length c, .func (.func 137) #[] #[]] w fun e w' => e = .returned (.int .i64 (idxP p l 0)) ∧ Below w.heap.size w w' := by
  obtain ⟨n, hl⟩ : ∃ n, n = l.length := ⟨_, rfl⟩
  rw [← hl] at hn ⊢
  have HL := Lib.hid hl
  have HV := Lib.hid hV
  have HP := Lib.hid hp
  clear hV hl hp
  go_enter Try.func163, Try.ntmps163
  go_wp2
  go_loopw [8] (fun i wr => ∃ k : Nat, k ≤ n ∧ i = .int .i64 k ∧ Hid (Below w.heap.size w wr) ∧ Hid (∀ j, j < k → (h : j < l.length) → p l[j] = false)) (fun i _ => n + 1 - (intOf i).toNat)
  case atStart => exact ⟨0, by omega, rfl, Lib.hid (Below.refl _ _), Lib.hid fun j hj => by omega⟩
  case round =>
    obtain ⟨k, hk, rfl, HB, HK⟩ := hrel
    by_cases hlt : k < n
    · have hk' : k < l.length := by have := HL.out; omega
      have hne : l.map strrA ≠ [] := fun e => by simp at e; rw [e] at hk'; simp at hk'
      have hV := HV.out.later HB.out
      obtain ⟨ea, eg⟩ := hV.1 hne
      subst ea
      have d0 : wr.cell? ⟨g, k, none⟩ = some (.string l[k]) := by have := hV.2 k (strrA l[k]) (by simp [hk']) 0 (by omega); simpa [strrA] using this
      clear hne hV
      have HE := Lib.hid (HP.out l[k] wr (List.getElem_mem _) HB.out)
      have e1 : (k : Int) < (n : Int) := by omega
      have e0 : (0 : Int) ≤ (k : Int) := by omega
      by_cases hg : p l[k] = true
      · have HR := Lib.hid (idxP_hit p l k hk' HK.out hg)
        rw [hg] at HE
        clear hg
        generalize l[k] = e at HE d0
        go_wp2_with (go_at_call 137; refine HE.out.mono ?_; rintro r w1 ⟨rfl, hb1⟩)
        go_ret
        exact ⟨ret_int HR.out.symm, below_comp HB.out hb1⟩
      · have HK2 := Lib.hid (upto_step (q := fun z => p z = false) hk' HK.out (Bool.eq_false_iff.2 hg))
        rw [Bool.eq_false_iff.2 hg] at HE
        clear hg
        generalize l[k] = e at HE d0
        go_wp2_with (go_at_call 137; refine HE.out.mono ?_; rintro r w1 ⟨rfl, hb1⟩)
        go_roundw
        case rel => exact ⟨k + 1, by omega, by go_num, Lib.hid (below_comp HB.out hb1), HK2⟩
        case measure => simp [intOf]; omega
    · obtain rfl : k = n := by omega
      have HR := Lib.hid (idxP_none p l (by have := HL.out; subst this; exact HK.out))
      go_wp2
      go_ret
      exact ⟨ret_int HR.out.symm, HB.out⟩
set_option maxHeartbeats 4000000 in
set_option maxRecDepth 100000 in
theorem has_page (a : Option Addr) (g c : Nat) (l : List ByteArray) (p : ByteArray → Bool) (w : World) (hn : l.length ≤ 2097152) (hV : View w a g 1 (l.map strrA))
    (hp : ∀ (e : ByteArray) (W : World), e ∈ l → Below w.heap.size w W → Calls Try.prog 137 #[.string e] W fun r w' => r = .returned (.bool (p e)) ∧ Below W.heap.size W w') :
    Calls Try.prog 136 #[.slice a l.length c, .func (.func 137) #[] #[]] w fun e w' => e = .returned (.bool (l.any p)) ∧ Below w.heap.size w w' := by
  have HX := Lib.hid (idx_page a g c l p w hn hV hp)
  have HA := Lib.hid (idxP_any p l 0)
  generalize idxP p l 0 = i at HX HA
  clear hp hV
  go_enter Try.func136, Try.ntmps136
  go_wp2_with (go_at_call 163; refine HX.out.mono ?_; rintro r w1 ⟨rfl, hb1⟩)
  go_ret
  exact ⟨ret_bool HA.out, hb1⟩

set_option maxHeartbeats 4000000 in
set_option maxRecDepth 100000 in
theorem impl_memok (e : MemoryM) (S : Nat → Prop) (v : Value) (w : World) (hn : e.xPages.length ≤ 2097152) (R : MemoryM.Rep w S e v) :
    Calls Try.prog 80 #[v] w fun r w' => r = .returned (.bool (memOkB e.xPages)) ∧ Below w.heap.size w w' := by
  obtain ⟨l⟩ := e
  obtain ⟨S3, v3, rfl, R3, hS3⟩ := R
  dsimp only at *
  obtain ⟨a, g, c, rfl, hV, _⟩ := R3.open
  rw [List.length_map]
  have HV := Lib.hid hV
  clear R3 hV hS3
  have HX := Lib.hid fun W (h : Below w.heap.size w W) => has_page a g c l badPage W hn (HV.out.later h) (fun e W2 _ _ => impl_memok1 e W2)
  unfold memOkB
  have HQ : Hid (decide ((l.length : Int) ≤ 64) = decide (l.length ≤ 64)) := Lib.hid (decide_eq_decide.2 ⟨fun h => by omega, fun h => by omega⟩)
  rw [← HQ.out]
  clear HQ
  generalize l.any badPage = B at HX ⊢
  generalize l.length = n at *
  go_enter Try.func80, Try.ntmps80
  go_wp2_with (go_at_call 136; refine (HX.out _ (by repeat (first | with_reducible exact Below.refl _ _ | with_reducible exact below_new _ | with_reducible exact below_drew | with_reducible exact HB9.out | with_reducible exact HB8.out | with_reducible exact HB7.out | with_reducible exact HB6.out | with_reducible exact HB5.out | with_reducible exact HB4.out | with_reducible exact HB3.out | with_reducible exact HB2.out | with_reducible exact HB1.out | ((with_reducible refine Below.setCell ?_ ?_ _); rotate_left; first | omega | (dsimp only; omega) | (simp; done) | (simp; omega)) | ((with_reducible refine below_setRow ?_ ?_ _); rotate_left; first | omega | (dsimp only; omega) | (simp; done) | (simp; omega)) | (with_reducible apply below_comp; rotate_left; first | with_reducible exact HB9.out | with_reducible exact HB8.out | with_reducible exact HB7.out | with_reducible exact HB6.out | with_reducible exact HB5.out | with_reducible exact HB4.out | with_reducible exact HB3.out | with_reducible exact HB2.out | with_reducible exact HB1.out | with_reducible assumption | with_reducible exact below_new _ | with_reducible exact below_drew)))).mono ?_; rintro r w1 ⟨rfl, hb1⟩)
  all_goals
    go_ret
    exact ⟨ret_bool (by first | (rw [decide_eq_true (by omega)]; rfl) | (rw [decide_eq_false (by omega)]; rfl)), by repeat (first | with_reducible exact Below.refl _ _ | with_reducible exact below_new _ | with_reducible exact below_drew | with_reducible exact HB9.out | with_reducible exact HB8.out | with_reducible exact HB7.out | with_reducible exact HB6.out | with_reducible exact HB5.out | with_reducible exact HB4.out | with_reducible exact HB3.out | with_reducible exact HB2.out | with_reducible exact HB1.out | ((with_reducible refine Below.setCell ?_ ?_ _); rotate_left; first | omega | (dsimp only; omega) | (simp; done) | (simp; omega)) | ((with_reducible refine below_setRow ?_ ?_ _); rotate_left; first | omega | (dsimp only; omega) | (simp; done) | (simp; omega)) | (with_reducible apply below_comp; rotate_left; first | with_reducible exact HB9.out | with_reducible exact HB8.out | with_reducible exact HB7.out | with_reducible exact HB6.out | with_reducible exact HB5.out | with_reducible exact HB4.out | with_reducible exact HB3.out | with_reducible exact HB2.out | with_reducible exact HB1.out | with_reducible assumption | with_reducible exact below_new _ | with_reducible exact below_drew))⟩

end Go.Proofs.Ytogiocinhjbdkaa
