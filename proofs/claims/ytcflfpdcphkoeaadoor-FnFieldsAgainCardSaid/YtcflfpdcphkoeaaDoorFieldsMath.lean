/- The fields of a line, joined by single spaces, have the same fields. -/
import Derived.Test.YtcflfpdcphkoeaaDoorSplitMath
import Derived.WideShapes
namespace Go.Proofs.YtcflfpdcphkoeaaDoor

def byteAt (s : ByteArray) (j : Nat) : Nat := (s.data.toList.getD j 0).toNat
/-- A field: not empty, no space, bytes of the range. -/
def GoodF (f : ByteArray) : Prop := 0 < f.size ∧ ∀ j, j < f.size → 32 ≤ byteAt f j ∧ byteAt f j ≤ 126 ∧ byteAt f j ≠ 32

theorem ext_list {a b : ByteArray} (h : a.data.toList = b.data.toList) : a = b := WideShapes.bytes_inj h
theorem extract_list (s : ByteArray) (b k : Nat) : (s.extract b k).data.toList = (s.data.toList.drop b).take (k - b) := by
  rw [ByteArray.data_extract, Array.toList_extract, List.extract_eq_take_drop]
theorem size_list (s : ByteArray) : s.data.toList.length = s.size := by simp
theorem byteAt_extract (s : ByteArray) (b k j : Nat) (hj : j < k - b) : byteAt (s.extract b k) j = byteAt s (b + j) := by
  unfold byteAt
  rw [extract_list, List.getD_eq_getElem?_getD, List.getElem?_take, if_pos hj, List.getElem?_drop, ← List.getD_eq_getElem?_getD]
theorem size_extract (s : ByteArray) (b k : Nat) (hk : k ≤ s.size) : (s.extract b k).size = k - b := by
  rw [ByteArray.size_extract]; omega

theorem fields_good (s : ByteArray) (hg : goodTo s s.size) : ∀ k, k ≤ s.size → (∀ f ∈ (fieldsAt s k).1, GoodF f) ∧ ∀ j, (fieldsAt s k).2 ≤ j → j < k → byteAt s j ≠ 32
  | 0, _ => ⟨fun f hf => by simp [fieldsAt] at hf, fun j _ h => by omega⟩
  | k + 1, hk => by
    obtain ⟨h1, h2⟩ := fields_good s hg k (by omega)
    by_cases hc : (s.data.toList.getD k 0).toNat = 32
    · rw [fieldsAt, if_pos hc]
      refine ⟨fun f hf => ?_, fun j h3 h4 => by simp at h3; omega⟩
      simp only [pushF] at hf
      by_cases hb : (fieldsAt s k).2 < k
      · rw [if_pos hb] at hf
        rcases List.mem_append.1 hf with h | h
        · exact h1 f h
        · obtain rfl : f = s.extract (fieldsAt s k).2 k := by simpa using h
          refine ⟨by rw [size_extract s _ _ (by omega)]; omega, fun j hj => ?_⟩
          rw [size_extract s _ _ (by omega)] at hj
          rw [byteAt_extract s _ _ j hj]
          have := hg ((fieldsAt s k).2 + j) (by omega)
          exact ⟨this.1, this.2, h2 _ (by omega) (by omega)⟩
      · rw [if_neg hb] at hf
        exact h1 f hf
    · rw [fieldsAt, if_neg hc]
      refine ⟨h1, fun j h3 h4 => ?_⟩
      by_cases hj : j = k
      · subst hj; exact hc
      · exact h2 j h3 (by omega)
theorem splitAll_good (s : ByteArray) (hg : goodTo s s.size) : ∀ f ∈ splitAll s, GoodF f := by
  obtain ⟨h1, h2⟩ := fields_good s hg s.size (Nat.le_refl _)
  intro f hf
  unfold splitAll pushF at hf
  by_cases hb : (fieldsAt s s.size).2 < s.size
  · rw [if_pos hb] at hf
    rcases List.mem_append.1 hf with h | h
    · exact h1 f h
    · obtain rfl : f = s.extract (fieldsAt s s.size).2 s.size := by simpa using h
      refine ⟨by rw [size_extract s _ _ (Nat.le_refl _)]; omega, fun j hj => ?_⟩
      rw [size_extract s _ _ (Nat.le_refl _)] at hj
      rw [byteAt_extract s _ _ j hj]
      have := hg ((fieldsAt s s.size).2 + j) (by omega)
      exact ⟨this.1, this.2, h2 _ (by omega) (by omega)⟩
  · rw [if_neg hb] at hf
    exact h1 f hf

/-- One field more, and a space. -/
def addF (t f : ByteArray) : ByteArray := t ++ f ++ ⟨#[32]⟩
theorem addF_list (t f : ByteArray) : (addF t f).data.toList = t.data.toList ++ f.data.toList ++ [32] := by simp [addF]
theorem addF_size (t f : ByteArray) : (addF t f).size = t.size + f.size + 1 := by
  rw [← size_list, addF_list]; simp; omega
theorem byte_left (t f : ByteArray) (j : Nat) (h : j < t.size) : byteAt (addF t f) j = byteAt t j := by
  unfold byteAt
  rw [addF_list, List.append_assoc, List.getD_eq_getElem?_getD, List.getElem?_append_left (by simpa using h), ← List.getD_eq_getElem?_getD]
theorem byte_mid (t f : ByteArray) (j : Nat) (h : j < f.size) : byteAt (addF t f) (t.size + j) = byteAt f j := by
  unfold byteAt
  rw [addF_list, List.append_assoc, List.getD_eq_getElem?_getD, List.getElem?_append_right (by simp), List.getElem?_append_left (by simpa using h), ← List.getD_eq_getElem?_getD]
  simp
theorem byte_last (t f : ByteArray) : byteAt (addF t f) (t.size + f.size) = 32 := by
  unfold byteAt
  rw [addF_list, List.getD_eq_getElem?_getD, List.getElem?_append_right (by simp)]
  simp
theorem extract_left (t f : ByteArray) (b k : Nat) (h : k ≤ t.size) : (addF t f).extract b k = t.extract b k := by
  apply ext_list
  rw [extract_list, extract_list, addF_list, List.append_assoc]
  apply List.ext_getElem?
  intro i
  simp only [List.getElem?_take, List.getElem?_drop]
  split
  · rw [List.getElem?_append_left (by simp; omega)]
  · rfl
theorem extract_mid (t f : ByteArray) : (addF t f).extract t.size (t.size + f.size) = f := by
  apply ext_list
  rw [extract_list, addF_list, List.append_assoc, show t.size = t.data.toList.length from by simp, List.drop_left, Nat.add_sub_cancel_left, show f.size = f.data.toList.length from by simp, List.take_left]
theorem fields_left (t f : ByteArray) : ∀ k, k ≤ t.size → fieldsAt (addF t f) k = fieldsAt t k
  | 0, _ => rfl
  | k + 1, hk => by
    have ih := fields_left t f k (by omega)
    have hb := byte_left t f k (by omega)
    unfold byteAt at hb
    rw [fieldsAt, fieldsAt, ih, hb]
    simp only [pushF, extract_left t f _ k (by omega)]
theorem fields_mid (t f : ByteArray) (hf : GoodF f) (fs : List ByteArray) (h : fieldsAt t t.size = (fs, t.size)) : ∀ i, i ≤ f.size → fieldsAt (addF t f) (t.size + i) = (fs, t.size)
  | 0, _ => by rw [Nat.add_zero, fields_left t f _ (Nat.le_refl _), h]
  | i + 1, hi => by
    have ih := fields_mid t f hf fs h i (by omega)
    have hb := byte_mid t f i (by omega)
    have hg := (hf.2 i (by omega)).2.2
    rw [← hb] at hg
    unfold byteAt at hg
    rw [← Nat.add_assoc, fieldsAt, if_neg hg, ih]
theorem add_step (t f : ByteArray) (hf : GoodF f) (fs : List ByteArray) (h : fieldsAt t t.size = (fs, t.size)) (hg : goodTo t t.size) :
    fieldsAt (addF t f) (addF t f).size = (fs ++ [f], (addF t f).size) ∧ goodTo (addF t f) (addF t f).size := by
  have hm := fields_mid t f hf fs h f.size (Nat.le_refl _)
  have hl := byte_last t f
  unfold byteAt at hl
  rw [addF_size]
  refine ⟨?_, fun j hj => ?_⟩
  · rw [fieldsAt, if_pos hl, hm]
    simp only [pushF]
    rw [if_pos (by have := hf.1; omega), extract_mid]
  · by_cases h1 : j < t.size
    · have := hg j h1
      have hb := byte_left t f j h1
      unfold byteAt at hb
      rw [hb]; exact this
    · by_cases h2 : j < t.size + f.size
      · have hb := byte_mid t f (j - t.size) (by omega)
        rw [show t.size + (j - t.size) = j from by omega] at hb
        have := hf.2 (j - t.size) (by omega)
        rw [← hb] at this
        exact ⟨this.1, this.2.1⟩
      · obtain rfl : j = t.size + f.size := by omega
        rw [hl]; omega

/-- The fields joined, each with a space behind it. -/
def joinF : List ByteArray → ByteArray
  | [] => ⟨#[]⟩
  | fs => fs.foldl addF ⟨#[]⟩
theorem joinF_eq (fs : List ByteArray) : joinF fs = fs.foldl addF ⟨#[]⟩ := by cases fs <;> rfl
theorem joinF_snoc (fs : List ByteArray) (f : ByteArray) : joinF (fs ++ [f]) = addF (joinF fs) f := by
  rw [joinF_eq, joinF_eq, List.foldl_append]; rfl
theorem join_fields (fs : List ByteArray) (hf : ∀ f ∈ fs, GoodF f) : fieldsAt (joinF fs) (joinF fs).size = (fs, (joinF fs).size) ∧ goodTo (joinF fs) (joinF fs).size := by
  suffices h : ∀ n, n ≤ fs.length → fieldsAt (joinF (fs.take n)) (joinF (fs.take n)).size = (fs.take n, (joinF (fs.take n)).size) ∧ goodTo (joinF (fs.take n)) (joinF (fs.take n)).size by
    simpa using h fs.length (Nat.le_refl _)
  intro n
  induction n with
  | zero => intro _; exact ⟨rfl, fun j hj => absurd hj (Nat.not_lt_zero j)⟩
  | succ n ih =>
    intro hn
    obtain ⟨h1, h2⟩ := ih (by omega)
    rw [List.take_succ_eq_append_getElem (by omega), joinF_snoc]
    exact add_step _ _ (hf _ (List.getElem_mem _)) _ h1 h2
theorem split_join (fs : List ByteArray) (hf : ∀ f ∈ fs, GoodF f) (hl : fs.length ≤ 24) (hs : (joinF fs).size ≤ 600) : splitB (joinF fs) = true ∧ splitL (joinF fs) = fs := by
  obtain ⟨h1, h2⟩ := join_fields fs hf
  have ha : splitAll (joinF fs) = fs := by
    unfold splitAll pushF
    rw [h1, if_neg (by simp)]
  obtain ⟨h3, h4⟩ := split_ok _ hs h2 (by rw [ha]; exact hl)
  exact ⟨h3, by rw [h4, ha]⟩
theorem split_again (s : ByteArray) (h : splitB s = true) (hs : (joinF (splitL s)).size ≤ 600) : splitB (joinF (splitL s)) = true ∧ splitL (joinF (splitL s)) = splitL s := by
  have hl := splitL_length s
  refine split_join _ ?_ hl hs
  have h' := h
  unfold splitB at h'
  rw [decide_eq_true_eq] at h'
  have e : splitL s = splitAll s := by unfold splitL; rw [if_pos h]
  rw [e]
  exact splitAll_good s h'.2.1
theorem field_size (s : ByteArray) (h : splitB s = true) : ∀ f ∈ splitL s, f.size ≤ 600 := by
  have h' := h
  unfold splitB at h'
  rw [decide_eq_true_eq] at h'
  have e : splitL s = splitAll s := by unfold splitL; rw [if_pos h]
  rw [e]
  suffices hh : ∀ k, k ≤ s.size → ∀ f ∈ (fieldsAt s k).1, f.size ≤ s.size by
    intro f hf
    unfold splitAll pushF at hf
    by_cases hb : (fieldsAt s s.size).2 < s.size
    · rw [if_pos hb] at hf
      rcases List.mem_append.1 hf with h1 | h1
      · have := hh s.size (Nat.le_refl _) f h1; omega
      · obtain rfl : f = s.extract (fieldsAt s s.size).2 s.size := by simpa using h1
        rw [size_extract s _ _ (Nat.le_refl _)]; omega
    · rw [if_neg hb] at hf
      have := hh s.size (Nat.le_refl _) f hf; omega
  intro k
  induction k with
  | zero => intro _ f hf; simp [fieldsAt] at hf
  | succ k ih =>
    intro hk f hf
    rw [fieldsAt] at hf
    split at hf
    · simp only [pushF] at hf
      split at hf
      · rcases List.mem_append.1 hf with h1 | h1
        · exact ih (by omega) f h1
        · obtain rfl : f = s.extract (fieldsAt s k).2 k := by simpa using h1
          rw [size_extract s _ _ (by omega)]; omega
      · exact ih (by omega) f hf
    · exact ih (by omega) f hf

end Go.Proofs.YtcflfpdcphkoeaaDoor
