/- The abstract machine, 7: literals of slices, bytes of strings. -/
import Derived.Test.YtioejbgdhmiiiaaAM6
namespace Go.Proofs.Ytioejbgdhmiiiaa
open Go.RowKit
set_option linter.unusedVariables false
set_option linter.unusedSimpArgs false
namespace AM
section
variable {P : Program} {ρ : Own} {w : World} {n : Nat} {K : AV → Option Blk → Prop}
/-- k rows of m cells. -/
def chunk (m : Nat) : Nat → List CV → List (List CV)
  | 0, _ => []
  | k + 1, l => l.take m :: chunk m k (l.drop m)
theorem chunk_len (m : Nat) : ∀ (k : Nat) (l : List CV), (chunk m k l).length = k
  | 0, _ => rfl
  | k + 1, l => by simp [chunk, chunk_len m k]
theorem chunk_at (m : Nat) : ∀ (k : Nat) (l : List CV) (i : Nat) (row : List CV), (chunk m k l)[i]? = some row → i < k ∧ row = (l.drop (i * m)).take m
  | 0, l, i, row, h => by simp [chunk] at h
  | k + 1, l, 0, row, h => by simp [chunk] at h; exact ⟨by omega, by rw [Nat.zero_mul, List.drop_zero]; exact h.symm⟩
  | k + 1, l, i + 1, row, h => by
    obtain ⟨h1, h2⟩ := chunk_at m k (l.drop m) i row (by simpa [chunk] using h)
    exact ⟨by omega, by rw [h2, List.drop_drop, Nat.succ_mul, Nat.add_comm m]⟩
theorem s_buildSlice {T e : TypeId} {m len : Nat} {z : List Value} {ps : List (Nat × List CV)} {parts : Array (Nat × Value)} {out : List CV} (hn : ρ n = none) (he : elemL P T = some (e, m)) (hz : zeroL P e = some z) (hzm : z.length = m) (hm : m ≠ 0) (hlen : len ≠ 0) (hsm : len * m ≤ 16777216)
    (hi : parts.toList.map (·.1) = ps.map (·.1)) (hc : ∀ (j : Nat) p q, ps[j]? = some p → parts.toList[j]? = some q → CellsR ρ w p.2 q.2.cells)
    (ho : fillA (fun i => some (i * m, m)) ((List.replicate len (z.map fun v => CV.p (.val v))).flatten) ps = some out) (k : K (one (.sl m n 0 len)) (some ⟨e, m, chunk m len out⟩)) : ∃ u w', (Instr.buildSlice T len parts).run P w = .ok u w' ∧ Post ρ w n K u w' := by
  obtain ⟨i0, hu, hi0, rfl⟩ := elemL_parts he
  obtain ⟨i1, z0, h4, h5, h6, h7⟩ := zeroL_parts hz
  have e1 : i1 = i0 := by rw [hi0] at h4; exact (Option.some.inj h4).symm
  subst e1
  have hzs : z0.cells.size = i1.size := by rw [← hzm, ← h6]; simp
  have hmade : madeCells z0.cells (len * i1.size) = ((List.replicate len z).flatten).toArray := by
    have := made_flat z0.cells len (by rw [hzs]; omega)
    rw [← hzs]
    apply Array.ext'
    rw [this, List.flatMap_def, List.map_replicate, h6]
  have h : CellsR ρ w ((List.replicate len (z.map fun v => CV.p (.val v))).flatten) (madeCells z0.cells (len * i1.size)) := by
    rw [hmade]
    have := CellsR.lit (ρ := ρ) (w := w) (l := (List.replicate len z).flatten) (fun v hv => by
      obtain ⟨l, hl, hv⟩ := List.mem_flatten.1 hv
      rw [(List.mem_replicate.1 hl).2] at hv
      exact h7 v hv)
    simpa [List.map_flatten] using this
  obtain ⟨o, h8, h9⟩ := fillA_R _ ps parts.toList _ _ out h hi hc ho
  have hpos : 0 < len * i1.size := Nat.mul_pos (by omega) (by omega)
  have hrun := run_buildSlice (P := P) w T e len parts o i1 z0 hu hi0 h5 (by omega) (by omega) h8
  have hol : out.length = len * i1.size := by
    have h10 : ∀ (ps : List (Nat × List CV)) (cs out : List CV) (pl : Nat → Option (Nat × Nat)), fillA pl cs ps = some out → out.length = cs.length := by
      intro ps
      induction ps with
      | nil => intro cs out pl h; cases h; rfl
      | cons p r ih =>
        intro cs out pl h
        obtain ⟨i, v⟩ := p
        simp only [fillA] at h
        split at h
        · cases h
        · split at h
          · rw [ih _ _ _ h, over_len]
          · cases h
    rw [h10 _ _ _ _ ho, ← h.1]; simp [size_madeCells]
  refine ⟨_, _, hrun, Post.block o hn k (by simp only [chunk_len]; rw [h9.1, hol]; exact Nat.le_refl _) (fun i row hi => ?_) (fun i j row x hi hj => ?_) fun ρ' w' hr hw' => ⟨.inr ⟨w.heap.size, 0, len, hr, by rw [Nat.zero_mul], Nat.le_refl _, ?_, o, e, (0, 0), by subst hw'; exact heap_alloc_new w _, by rw [h9.1, hol, Nat.zero_add, Nat.zero_add]; exact Nat.le_refl _⟩, rfl⟩⟩
  · obtain ⟨hik, rfl⟩ := chunk_at _ _ _ _ _ hi
    have := Nat.mul_le_mul_right i1.size (show i + 1 ≤ len by omega)
    rw [Nat.succ_mul] at this
    simp [hol]; omega
  · obtain ⟨hik, rfl⟩ := chunk_at _ _ _ _ _ hi
    have hjm : j < i1.size := by have := (List.getElem?_eq_some_iff.1 hj).1; simp at this; omega
    rw [List.getElem?_take_of_lt hjm, List.getElem?_drop] at hj
    exact h9.2 _ x hj
  · have := Nat.mul_le_mul_left len (show 1 ≤ i1.size by omega)
    unfold maxLen; omega
theorem s_buildNil {T e : TypeId} {m : Nat} {parts : Array (Nat × Value)} (he : elemL P T = some (e, m)) (hp : parts = #[]) (k : K (one .nilsl) none) : ∃ u w', (Instr.buildSlice T 0 parts).run P w = .ok u w' ∧ Post ρ w n K u w' := by
  obtain ⟨i0, hu, hi0, rfl⟩ := elemL_parts he
  subst hp
  exact ⟨.slice (some ⟨w.heap.size, 0, none⟩) 0 0, w.alloc (.cells #[] e), by simp [Instr.buildSlice, run_underlying hu, sizeOf, typeInfo, hi0, Instr.fill, newRow, show Array.range 0 = #[] from rfl], _, none, ρ, k, below_new _, ⟨⟨_, rfl⟩, rfl⟩, rfl⟩
/-! ### Bytes -/
def byteRow (b : UInt8) : List CV := [.p (.val (.int .u8 b.toNat))]
def byteRowP (b : UInt8) : List PV := [.val (.int .u8 b.toNat)]
theorem s_bytes_of {S D e : TypeId} {s : ByteArray} (hn : ρ n = none) (hs : P.underlying S = some .string) (hd : P.underlying D = some (.slice e)) (he : P.underlying e = some (.int .u8)) (hle : s.size ≤ maxLen) (k : K (one (.sl 1 n 0 s.size)) (some ⟨e, 1, s.data.toList.map byteRow⟩)) :
    ∃ u w', (convert S D (.string s)).run P w = .ok u w' ∧ Post ρ w n K u w' := by
  have hrun := run_bytes_of_string (P := P) w S D e s hs hd he
  obtain ⟨c, hc⟩ : ∃ c, c = grownCap w s.size 0 e := ⟨_, rfl⟩
  rw [← hc] at hrun
  have hcs : s.size ≤ c ∧ c ≤ maxLen := by
    rw [hc]; unfold grownCap Question.cut; simp only
    unfold maxLen at hle ⊢
    have : (w.tape w.drawn (.appendCap s.size 0 e)) % (2 ^ 63 - s.size) < 2 ^ 63 - s.size := Nat.mod_lt _ (by omega)
    omega
  have hsz : (bytesRow s c).size = c := by simp [bytesRow]; have : s.data.size = s.size := rfl; omega
  have hb : Below w.heap.size w (w.drew.alloc (.cells (bytesRow s c) e ((bytesRow s c).size, (bytesRow s c).size + 1))) := below_drew.trans (below_new (w := w.drew) _)
  have ha : Adv ρ w (ρ.with n w.heap.size 0) (w.drew.alloc (.cells (bytesRow s c) e ((bytesRow s c).size, (bytesRow s c).size + 1))) := adv_new hb hn (Nat.le_refl _)
  have hh : (w.drew.alloc (.cells (bytesRow s c) e ((bytesRow s c).size, (bytesRow s c).size + 1))).heap[w.heap.size]? = some (.cells (bytesRow s c) e ((bytesRow s c).size, (bytesRow s c).size + 1)) := heap_alloc_new w.drew _
  refine ⟨_, _, hrun, _, some ⟨e, 1, s.data.toList.map byteRow⟩, _, k, hb, ⟨.inr ⟨w.heap.size, 0, c, by simp [Own.with], by rw [Nat.zero_mul], hcs.1, hcs.2, _, e, _, hh, by omega⟩, rfl⟩, w.heap.size, rfl, Nat.le_refl _, by simp, ?_⟩
  refine ⟨_, _, hh, fun j hj hf => by have := hf.1; dsimp only at this; omega, by simp [hsz]; exact hcs.1, fun i row hi => ?_, fun i j row x hi hj => ?_⟩
  · rw [List.getElem?_map] at hi
    cases hv : s.data.toList[i]? with
    | none => rw [hv] at hi; cases hi
    | some b => rw [hv] at hi; cases hi; rfl
  · rw [List.getElem?_map] at hi
    cases hv : s.data.toList[i]? with
    | none => rw [hv] at hi; cases hi
    | some b =>
      rw [hv] at hi; cases hi
      cases j with
      | succ j => simp [byteRow] at hj
      | zero =>
        cases hj
        have hil : i < s.data.size := by have := (List.getElem?_eq_some_iff.1 hv).1; simpa using this
        refine ⟨.int .u8 b.toNat, ?_, .val _, rfl⟩
        have hv' : s.data[i]? = some b := by simpa using hv
        simp only [Nat.zero_add, Nat.mul_one, Nat.add_zero, bytesRow]
        rw [Array.getElem?_append_left (by simpa using hil), Array.getElem?_map, hv']
        rfl
theorem s_string_view {S D e : TypeId} {v : Value} {rows : List (List PV)} {l : List UInt8} (hs : P.underlying S = some (.slice e)) (hd : P.underlying D = some .string) (he : P.underlying e = some (.int .u8)) (hx : AR ρ w (one (.p (.view 1 rows))) v) (hl : rows = l.map byteRowP)
    (k : K (V (.string ⟨l.toArray⟩)) none) : ∃ u w', (convert S D v).run P w = .ok u w' ∧ Post ρ w n K u w' := by
  obtain ⟨hp, _⟩ := hx
  cases hp with
  | nil m a c =>
    have hl0 : l = [] := by simpa using hl.symm
    subst hl0
    cases a with
    | none => exact ⟨_, w, by rw [run_convert_bytes_string w S D e none 0 c hs he hd]; simp [Conv.bytesToString]; rfl, Post.val k ⟨.val _, rfl⟩⟩
    | some a => exact ⟨_, w, run_convert_bytes_back w S D e a c [] hs he hd (fun j hj => by simp at hj), Post.val k ⟨.val _, rfl⟩⟩
  | view m rows g o c f hne hS hc hm hw ho hrr =>
    subst hl
    have hlen : (l.map byteRowP).length = l.length := by simp
    rw [hlen]
    refine ⟨_, w, run_convert_bytes_back w S D e ⟨g, o, none⟩ c l hs he hd (fun j hj => ?_), Post.val k ⟨.val _, rfl⟩⟩
    have h1 := hw j 0 (byteRowP l[j]) _ (by simp [hj]) rfl
    have h2 := (hrr j 0 (byteRowP l[j]) _ (by simp [hj]) rfl).val_eq
    rw [h2] at h1
    rw [Addr.add_mid]
    simpa using h1
theorem s_string_own {H : Heap} {w0 : World} {S D e : TypeId} {v : Value} {b s len : Nat} {blk : Blk} {l : List UInt8} (hG : G H w0 ρ w) (hH : H[b]? = some (some blk)) (hs : P.underlying S = some (.slice e)) (hd : P.underlying D = some .string) (he : P.underlying e = some (.int .u8))
    (hx : AR ρ w (one (.sl 1 b s len)) v) (hm : blk.m = 1) (hl : (blk.rows.drop s).take len = l.map byteRow) (hll : l.length = len)
    (k : K (V (.string ⟨l.toArray⟩)) none) : ∃ u w', (convert S D v).run P w = .ok u w' ∧ Post ρ w n K u w' := by
  obtain ⟨hp, _⟩ := hx
  rcases hp with ⟨rfl, a, rfl⟩ | ⟨g, o, c, hb, rfl, _⟩
  · have hl0 : l = [] := List.length_eq_zero_iff.1 hll
    subst hl0
    cases a with
    | none => exact ⟨_, w, by rw [run_convert_bytes_string w S D e none 0 0 hs he hd]; simp [Conv.bytesToString]; rfl, Post.val k ⟨.val _, rfl⟩⟩
    | some a => exact ⟨_, w, run_convert_bytes_back w S D e a 0 [] hs he hd (fun j hj => by simp at hj), Post.val k ⟨.val _, rfl⟩⟩
  · subst hll
    obtain ⟨cs, fr, h1, _, _, h2, h3⟩ := hG.held b blk g o hH hb
    refine ⟨_, w, run_convert_bytes_back w S D e ⟨g, o + s * 1, none⟩ c l hs he hd (fun j hj => ?_), Post.val k ⟨.val _, rfl⟩⟩
    have h4 : ((blk.rows.drop s).take l.length)[j]? = some (byteRow l[j]) := by rw [hl]; simp [hj]
    rw [List.getElem?_take_of_lt hj, List.getElem?_drop] at h4
    obtain ⟨u, h5, h6, _⟩ := h3 (s + j) 0 _ _ h4 rfl
    cases h6
    rw [Addr.add_mid, cell_of_row w g _ cs blk.T fr h1]
    rw [hm] at h5
    rw [show o + s * 1 + j = o + ((s + j) * 1 + 0) by omega]
    exact h5
end
end AM
end Go.Proofs.Ytioejbgdhmiiiaa
