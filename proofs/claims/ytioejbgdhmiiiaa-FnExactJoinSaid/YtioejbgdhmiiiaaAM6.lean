/- The abstract machine, 6: slices. -/
import Derived.Test.YtioejbgdhmiiiaaAM5
namespace Go.Proofs.Ytioejbgdhmiiiaa
open Go.RowKit
set_option linter.unusedVariables false
set_option linter.unusedSimpArgs false
namespace AM
section
variable {P : Program} {ρ : Own} {w : World} {n : Nat} {K : AV → Option Blk → Prop}
theorem run_indexAt_in {T e : TypeId} {m : Nat} (he : elemL P T = some (e, m)) (g q len cap : Nat) (k : IntKind) (i : Int) (h0 : 0 ≤ i) (h1 : i < len) :
    (Instr.indexAt T (.slice (some ⟨g, q, none⟩) len cap) (.int k i)).run P w = .ok (.pointer (some ⟨g, q + i.toNat * m, none⟩)) w := by
  obtain ⟨i0, hu, hi, rfl⟩ := elemL_parts he
  simp [Instr.indexAt, run_underlying hu, asIntOf, h0, h1, sizeOf, typeInfo, hi, Addr.add_mid]
theorem s_index_view {T e : TypeId} {m : Nat} {v : Value} {rows : List (List PV)} {row : List PV} {k : IntKind} {i : Int} (he : elemL P T = some (e, m)) (hx : AR ρ w (one (.p (.view m rows))) v) (h0 : 0 ≤ i) (hr : rows[i.toNat]? = some row)
    (hk : K (one (.vp row)) none) : ∃ u w', (Instr.indexAt T v (.int k i)).run P w = .ok u w' ∧ Post ρ w n K u w' := by
  obtain ⟨hp, _⟩ := hx
  have hlt := (List.getElem?_eq_some_iff.1 hr).1
  cases hp with
  | nil m a c => simp at hlt
  | view m rows g o c f hne hS hc hm hw ho hrr =>
    refine ⟨_, w, run_indexAt_in he g o _ c k i h0 (by omega), Post.val hk ⟨⟨g, o + i.toNat * m, f i.toNat, rfl, hS, fun j x hj => ?_, fun j x hj => ⟨hrr _ j row x hr hj, ho _ j row x hr hj⟩⟩, rfl⟩⟩
    rw [Nat.add_assoc]; exact hw _ j row x hr hj
theorem s_index_own {T e : TypeId} {m b s len : Nat} {v : Value} {k : IntKind} {i : Int} (he : elemL P T = some (e, m)) (hx : AR ρ w (one (.sl m b s len)) v) (h0 : 0 ≤ i) (h1 : i < len)
    (hk : K (one (.ptr m b (s + i.toNat) 0)) none) : ∃ u w', (Instr.indexAt T v (.int k i)).run P w = .ok u w' ∧ Post ρ w n K u w' := by
  obtain ⟨hp, _⟩ := hx
  rcases hp with ⟨rfl, _⟩ | ⟨g, o, c, hb, rfl, hc, _, _⟩
  · omega
  · refine ⟨_, w, run_indexAt_in he g _ len c k i h0 h1, Post.val hk ⟨⟨g, o, hb, ?_⟩, rfl⟩⟩
    rw [Nat.add_zero, Nat.add_mul, Nat.add_assoc]
/-! ### Slices of slices -/
def bound (d : Int) : Option Value → Option Int
  | none => some d
  | some (.int _ i) => some i
  | _ => none
theorem run_bounds {lo hi : Option Value} {len cap : Nat} {l h : Int} (hl : bound 0 lo = some l) (hh : bound len hi = some h) (h0 : 0 ≤ l) (h1 : l ≤ h) (h2 : h ≤ len) (hc : len ≤ cap) :
    (Instr.sliceBounds true len cap lo hi none).run P w = .ok (l.toNat, h.toNat, cap) w := by
  unfold Instr.sliceBounds
  cases hi with
  | none =>
    cases hh
    cases lo with
    | none => cases hl; simp
    | some v => cases v <;> simp only [bound] at hl <;> first | cases hl | skip
                simp [Instr.sliceBound, asIntOf, h0, h1]
  | some v =>
    cases v <;> simp only [bound] at hh <;> first | cases hh | skip
    have hc' : h ≤ (cap : Int) := by omega
    have h00 : 0 ≤ h := by omega
    have e : ((h.toNat : Nat) : Int) = h := by omega
    cases lo with
    | none => cases hl; simp [Instr.sliceBound, asIntOf, h00, hc']
    | some v => cases v <;> simp only [bound] at hl <;> first | cases hl | skip
                simp [Instr.sliceBound, asIntOf, h0, h1, h00, hc', e]
theorem run_sliceAt_in {T e : TypeId} {m : Nat} (he : elemL P T = some (e, m)) (a : Option Addr) {lo hi : Option Value} {len cap : Nat} {l h : Int} (hl : bound 0 lo = some l) (hh : bound len hi = some h) (h0 : 0 ≤ l) (h1 : l ≤ h) (h2 : h ≤ len) (hc : len ≤ cap) :
    (Instr.sliceAt T (.slice a len cap) lo hi none).run P w = .ok (.slice (if cap = l.toNat then a else a.map (·.add (l.toNat * m))) (h.toNat - l.toNat) (cap - l.toNat)) w := by
  obtain ⟨i0, hu, hi, rfl⟩ := elemL_parts he
  have hb := run_bounds (P := P) (w := w) hl hh h0 h1 h2 hc
  simp only [Instr.sliceAt, Instr.slice, Sem.run_bind, run_underlying hu, Result.andThen_ok, hb]
  simp [sizeOf, typeInfo, hi]
theorem s_slice_view {T e : TypeId} {m : Nat} {v : Value} {rows : List (List PV)} {lo hi : Option Value} {l h : Int} (he : elemL P T = some (e, m)) (hx : AR ρ w (one (.p (.view m rows))) v) (hl : bound 0 lo = some l) (hh : bound rows.length hi = some h)
    (h0 : 0 ≤ l) (h1 : l ≤ h) (h2 : h ≤ rows.length) (hk : K (one (.p (.view m ((rows.take h.toNat).drop l.toNat)))) none) :
    ∃ u w', (Instr.sliceAt T v lo hi none).run P w = .ok u w' ∧ Post ρ w n K u w' := by
  obtain ⟨hp, _⟩ := hx
  cases hp with
  | nil m a c =>
    have e0 : l = 0 := by simp at h2; omega
    have e1 : h = 0 := by simp at h2; omega
    subst e0; subst e1
    have := run_sliceAt_in (P := P) (w := w) he a (cap := c) hl hh h0 h1 h2 (Nat.zero_le _)
    refine ⟨_, w, this, Post.val hk ⟨?_, rfl⟩⟩
    simp only [List.take_nil, List.drop_nil, Int.toNat_zero, Nat.sub_zero]
    exact .nil m _ _
  | view m rows g o c f hne hS hc hm hw ho hrr =>
    have := run_sliceAt_in (P := P) (w := w) he (some ⟨g, o, none⟩) (cap := c) hl hh h0 h1 h2 hc
    refine ⟨_, w, this, Post.val hk ⟨?_, rfl⟩⟩
    have hlen : ((rows.take h.toNat).drop l.toNat).length = h.toNat - l.toNat := by simp; omega
    by_cases hz : (rows.take h.toNat).drop l.toNat = []
    · rw [hz] at hlen ⊢
      simp only [List.length_nil] at hlen
      rw [← hlen]
      exact .nil m _ _
    · have hpos : 0 < h.toNat - l.toNat := by rw [← hlen]; exact List.length_pos_iff.2 hz
      rw [if_neg (by omega), ← hlen]
      simp only [Option.map_some, Addr.add_mid]
      have hat : ∀ (i : Nat) (row : List PV), ((rows.take h.toNat).drop l.toNat)[i]? = some row → rows[l.toNat + i]? = some row := fun i row hi => by
        rw [List.getElem?_drop] at hi
        have hlt : l.toNat + i < h.toNat := by have := (List.getElem?_eq_some_iff.1 hi).1; simp at this; omega
        rw [List.getElem?_take_of_lt hlt] at hi
        exact hi
      refine .view m _ g _ _ (fun i j => f (l.toNat + i) j) hz hS (by rw [hlen]; omega) (fun i row hi => hm _ row (hat i row hi)) (fun i j row x hi hj => ?_) (fun i j row x hi hj => ho _ j row x (hat i row hi) hj) (fun i j row x hi hj => hrr _ j row x (hat i row hi) hj)
      have := hw _ j row x (hat i row hi) hj
      rw [show o + l.toNat * m + (i * m + j) = o + ((l.toNat + i) * m + j) by rw [Nat.add_mul]; omega]
      exact this
theorem s_slice_own {T e : TypeId} {m b s len : Nat} {v : Value} {lo hi : Option Value} {l h : Int} (he : elemL P T = some (e, m)) (hx : AR ρ w (one (.sl m b s len)) v) (hl : bound 0 lo = some l) (hh : bound len hi = some h)
    (h0 : 0 ≤ l) (h1 : l ≤ h) (h2 : h ≤ len) (hk : K (one (.sl m b (s + l.toNat) (h.toNat - l.toNat))) none) :
    ∃ u w', (Instr.sliceAt T v lo hi none).run P w = .ok u w' ∧ Post ρ w n K u w' := by
  obtain ⟨hp, _⟩ := hx
  rcases hp with ⟨rfl, a, rfl⟩ | ⟨g, o, c, hb, rfl, hc, hcm, cs, T', fr, h5, h6⟩
  · have e0 : l = 0 := by omega
    have e1 : h = 0 := by omega
    subst e0; subst e1
    have := run_sliceAt_in (P := P) (w := w) he a (cap := 0) hl hh h0 h1 h2 (Nat.zero_le _)
    exact ⟨_, w, this, Post.val hk ⟨.inl ⟨by simp, _, rfl⟩, rfl⟩⟩
  · have := run_sliceAt_in (P := P) (w := w) he (some ⟨g, o + s * m, none⟩) (cap := c) hl hh h0 h1 h2 hc
    refine ⟨_, w, this, Post.val hk ⟨?_, rfl⟩⟩
    by_cases hz : c = l.toNat
    · refine .inl ⟨by omega, some ⟨g, o + s * m, none⟩, ?_⟩
      rw [if_pos hz, show h.toNat - l.toNat = 0 by omega, show c - l.toNat = 0 by omega]
    · rw [if_neg hz]
      simp only [Option.map_some, Addr.add_mid]
      refine .inr ⟨g, o, c - l.toNat, hb, ?_, by omega, by omega, cs, T', fr, h5, ?_⟩
      · rw [show o + s * m + l.toNat * m = o + (s + l.toNat) * m by rw [Nat.add_mul]; omega]
      · rw [show s + l.toNat + (c - l.toNat) = s + c by omega]; exact h6
/-! ### len -/
theorem s_len_view {T ty e : TypeId} {m m' : Nat} {v : Value} {rows : List (List PV)} (he : elemL P T = some (e, m')) (hx : AR ρ w (one (.p (.view m rows))) v) (hk : K (V (.int .i64 rows.length)) none) :
    ∃ u w', (Builtin.len_ #[T] ty #[v]).run P w = .ok u w' ∧ Post ρ w n K u w' := by
  obtain ⟨i0, hu, hi, _⟩ := elemL_parts he
  obtain ⟨hp, _⟩ := hx
  cases hp with
  | nil m a c => exact ⟨_, w, by simp [Builtin.len_, run_underlying hu, goInt], Post.val hk ⟨.val _, rfl⟩⟩
  | view m rows g o c f hne hS hc hm hw ho hrr => exact ⟨_, w, by simp [Builtin.len_, run_underlying hu, goInt], Post.val hk ⟨.val _, rfl⟩⟩
theorem s_len_own {T ty e : TypeId} {m m' b s len : Nat} {v : Value} (he : elemL P T = some (e, m')) (hx : AR ρ w (one (.sl m b s len)) v) (hk : K (V (.int .i64 len)) none) :
    ∃ u w', (Builtin.len_ #[T] ty #[v]).run P w = .ok u w' ∧ Post ρ w n K u w' := by
  obtain ⟨i0, hu, hi, _⟩ := elemL_parts he
  obtain ⟨hp, _⟩ := hx
  rcases hp with ⟨rfl, a, rfl⟩ | ⟨g, o, c, hb, rfl, _⟩
  · exact ⟨_, w, by simp [Builtin.len_, run_underlying hu, goInt], Post.val hk ⟨.val _, rfl⟩⟩
  · exact ⟨_, w, by simp [Builtin.len_, run_underlying hu, goInt], Post.val hk ⟨.val _, rfl⟩⟩
theorem s_len_nil {T ty e : TypeId} {m' : Nat} {v : Value} (he : elemL P T = some (e, m')) (hx : AR ρ w (one .nilsl) v) (hk : K (V (.int .i64 0)) none) :
    ∃ u w', (Builtin.len_ #[T] ty #[v]).run P w = .ok u w' ∧ Post ρ w n K u w' := by
  obtain ⟨i0, hu, hi, _⟩ := elemL_parts he
  obtain ⟨⟨a, rfl⟩, _⟩ := hx
  exact ⟨_, w, by simp [Builtin.len_, run_underlying hu, goInt], Post.val hk ⟨.val _, rfl⟩⟩
/-! ### make, literals -/
def bytesL (P : Program) (e : TypeId) : Option Nat := (P.info? e).map (·.bytes)
theorem s_make {T e : TypeId} {m by_ : Nat} {z : List Value} {kl kc : IntKind} {l c : Int} (hn : ρ n = none) (he : elemL P T = some (e, m)) (hz : zeroL P e = some z) (hzm : z.length = m) (hm : m ≠ 0) (hby : bytesL P e = some by_)
    (h0 : 0 ≤ l) (h1 : l ≤ c) (h2 : (by_ : Int) * c ≤ 281474976710656) (h3 : c ≤ 9223372036854775807) (hk : K (one (.sl m n 0 l.toNat)) (some ⟨e, m, List.replicate l.toNat (z.map fun v => .p (.val v))⟩)) :
    ∃ u w', (Instr.makeSlice T (.int kl l) (.int kc c)).run P w = .ok u w' ∧ Post ρ w n K u w' := by
  obtain ⟨i0, hu, hi, rfl⟩ := elemL_parts he
  obtain ⟨i1, z0, h4, h5, h6, h7⟩ := zeroL_parts hz
  have e1 : i1 = i0 := by rw [hi] at h4; exact (Option.some.inj h4).symm
  subst e1
  have e2 : i1.bytes = by_ := by unfold bytesL at hby; rw [hi] at hby; exact Option.some.inj hby
  subst e2
  have hrun := run_make (P := P) w T e i1 z0 hu hi h5 kl kc l c h0 h1 h2 h3
  have hzs : z0.cells.size = i1.size := by rw [← hzm, ← h6]; simp
  have hmul := Nat.mul_le_mul_right i1.size (show l.toNat ≤ c.toNat by omega)
  refine ⟨_, _, hrun, Post.block (m := i1.size) _ hn hk (by simp [size_madeCells]; exact hmul) (fun i row hi => ?_) (fun i j row x hi hj => ?_) fun ρ' w' hr hw' => ⟨.inr ⟨w.heap.size, 0, c.toNat, hr, by rw [Nat.zero_mul], by omega, by unfold maxLen; omega, madeCells z0.cells (c.toNat * i1.size), e, (0, 0), by subst hw'; exact heap_alloc_new w _, by simp [size_madeCells]⟩, rfl⟩⟩
  · have := List.mem_of_getElem? hi
    rw [(List.mem_replicate.1 this).2]; simp [hzm]
  · have hil : i < l.toNat := by have := (List.getElem?_eq_some_iff.1 hi).1; simpa using this
    have e3 := (List.mem_replicate.1 (List.mem_of_getElem? hi)).2
    subst e3
    rw [List.getElem?_map] at hj
    cases hv : z[j]? with
    | none => rw [hv] at hj; cases hj
    | some v =>
      rw [hv] at hj; cases hj
      have hjm : j < i1.size := by have := (List.getElem?_eq_some_iff.1 hv).1; omega
      refine ⟨v, ?_, .val v, h7 v (List.mem_of_getElem? hv)⟩
      have hlt : i * i1.size + j < c.toNat * i1.size := by
        have := Nat.mul_le_mul_right i1.size (show i + 1 ≤ c.toNat by omega)
        rw [Nat.succ_mul] at this; omega
      unfold madeCells
      rw [Array.getElem?_map, Array.getElem?_range, if_pos hlt, Option.map_some]
      congr 1
      rw [hzs, Nat.mul_add_mod_of_lt hjm]
      have h8 : z0.cells[j]? = some v := by rw [← Array.getElem?_toList, h6]; exact hv
      simp [getElem!_def, h8]
end
end AM
end Go.Proofs.Ytioejbgdhmiiiaa
