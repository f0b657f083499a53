/- The abstract machine, 4: the operations, one by one. -/
import Derived.Test.YtioejbgdhmiiiaaAM3
namespace Go.Proofs.Ytioejbgdhmiiiaa
open Go.RowKit
set_option linter.unusedVariables false
set_option linter.unusedSimpArgs false
namespace AM
section
variable {P : Program} {ρ : Own} {w : World} {n : Nat} {K : AV → Option Blk → Prop}
abbrev one (c : CV) : AV := .a (.one c)
abbrev V (x : Value) : AV := .a (.one (.p (.val x)))
theorem R_new (ρ' : Own) (w' : World) (m n g i j : Nat) (h : ρ' n = some (g, 0)) : AR ρ' w' (one (.ptr m n i j)) (.pointer (some ⟨g, i * m + j, none⟩)) := ⟨⟨g, 0, h, by rw [Nat.zero_add]⟩, rfl⟩
theorem CR_one_row {cs : List CV} {vs : Array Value} (h : CellsR ρ w cs vs) : ∀ (i j : Nat) (row : List CV) (c : CV), [cs][i]? = some row → row[j]? = some c → ∃ u, vs[i * cs.length + j]? = some u ∧ CR ρ w c u ∧ u.oneCell' = true := fun i j row c hi hj => by
  cases i with
  | zero => cases hi; rw [Nat.zero_mul, Nat.zero_add]; exact h.2 j c hj
  | succ i => simp at hi
theorem one_row_len (cs : List CV) : ∀ (i : Nat) (row : List CV), [cs][i]? = some row → row.length = cs.length := fun i row hi => by
  cases i with
  | zero => cases hi; rfl
  | succ i => simp at hi
theorem s_box {T : TypeId} {x : AV} {v : Value} {cs : List CV} (hn : ρ n = none) (hx : AR ρ w x v) (hc : cellsA x = some cs) (k : K (one (.ptr cs.length n 0 0)) (some ⟨T, cs.length, [cs]⟩)) :
    ∃ u w', (Instr.box T v).run P w = .ok u w' ∧ Post ρ w n K u w' := by
  have h := cellsA_R hx hc
  refine ⟨_, _, rfl, Post.block v.cells hn k (by simp [h.1]) (one_row_len cs) (CR_one_row h) fun ρ' w' hr _ => ?_⟩
  have := R_new ρ' w' cs.length n w.heap.size 0 0 hr
  simpa using this
theorem s_alloc {T : TypeId} {l : List Value} (hn : ρ n = none) (hz : zeroL P T = some l) (k : K (one (.ptr l.length n 0 0)) (some ⟨T, l.length, [l.map fun v => .p (.val v)]⟩)) :
    ∃ u w', (Instr.alloc T true (.tuple #[])).run P w = .ok u w' ∧ Post ρ w n K u w' := by
  obtain ⟨i, z, h1, h2, h3, h4⟩ := zeroL_parts hz
  have h := CellsR.lit (ρ := ρ) (w := w) h4
  have hl : (l.map fun v => CV.p (.val v)).length = l.length := by simp
  have he : l.toArray = z.cells := by rw [← h3]
  refine ⟨.pointer (some ⟨w.heap.size, 0, none⟩), w.alloc (.cells z.cells T), ?_, Post.block z.cells hn k (by rw [← he]; simp) (fun i row hi => by rw [one_row_len _ i row hi, hl]) (fun i j row c hi hj => by
    have := CR_one_row h i j row c hi hj
    rw [hl, he] at this
    exact this) fun ρ' w' hr _ => ?_⟩
  · simp [Instr.alloc, zeroValue, typeInfo, h1, h2, newVar, newRow]
  · have := R_new ρ' w' l.length n w.heap.size 0 0 hr
    simpa using this
theorem s_extract {x : AV} {v : Value} {xs : List A1} {i : Nat} {y : A1} (hx : AR ρ w x v) (he : x = .tup xs) (hi : xs[i]? = some y) (k : K (.a y) none) : ∃ u w', (Instr.extract v i).run P w = .ok u w' ∧ Post ρ w n K u w' := by
  subst he
  obtain ⟨vs, rfl, h1, h2⟩ := hx
  obtain ⟨u, h3, h4⟩ := h2 i y hi
  exact ⟨u, w, by simp [Instr.extract, h3], Post.val k h4⟩
def pickA (b : Bool) (x y : AV) : AV := match x, y with
  | .a (.one (.p (.val (.bool u)))), .a (.one (.p (.val (.bool v)))) => V (.bool (bif b then u else v))
  | .a (.one (.p (.val (.int k u)))), .a (.one (.p (.val (.int k' v)))) => if k = k' then V (.int k (bif b then u else v)) else bif b then x else y
  | .a (.one (.p (.val (.string u)))), .a (.one (.p (.val (.string v)))) => V (.string (bif b then u else v))
  | _, _ => bif b then x else y
theorem pickA_R {b : Bool} {x y : AV} {u v : Value} (hx : AR ρ w x u) (hy : AR ρ w y v) : AR ρ w (pickA b x y) (if b then u else v) := by
  unfold pickA
  split
  · cases b <;> assumption
  · split
    · rename_i e; subst e; cases b <;> assumption
    · cases b <;> assumption
  · cases b <;> assumption
  · cases b <;> assumption
/-! ### Loads -/
theorem run_load_one {T : TypeId} {d : TypeDesc} (a : Addr) (v : Value) (hu : P.underlying T = some d) (hd : d.isRow = false) (h : w.cell? a = some v) : (Instr.loadAt T (.pointer (some a))).run P w = .ok v w := by
  have hagg : (isAgg T).run P w = .ok false w := by
    unfold isAgg; rw [Sem.run_bind, run_underlying hu w]; cases d <;> simp_all
  simp [Instr.loadAt, Instr.sureAddr, loadVar, Sem.run_bind, hagg, load, Sem.run, h]
/-- What a load through a pointer gives. -/
def loadA (P : Program) (h : Heap) (T : TypeId) (x : AV) : Option A1 := (sizeL P T).bind fun s => match x with
  | .a (.one (.vp cells)) => if s.2 then (if s.1 ≤ cells.length then some (.agg ((cells.take s.1).map .p)) else none) else (cells[0]?).map fun c => .one (.p c)
  | .a (.one (.ptr m b i j)) => match h[b]? with
    | some (some blk) => if blk.m = m then (blk.rows[i]?).bind fun row => if s.2 then (if j + s.1 ≤ row.length then some (.agg ((row.drop j).take s.1)) else none) else (row[j]?).map .one else none
    | _ => none
  | _ => none
theorem s_load {h H : Heap} {w0 : World} {T : TypeId} {x : AV} {v : Value} {y : A1} (hG : G H w0 ρ w) (hH : ∀ (b : Nat) blk, h[b]? = some (some blk) → H[b]? = some (some blk)) (hx : AR ρ w x v) (hl : loadA P h T x = some y) (k : K (.a y) none) :
    ∃ u w', (Instr.loadAt T v).run P w = .ok u w' ∧ Post ρ w n K u w' := by
  unfold loadA at hl
  cases hs : sizeL P T with
  | none => rw [hs] at hl; cases hl
  | some s =>
    obtain ⟨s, ag⟩ := s
    obtain ⟨i0, d, hi, hsz, hu, hd⟩ := sizeL_parts hs
    rw [hs, Option.bind_some] at hl
    dsimp only at hl
    split at hl
    · rename_i cells
      obtain ⟨⟨g, q, f, rfl, hg, hw, hr⟩, _⟩ := hx
      cases ag with
      | true =>
        simp only [if_true] at hl
        split at hl
        · rename_i hle
          cases hl
          refine ⟨.agg ((List.range s).map f).toArray, w, run_loadAt_mid (P := P) w g q T ((List.range s).map f) d (fun j u hj => ?_) hu hd (by simp [hi, hsz]), Post.val k ⟨_, rfl, by simp; omega, fun j c hj => ?_⟩⟩
          · have hjs : j < s := by have := (List.getElem?_eq_some_iff.1 hj).1; simpa using this
            rw [List.getElem?_map, List.getElem?_range hjs] at hj
            cases hj
            have hjc : j < cells.length := by omega
            exact hw j cells[j] (by simp [hjc])
          · rw [List.getElem?_map] at hj
            cases hv : (cells.take s)[j]? with
            | none => rw [hv] at hj; cases hj
            | some c' =>
              rw [hv] at hj; cases hj
              have hjs : j < s := by have := (List.getElem?_eq_some_iff.1 hv).1; simp at this; omega
              rw [List.getElem?_take_of_lt hjs] at hv
              exact ⟨f j, by simp [hjs], (hr j c' hv).1, (hr j c' hv).2⟩
        · cases hl
      | false =>
        simp only [Bool.false_eq_true, if_false, Option.map_eq_some_iff] at hl
        obtain ⟨c, hc, rfl⟩ := hl
        exact ⟨f 0, w, run_load_one _ _ hu hd (hw 0 c hc), Post.val k ⟨(hr 0 c hc).1, (hr 0 c hc).2⟩⟩
    · rename_i m b i j
      obtain ⟨⟨g, o, hb, rfl⟩, _⟩ := hx
      split at hl
      · rename_i blk hblk
        split at hl
        · rename_i hm
          subst hm
          obtain ⟨c, fr, hc, _, _, hm, hv⟩ := hG.held b blk g o (hH b blk hblk) hb
          cases hrow : blk.rows[i]? with
          | none => rw [hrow] at hl; cases hl
          | some row =>
            rw [hrow, Option.bind_some] at hl
            have hcell : ∀ q u, c[o + (i * blk.m + q)]? = some u → w.cell? ⟨g, o + (i * blk.m + q), none⟩ = some u := fun q u hq => by rw [cell_of_row w g _ c blk.T fr hc]; exact hq
            cases ag with
            | true =>
              simp only [if_true] at hl
              split at hl
              · rename_i hle
                cases hl
                have key : ∀ q, q < s → ∃ u, c[o + (i * blk.m + (j + q))]? = some u ∧ CR ρ w (row.getD (j + q) default) u ∧ u.oneCell' = true := fun q hq => by
                  have hlt : j + q < row.length := by omega
                  obtain ⟨u, h1, h2, h3⟩ := hv i (j + q) row row[j + q] hrow (by simp [hlt])
                  exact ⟨u, h1, by simpa [hlt] using h2, h3⟩
                let f : Nat → Value := fun q => (c[o + (i * blk.m + (j + q))]?).getD undef
                refine ⟨.agg ((List.range s).map f).toArray, w, run_loadAt_mid (P := P) w g _ T ((List.range s).map f) d (fun q u hq => ?_) hu hd (by simp [hi, hsz]), Post.val k ⟨_, rfl, by simp; omega, fun q c' hq => ?_⟩⟩
                · have hqs : q < s := by have := (List.getElem?_eq_some_iff.1 hq).1; simpa using this
                  rw [List.getElem?_map, List.getElem?_range hqs] at hq
                  obtain ⟨u', h1, _⟩ := key q hqs
                  have e : f q = u' := by show (c[o + (i * blk.m + (j + q))]?).getD undef = u'; rw [h1]; rfl
                  rw [Option.map_some, e] at hq
                  have hq' := Option.some.inj hq
                  have := hcell (j + q) u' h1
                  rw [← hq']
                  rw [show o + (i * blk.m + j) + q = o + (i * blk.m + (j + q)) by omega]
                  exact this
                · have hqs : q < s := by have := (List.getElem?_eq_some_iff.1 hq).1; simp at this; omega
                  rw [List.getElem?_take_of_lt hqs, List.getElem?_drop] at hq
                  obtain ⟨u', h1, h2, h3⟩ := hv i (j + q) row c' hrow hq
                  exact ⟨u', by simp [hqs, f, h1], h2, h3⟩
              · cases hl
            | false =>
              simp only [Bool.false_eq_true, if_false, Option.map_eq_some_iff] at hl
              obtain ⟨c', hc', rfl⟩ := hl
              obtain ⟨u, h1, h2, h3⟩ := hv i j row c' hrow hc'
              exact ⟨u, w, run_load_one _ _ hu hd (hcell j u h1), Post.val k ⟨h2, h3⟩⟩
        · cases hl
      · cases hl
    · cases hl
end
end AM
end Go.Proofs.Ytioejbgdhmiiiaa
