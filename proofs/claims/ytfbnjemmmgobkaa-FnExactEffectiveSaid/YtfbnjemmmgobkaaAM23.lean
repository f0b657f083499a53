/- The abstract machine, 23: steps over rows: calls in a frame, appends, elements of symbolic rows. -/
import Derived.Test.YtfbnjemmmgobkaaAM22
namespace Go.Proofs.Ytfbnjemmmgobkaa
open Go.RowKit
set_option linter.unusedVariables false
set_option linter.unusedSimpArgs false
namespace AM
section
variable {P : Program} {N d : Nat} {t t1 : Slots} {h : Heap} {o : Oper} {ops : Array Oper} {r : List Oper} {K : Slots → Heap → Prop}
theorem st_frame {f : FuncId} {args : List Operand} {Ts : Array TypeId} {xs xs1 : List AV} {r1 rr : AV} {h1 h1' h' : Heap} (l : List Nat) (hg : gyes ops t o = some t1) (hd : o.dst = some d) (hN : decide (d < N) = true) (ho : o.op = .call { callee := .value (.func f), args := ⟨args⟩, argTypes := Ts })
    (hE : EffC P h1 f xs1 r1 h1') (ha : omap (evO t1) args = some xs) (hF : ArgsF h l xs xs1) (hm : matchH h l h1) (hnd : decide l.Nodup = true) (hr : r1.ren (kap h.length l) = rr) (hh : frameH h l h1' = h') (k : opsE P ops N r ((d, rr) :: t1) h' K) : opsE P ops N (o :: r) t h K := by
  subst hr; subst hh
  refine st_eff (args := ⟨args⟩) hg hd hN ho ha (eff_mono (hE.frame l hm (of_decide_eq_true hnd) hF) ?_)
  rintro x k' ⟨rfl, rfl⟩
  exact k
/-- Calls of function values. -/
theorem st_clo {i : Nat} {f : FuncId} {c : AV} {cs : List AV} {args : List Operand} {Ts : Array TypeId} {xs : List AV} (hg : gyes ops t o = some t1) (hd : o.dst = some d) (hN : decide (d < N) = true) (ho : o.op = .call { callee := .value (.tmp i), args := ⟨args⟩, argTypes := Ts })
    (hc : get t1 i = some c) (hcl : cloOf c = some (f, cs)) (ha : omap (evO t1) args = some xs) (hx : Eff P h f (xs ++ cs) fun x h' => opsE P ops N r ((d, x) :: t1) h' K) : opsE P ops N (o :: r) t h K := by
  refine ⟨dst_lt hd hN, gyes_E hg ?_⟩
  unfold opE; rw [ho, hd]
  exact ⟨c, hc, _, hcl, xs, ha, hx⟩
theorem st_clo_frame {i : Nat} {f : FuncId} {c : AV} {cs ys : List AV} {args : List Operand} {Ts : Array TypeId} {xs xs1 : List AV} {r1 rr : AV} {h1 h1' h' : Heap} (l : List Nat) (hg : gyes ops t o = some t1) (hd : o.dst = some d) (hN : decide (d < N) = true) (ho : o.op = .call { callee := .value (.tmp i), args := ⟨args⟩, argTypes := Ts })
    (hc : get t1 i = some c) (hcl : cloOf c = some (f, cs)) (hE : EffC P h1 f xs1 r1 h1') (ha : omap (evO t1) args = some xs) (hy : xs ++ cs = ys) (hF : ArgsF h l ys xs1) (hm : matchH h l h1) (hnd : decide l.Nodup = true) (hr : r1.ren (kap h.length l) = rr) (hh : frameH h l h1' = h') (k : opsE P ops N r ((d, rr) :: t1) h' K) : opsE P ops N (o :: r) t h K := by
  subst hr; subst hh; subst hy
  refine st_clo hg hd hN ho hc hcl ha (eff_mono (hE.frame l hm (of_decide_eq_true hnd) hF) ?_)
  rintro x k' ⟨rfl, rfl⟩
  exact k
theorem st_clo_pure {i : Nat} {f : FuncId} {c : AV} {cs ys : List AV} {args : List Operand} {Ts : Array TypeId} {xs : List AV} {y : AV} (hg : gyes ops t o = some t1) (hd : o.dst = some d) (hN : decide (d < N) = true) (ho : o.op = .call { callee := .value (.tmp i), args := ⟨args⟩, argTypes := Ts })
    (hc : get t1 i = some c) (hcl : cloOf c = some (f, cs)) (hp : PureC P h f ys y) (ha : omap (evO t1) args = some xs) (hy : xs ++ cs = ys) (k : opsE P ops N r ((d, y) :: t1) h K) : opsE P ops N (o :: r) t h K := by
  subst hy
  exact st_clo hg hd hN ho hc hcl ha (eff_pure hp k)
/-- What is appended. -/
def SrcF (P : Program) (h : Heap) (m : Nat) (tx : TypeId) (v : AV) (Y : List (List CV)) : Prop := ∀ K : List (List CV) → Prop, K Y → srcE P h m tx v K
theorem src_v {m : Nat} {tx : TypeId} {em : TypeId × Nat} {rows : List (List PV)} (he : elemL P tx = some em) : SrcF P h m tx (one (.p (.view m rows))) (rows.map (·.map .p)) := fun K k => ⟨rfl, em, he, k⟩
theorem src_o {m b s n : Nat} {tx : TypeId} {em : TypeId × Nat} {blk : Blk} {Y : List (List CV)} (he : elemL P tx = some em) (hb : blkOf h b = some blk) (hm : blk.m = m) (hn : s + n ≤ blk.rows.length) (hY : (blk.rows.drop s).take n = Y) : SrcF P h m tx (one (.sl m b s n)) Y := fun K k => ⟨rfl, em, he, blk, hb, hm, hn, by subst hY; exact k⟩
theorem src_n {m : Nat} {tx : TypeId} {em : TypeId × Nat} {a : Option Addr} {c : Nat} (he : elemL P tx = some em) : SrcF P h m tx (V (.slice a 0 c)) [] := fun K k => ⟨em, he, k⟩
theorem src_nl {m : Nat} {tx : TypeId} {em : TypeId × Nat} (he : elemL P tx = some em) : SrcF P h m tx (one .nilsl) [] := fun K k => ⟨em, he, k⟩
theorem src_all {m b n : Nat} {tx : TypeId} {em : TypeId × Nat} {blk : Blk} {Y : List (List CV)} (he : elemL P tx = some em) (hb : blkOf h b = some blk) (hm : blk.m = m) (hY : blk.rows = Y) (hn : n = Y.length) : SrcF P h m tx (one (.sl m b 0 n)) Y := by
  subst hY; subst hn
  exact src_o he hb hm (by omega) (by rw [List.drop_zero, List.take_length])
theorem st_app {S X : Operand} {T tx e : TypeId} {m b n n' by_ : Nat} {xv : AV} {z : List Value} {Y R : List (List CV)} {blk : Blk} {h' : Heap} (hg : gyes ops t o = some t1) (hd : o.dst = some d) (hN : decide (d < N) = true) (ho : o.op = .call { callee := .builtin .append, args := #[S, X], argTypes := #[T, tx] })
    (hs : evO t1 S = some (one (.sl m b 0 n))) (hx : evO t1 X = some xv) (he : elemL P T = some (e, m)) (hz : zeroL P e = some z) (hb : bytesL P e = some by_) (hzm : z.length = m) (hm : decide (0 < m) = true) (hY : SrcF P h m tx xv Y) (hk : blkOf h b = some blk) (hT : blk.T = e) (hbm : blk.m = m) (hn : n = blk.rows.length)
    (hn' : n + Y.length = n') (hb1 : n' * by_ ≤ 140737488355328) (hb2 : n' ≤ 4611686018427387904) (hR : blk.rows ++ Y = R) (hh : kill h b ++ [some ⟨e, m, R⟩] = h') (k : opsE P ops N r ((d, one (.sl m h.length 0 n')) :: t1) h' K) : opsE P ops N (o :: r) t h K := by
  refine ⟨dst_lt hd hN, gyes_E hg ?_⟩
  subst hh; subst hR; subst hn'
  unfold opE; rw [ho, hd]
  refine ⟨_, hs, _, hx, _, he, z, hz, by_, hb, hzm, of_decide_eq_true hm, hY _ ⟨rfl, blk, hk, hT, hbm, by omega, hb1, hb2, ?_⟩⟩
  rw [hd, List.drop_zero, hn, List.take_length]
  subst hn
  exact k
theorem st_app_nl {S X : Operand} {T tx e : TypeId} {m n' by_ : Nat} {xv : AV} {z : List Value} {Y R : List (List CV)} {h' : Heap} (hg : gyes ops t o = some t1) (hd : o.dst = some d) (hN : decide (d < N) = true) (ho : o.op = .call { callee := .builtin .append, args := #[S, X], argTypes := #[T, tx] })
    (hs : evO t1 S = some (one .nilsl)) (hx : evO t1 X = some xv) (he : elemL P T = some (e, m)) (hz : zeroL P e = some z) (hb : bytesL P e = some by_) (hzm : z.length = m) (hm : decide (0 < m) = true) (hY : SrcF P h m tx xv Y)
    (hn' : Y.length = n') (hb1 : n' * by_ ≤ 140737488355328) (hb2 : n' ≤ 4611686018427387904) (hh : h ++ [some ⟨e, m, Y⟩] = h') (k : opsE P ops N r ((d, one (.sl m h.length 0 n')) :: t1) h' K) : opsE P ops N (o :: r) t h K := by
  refine ⟨dst_lt hd hN, gyes_E hg ?_⟩
  subst hh; subst hn'
  unfold opE; rw [ho, hd]
  exact ⟨_, hs, _, hx, _, he, z, hz, by_, hb, hzm, of_decide_eq_true hm, hY _ ⟨hb1, hb2, by rw [hd]; exact k⟩⟩
theorem st_app_n {S X : Operand} {T tx e : TypeId} {m n' by_ : Nat} {a : Option Addr} {xv : AV} {z : List Value} {Y R : List (List CV)} {h' : Heap} (hg : gyes ops t o = some t1) (hd : o.dst = some d) (hN : decide (d < N) = true) (ho : o.op = .call { callee := .builtin .append, args := #[S, X], argTypes := #[T, tx] })
    (hs : evO t1 S = some (V (.slice a 0 0))) (hx : evO t1 X = some xv) (he : elemL P T = some (e, m)) (hz : zeroL P e = some z) (hb : bytesL P e = some by_) (hzm : z.length = m) (hm : decide (0 < m) = true) (hY : SrcF P h m tx xv Y)
    (hn' : Y.length = n') (hb1 : n' * by_ ≤ 140737488355328) (hb2 : n' ≤ 4611686018427387904) (hh : h ++ [some ⟨e, m, Y⟩] = h') (k : opsE P ops N r ((d, one (.sl m h.length 0 n')) :: t1) h' K) : opsE P ops N (o :: r) t h K := by
  refine ⟨dst_lt hd hN, gyes_E hg ?_⟩
  subst hh; subst hn'
  unfold opE; rw [ho, hd]
  exact ⟨_, hs, _, hx, _, he, z, hz, by_, hb, hzm, of_decide_eq_true hm, hY _ ⟨hb1, hb2, by rw [hd]; exact k⟩⟩
/-- A store whose row and outcome are given. -/
theorem st_store' {T : TypeId} {X Y : Operand} {m bn i j sz : Nat} {ag : Bool} {v : AV} {cs row : List CV} {blk : Blk} {out : List CV} {rows' : List (List CV)} {h' : Heap} (hg : gyes ops t o = some t1) (hd : o.dst = none) (ho : o.op = .store T X Y) (hx : evO t1 X = some (one (.ptr m bn i j))) (hy : evO t1 Y = some v) (hc : cellsA v = some cs) (hs : sizeL P T = some (sz, ag))
    (hb : blkOf h bn = some blk) (hr : blk.rows[i]? = some row) (hm : blk.m = m) (hl : cs.length = sz) (hj : j + sz ≤ row.length) (ho2 : over row j cs = out) (hrw : blk.rows.set i out = rows') (hh : h.set bn (some ⟨blk.T, blk.m, rows'⟩) = h') (k : opsE P ops N r t1 h' K) : opsE P ops N (o :: r) t h K := by
  subst hrw
  exact st_store hg hd ho hx hy hc hs hb hr hm hl hj ho2 hh k
end
section
variable {P : Program} {t : Slots} {h : Heap} {n : Nat} {o : Oper} {K : AV → Option Blk → Prop}
theorem f_len_map {α : Type} {T : TypeId} {X : Operand} {em : TypeId × Nat} {m : Nat} {f : α → List PV} {L : List α} (ho : o.op = .call { callee := .builtin .len, args := #[X], argTypes := #[T] }) (hx : evO t X = some (one (.p (.view m (L.map f))))) (he : elemL P T = some em) (k : K (I L.length) none) : opF P t h n o K :=
  f_len_view ho hx he (by rw [List.length_map]; exact k)
theorem f_len_map' {T : TypeId} {X : Operand} {em : TypeId × Nat} {m k : Nat} {rows : List (List PV)} (ho : o.op = .call { callee := .builtin .len, args := #[X], argTypes := #[T] }) (hx : evO t X = some (one (.p (.view m rows)))) (he : elemL P T = some em) (hk : rows.length = k) (q : K (I k) none) : opF P t h n o K :=
  f_len_view ho hx he (by rw [hk]; exact q)
theorem f_idx_map {α : Type} {T e : TypeId} {X Y : Operand} {m : Nat} {f : α → List PV} {L : List α} {p : α} {ki : IntKind} {i : Int} {k : Nat} (ho : o.op = .indexAddr T X Y) (hx : evO t X = some (one (.p (.view m (L.map f))))) (hy : evI t Y = some (ki, i)) (he : elemL P T = some (e, m)) (hi : i = k) (hp : L[k]? = some p) (q : K (one (.vp (f p))) none) : opF P t h n o K := by
  subst hi
  exact f_index_view ho hx hy he (by omega) (by simp [hp]) q
theorem f_load_own {T : TypeId} {X : Operand} {m b i j : Nat} {blk : Blk} {row : List CV} {y : A1} {s : Nat × Bool} (ho : o.op = .load T X) (hx : evO t X = some (one (.ptr m b i j))) (hs : sizeL P T = some s) (hb : blkOf h b = some blk) (hm : blk.m = m) (hr : blk.rows[i]? = some row)
    (hl : (if s.2 then (if j + s.1 ≤ row.length then some (A1.agg ((row.drop j).take s.1)) else none) else (row[j]?).map A1.one) = some y) (k : K (.a y) none) : opF P t h n o K := by
  refine f_load' ho hx hs ?_ k
  have hb' := blkOf_at hb
  subst hm
  unfold loadB
  simp only [hb', hr, if_true, Option.bind_some]
  exact hl
theorem f_idx_own {T e : TypeId} {X Y : Operand} {m b len : Nat} {ki : IntKind} {i : Int} {k : Nat} (ho : o.op = .indexAddr T X Y) (hx : evO t X = some (one (.sl m b 0 len))) (hy : evI t Y = some (ki, i)) (he : elemL P T = some (e, m)) (hi : i = k) (hk : k < len) (q : K (one (.ptr m b k 0)) none) : opF P t h n o K := by
  subst hi
  exact f_index_own ho hx hy he (by omega) (by omega) (by simpa using q)
end
/-! ### Symbolic rows -/
def plainR (rows : List (List CV)) : Prop := ∀ row ∈ rows, ∀ c ∈ row, plainC c = true
theorem plainR_B {T : TypeId} {m : Nat} {rows : List (List CV)} (h : plainR rows) : PlainB ⟨T, m, rows⟩ := h
theorem plainR_nil : plainR [] := fun row hr => by simp at hr
theorem plainR_map {α : Type} {f : α → List CV} {l : List α} (hf : ∀ x, (f x).all plainC = true) : plainR (l.map f) := plain_map (T := 0) (m := 0) l hf
theorem plainR_append {a b : List (List CV)} (ha : plainR a) (hb : plainR b) : plainR (a ++ b) := fun row hr => by
  rcases List.mem_append.1 hr with h | h
  · exact ha row h
  · exact hb row h
theorem plainR_cons {a : List CV} {b : List (List CV)} (ha : a.all plainC = true) (hb : plainR b) : plainR (a :: b) := fun row hr => by
  rcases List.mem_cons.1 hr with h | h
  · subst h; exact List.all_eq_true.1 ha
  · exact hb row h
theorem plainR_rep {a : List CV} {n : Nat} (ha : a.all plainC = true) : plainR (List.replicate n a) := fun row hr => by
  rw [(List.mem_replicate.1 hr).2]; exact List.all_eq_true.1 ha
section
variable {P : Program} {h : Heap} {fr : Bool}
theorem exp_rows {α : Type} {L : List α} {cells : α → List CV} {pv : α → List PV} {T : TypeId} {m b n : Nat} (hb : h[b]? = some (some ⟨T, m, L.map cells⟩)) (hn : n = L.length) (hc : ∀ x, cells x = (pv x).map .p) (hf : ∀ x, ((pv x).all fun | .val _ => true | _ => false) = true) : ExpC fr h (.sl m b 0 n) (.p (.view m (L.map pv))) := by
  subst hn
  refine .sl m b 0 L.length T _ _ hb ?_ (by simp) ?_
  · rw [List.drop_zero, List.take_of_length_le (by simp), List.map_map]
    exact List.map_congr_left fun x _ => hc x
  · intro _ row hr x hx
    obtain ⟨y, _, rfl⟩ := List.mem_map.1 hr
    have := List.all_eq_true.1 (hf y) x hx
    cases x with
    | val => trivial
    | view => cases this
/-- The middle row of three parts. -/
theorem mid_at {A B : List (List CV)} {row : List CV} {i : Nat} (hA : A.length = i) : (A ++ row :: B)[i]? = some row := by subst hA; simp
theorem mid_set {A B : List (List CV)} {row out : List CV} {i : Nat} (hA : A.length = i) : (A ++ row :: B).set i out = A ++ out :: B := by subst hA; simp
end
theorem over_mid : ∀ (l pre cs : List CV), cs.length = l.length → over (pre ++ cs) pre.length l = pre ++ l
  | [], pre, cs, h => by
    have : cs = [] := List.length_eq_zero_iff.1 h
    subst this
    rfl
  | c :: r, pre, [], h => by simp at h
  | c :: r, pre, x :: cs, h => by
    unfold over
    have e := over_mid r (pre ++ [c]) cs (by simpa using h)
    simp only [List.length_append, List.length_cons, List.length_nil, Nat.zero_add, List.append_assoc, List.cons_append, List.nil_append] at e
    rw [show (pre ++ x :: cs).set pre.length c = pre ++ c :: cs by simp]
    exact e
theorem over_whole {l cs : List CV} (h : cs.length = l.length) : over cs 0 l = l := over_mid l [] cs h
section
variable {P : Program} {t : Slots} {h : Heap} {n : Nat} {o : Oper} {K : AV → Option Blk → Prop}
theorem f_mkfun {f : FuncId} {caps : List Operand} {cs : List Cap} (ho : o.op = .makeFunc (.func f) #[] ⟨caps⟩) (hc : omap (fun x => (evO t x).bind capOf) caps = some cs) (k : K (one (.clo f cs)) none) : opF P t h n o K := by
  unfold opF; rw [ho]
  exact ⟨rfl, cs, hc, k⟩
theorem f_bs0 {T : TypeId} {em : TypeId × Nat} (ho : o.op = .buildSlice T 0 #[]) (he : elemL P T = some em) (k : K (one .nilsl) none) : opF P t h n o K := by
  unfold opF; rw [ho]
  show if 0 = 0 then _ else _
  rw [if_pos rfl]
  exact ⟨rfl, em, he, k⟩
theorem f_bs1 {T e : TypeId} {X : Operand} {m : Nat} {v : AV} {cs : List CV} {z : List Value} (ho : o.op = .buildSlice T 1 #[(0, X)]) (hx : evO t X = some v) (hc : cellsA v = some cs) (he : elemL P T = some (e, m)) (hz : zeroL P e = some z) (hzm : z.length = m) (hl : cs.length = m) (hm : decide (0 < m) = true) (hM : decide (m ≤ 16777216) = true)
    (k : K (one (.sl m n 0 1)) (some ⟨e, m, [cs]⟩)) : opF P t h n o K := by
  have h0 := of_decide_eq_true hm
  have h1 := of_decide_eq_true hM
  unfold opF; rw [ho]
  show if 1 = 0 then _ else _
  rw [if_neg (by omega)]
  refine ⟨_, he, z, hz, hzm, by dsimp only; omega, by dsimp only; omega, [(0, cs)], ?_, cs, ?_, ?_⟩
  · unfold partsA
    simp only [omap, hx, hc, Option.bind_some, Option.map_some]
  · have e1 : ((List.replicate 1 (z.map fun v => CV.p (.val v))).flatten).length = cs.length := by simp [hzm, hl]
    unfold fillA
    simp only [Nat.zero_mul, fillA]
    rw [if_pos ⟨hl, by omega⟩, over_whole e1]
  · unfold chunk chunk
    dsimp only
    rw [show cs.take m = cs by rw [← hl, List.take_length]]
    exact k
theorem f_mk {T e : TypeId} {X Y : Operand} {m by_ nl : Nat} {z : List Value} {zc : List CV} {kl kc : IntKind} {l c : Int} (ho : o.op = .makeSlice T X Y) (hx : evI t X = some (kl, l)) (hy : evI t Y = some (kc, c)) (he : elemL P T = some (e, m)) (hz : zeroL P e = some z) (hb : bytesL P e = some by_) (hzm : z.length = m) (hzc : z.map (fun v => CV.p (.val v)) = zc) (hm : decide (0 < m) = true) (h0 : l = (nl : Int)) (h1 : c = l) (h2 : nl * by_ ≤ 281474976710656) (h3 : nl ≤ 9223372036854775807)
    (k : K (one (.sl m n 0 nl)) (some ⟨e, m, List.replicate nl zc⟩)) : opF P t h n o K := by
  subst hzc; subst h1; subst h0
  have h4 := of_decide_eq_true hm
  have h5 : (by_ : Int) * (nl : Int) ≤ 281474976710656 := by rw [Int.mul_comm]; exact Int.ofNat_le.2 h2
  exact f_make ho hx hy he hz hb hzm (by omega) (by omega) (Int.le_refl _) h5 (by omega) k
end
end AM
end Go.Proofs.Ytfbnjemmmgobkaa
