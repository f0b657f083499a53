/- Deliver: all ways in one. -/
import Derived.Test.YtbidaccdjnbhfaaAMDel3
import Derived.Test.YtbidaccdjnbhfaaAMDel3b
import Derived.Test.YtbidaccdjnbhfaaAMDel3c
namespace Go.Proofs.Ytbidaccdjnbhfaa
open Go.RowKit AM
set_option linter.unusedVariables false
set_option linter.unusedSimpArgs false

def modAt {α : Type} (f : α → α) : Nat → List α → List α
  | _, [] => []
  | 0, x :: r => f x :: r
  | n + 1, x :: r => x :: modAt f n r
theorem modAt_mid {α : Type} (f : α → α) (e : α) (B : List α) : ∀ A : List α, modAt f A.length (A ++ e :: B) = A ++ f e :: B
  | [] => rfl
  | x :: r => by simp [modAt, modAt_mid f e B r]
def deliverM (S : List StreamM) (p : PktM) : List StreamM :=
  if p.SuperOk then (if idxI (fun s : StreamM => feq s.xFlow p.flow) S = -1 then (if p.seg.kind = 17 then S ++ [(newU p).udp p.seg] else if bits .and .i64 p.seg.flags 2 ≠ 0 then S ++ [newT p] else S) else modAt (fun e => e.step p.seg) (idxI (fun s : StreamM => feq s.xFlow p.flow) S).toNat S) else S
theorem idx_split {α : Type} (q : α → Bool) (S : List α) : idxI q S = -1 ∨ ∃ A e B, S = A ++ e :: B ∧ idxI q S = (A.length : Int) := by
  rcases idxI_at q S with ⟨h, _⟩ | ⟨k, e, h1, h2, _⟩
  · exact .inl h
  · refine .inr ⟨S.take k, e, S.drop (k + 1), ?_, ?_⟩
    · obtain ⟨hk, hx⟩ := List.getElem?_eq_some_iff.1 h2
      conv => lhs; rw [← List.take_append_drop k S]
      rw [List.drop_eq_getElem_cons hk, hx]
    · obtain ⟨hk, _⟩ := List.getElem?_eq_some_iff.1 h2
      rw [List.length_take, h1]; omega
theorem del_cases (S : List StreamM) (p : PktM) :
    (¬ p.SuperOk ∧ deliverM S p = S) ∨ (p.SuperOk ∧ idxI (fun s : StreamM => feq s.xFlow p.flow) S = -1 ∧ p.seg.kind = 17 ∧ deliverM S p = S ++ [(newU p).udp p.seg]) ∨
    (p.SuperOk ∧ idxI (fun s : StreamM => feq s.xFlow p.flow) S = -1 ∧ p.seg.kind = 6 ∧ bits .and .i64 p.seg.flags 2 ≠ 0 ∧ deliverM S p = S ++ [newT p]) ∨
    (p.SuperOk ∧ idxI (fun s : StreamM => feq s.xFlow p.flow) S = -1 ∧ p.seg.kind = 6 ∧ bits .and .i64 p.seg.flags 2 = 0 ∧ deliverM S p = S) ∨
    ∃ A e B, S = A ++ e :: B ∧ p.SuperOk ∧ idxI (fun s : StreamM => feq s.xFlow p.flow) (A ++ e :: B) = (A.length : Int) ∧ deliverM (A ++ e :: B) p = A ++ e.step p.seg :: B := by
  by_cases hs : p.SuperOk
  · have hf := superok_flags hs
    rcases idx_split (fun s : StreamM => feq s.xFlow p.flow) S with hk | ⟨A, e, B, rfl, hk⟩
    · by_cases h6 : p.seg.kind = 17
      · exact .inr (.inl ⟨hs, hk, h6, by unfold deliverM; rw [if_pos hs, if_pos hk, if_pos h6]⟩)
      · have h66 : p.seg.kind = 6 := by omega
        by_cases hy : bits .and .i64 p.seg.flags 2 = 0
        · exact .inr (.inr (.inr (.inl ⟨hs, hk, h66, hy, by unfold deliverM; rw [if_pos hs, if_pos hk, if_neg h6, if_neg (fun h => h hy)]⟩)))
        · exact .inr (.inr (.inl ⟨hs, hk, h66, hy, by unfold deliverM; rw [if_pos hs, if_pos hk, if_neg h6, if_pos hy]⟩))
    · refine .inr (.inr (.inr (.inr ⟨A, e, B, rfl, hs, hk, ?_⟩)))
      unfold deliverM
      rw [if_pos hs, if_neg (by rw [hk]; omega), hk, Int.toNat_natCast, modAt_mid]
  · exact .inl ⟨hs, if_neg hs⟩
theorem step_cases (e : StreamM) (g : SegM) (hg : g.kind = 17 ∨ g.kind = 6) :
    (g.kind = 17 ∧ e.step g = e.udp g) ∨ (g.kind = 6 ∧ bits .and .i64 g.flags 2 ≠ 0 ∧ e.step g = e) ∨ (g.kind = 6 ∧ bits .and .i64 g.flags 2 = 0 ∧ (e.xDone = true ∨ bits .and .i64 g.flags 4 ≠ 0) ∧ e.step g = e) ∨
    (g.kind = 6 ∧ bits .and .i64 g.flags 2 = 0 ∧ (e.xDone = false ∧ bits .and .i64 g.flags 4 = 0) ∧ ¬ e.off g ≤ g.body.size ∧ e.step g = e) ∨
    (g.kind = 6 ∧ bits .and .i64 g.flags 2 = 0 ∧ (e.xDone = false ∧ bits .and .i64 g.flags 4 = 0) ∧ e.off g ≤ g.body.size ∧ e.step g = e.tcp g) := by
  by_cases h : g.kind = 17
  · exact .inl ⟨h, if_pos h⟩
  · have h6 : g.kind = 6 := by omega
    by_cases hy : bits .and .i64 g.flags 2 = 0
    · by_cases hz : e.xDone = true ∨ bits .and .i64 g.flags 4 ≠ 0
      · exact .inr (.inr (.inl ⟨h6, hy, hz, by unfold StreamM.step; rw [if_neg h, if_neg (fun hh => hh hy), if_pos hz]⟩))
      · have hz' : e.xDone = false ∧ bits .and .i64 g.flags 4 = 0 := by
          refine ⟨?_, ?_⟩
          · cases hd : e.xDone with
            | true => exact absurd (Or.inl hd) hz
            | false => rfl
          · exact Decidable.byContradiction fun hh => hz (Or.inr hh)
        by_cases ho : e.off g ≤ g.body.size
        · exact .inr (.inr (.inr (.inr ⟨h6, hy, hz', ho, by unfold StreamM.step; rw [if_neg h, if_neg (fun hh => hh hy), if_neg hz, if_pos ho]⟩)))
        · exact .inr (.inr (.inr (.inl ⟨h6, hy, hz', ho, by unfold StreamM.step; rw [if_neg h, if_neg (fun hh => hh hy), if_neg hz, if_neg ho]⟩)))
    · exact .inr (.inl ⟨h6, hy, by unfold StreamM.step; rw [if_neg h, if_pos hy]⟩)
theorem step_bd {e : StreamM} {g : SegM} {b : Nat} (hb : g.body.size ≤ 320) (he : e.xData.size ≤ b) : (e.step g).xData.size ≤ b + 400 := by
  unfold StreamM.step
  have h2 : (w16 g.body.size).size = 2 := rfl
  have hx : (g.body.extract (e.off g).toNat g.body.size).size ≤ 320 := by rw [ByteArray.size_extract]; omega
  split
  · show (e.xData ++ (w16 g.body.size ++ g.body)).size ≤ _
    rw [ByteArray.size_append, ByteArray.size_append]; omega
  · split
    · omega
    · split
      · omega
      · split
        · show (e.xData ++ g.body.extract (e.off g).toNat g.body.size).size ≤ _
          rw [ByteArray.size_append]; omega
        · omega
theorem del_bd {S : List StreamM} {p : PktM} {b : Nat} (h : ∀ e ∈ S, e.xData.size ≤ b) : (∀ e ∈ deliverM S p, e.xData.size ≤ b + 400) ∧ (deliverM S p).length ≤ S.length + 1 := by
  rcases del_cases S p with ⟨_, h1⟩ | ⟨hs, _, _, h1⟩ | ⟨_, _, _, _, h1⟩ | ⟨_, _, _, _, h1⟩ | ⟨A, e, B, rfl, hs, _, h1⟩
  · rw [h1]; exact ⟨fun e he => by have := h e he; omega, by omega⟩
  · rw [h1]
    refine ⟨fun e he => ?_, by simp⟩
    rcases List.mem_append.1 he with he | he
    · have := h e he; omega
    · rw [List.mem_singleton.1 he]
      have hb := (superok_lin hs).2.2
      have h2 : (w16 p.seg.body.size).size = 2 := rfl
      show (ByteArray.empty ++ (w16 p.seg.body.size ++ p.seg.body)).size ≤ _
      rw [ByteArray.size_append, ByteArray.size_append, h2]
      have h3 : ByteArray.empty.size = 0 := rfl
      omega
  · rw [h1]
    refine ⟨fun e he => ?_, by simp⟩
    rcases List.mem_append.1 he with he | he
    · have := h e he; omega
    · rw [List.mem_singleton.1 he]; exact Nat.zero_le _
  · rw [h1]; exact ⟨fun e he => by have := h e he; omega, by omega⟩
  · rw [h1]
    refine ⟨fun x hx => ?_, by simp⟩
    rcases List.mem_append.1 hx with hx | hx
    · have := h x (by simp [hx]); omega
    · rcases List.mem_cons.1 hx with rfl | hx
      · exact step_bd (superok_lin hs).2.2 (h e (by simp))
      · have := h x (by simp [hx]); omega
set_option maxRecDepth 100000 in
theorem ar1 {a b n : Nat} (h : a ≤ b + 400 * n + 400) : a ≤ b + 400 * (n + 1) := by omega
set_option maxRecDepth 100000 in
theorem ar2 {a b n k : Nat} (h : a ≤ b + 400 * (n + 1 + k)) : a ≤ b + 400 * (n + (k + 1)) := by omega
theorem ar3 {a b c k : Nat} (h : a ≤ b + k) (h2 : b ≤ c + 1) : a ≤ c + (k + 1) := by omega
def delL (l : List StreamM) (ps : List PktM) : List StreamM := ps.foldl deliverM l
theorem delL_take (l : List StreamM) (ps : List PktM) (i : Nat) (p : PktM) (he : ps[i]? = some p) : delL l (ps.take (i + 1)) = deliverM (delL l (ps.take i)) p := by
  unfold delL
  rw [List.take_add_one, he, List.foldl_append]
  rfl
set_option maxRecDepth 100000 in
theorem delL_bd {b : Nat} : ∀ (ps : List PktM) (l : List StreamM) (n : Nat), (∀ e ∈ l, e.xData.size ≤ b + 400 * n) → (∀ e ∈ delL l ps, e.xData.size ≤ b + 400 * (n + ps.length)) ∧ (delL l ps).length ≤ l.length + ps.length
  | [], l, n, h => ⟨by simpa [delL] using h, by simp [delL]⟩
  | p :: r, l, n, h => by
    have h1 := del_bd (p := p) h
    have h0 : ∀ e ∈ deliverM l p, e.xData.size ≤ b + 400 * (n + 1) := fun e he => ar1 (h1.1 e he)
    have h2 := delL_bd (b := b) r (deliverM l p) (n + 1) h0
    have h3 : delL l (p :: r) = delL (deliverM l p) r := rfl
    rw [h3]
    refine ⟨fun e he => ?_, ?_⟩
    · exact ar2 (h2.1 e he)
    · exact ar3 h2.2 h1.2

theorem efc_spec_Deliver (S : List StreamM) (p : PktM) (hn : S.length ≤ 1099511627776) (hd : ∀ e ∈ S, e.xData.size ≤ 4611686018427387904) : EffC Try.prog [] 49 [one (.p (.view 8 ((S).map StreamM.pv))), .a (.agg [cI (p.dmac), cI (p.smac), cI (p.vlan), cI (p.tos), cI (p.id), cI (p.ttl), cI (p.sip), cI (p.dip), cI (p.seg.kind), cI (p.seg.sport), cI (p.seg.dport), cI (p.seg.seq), cI (p.seg.ack), cI (p.seg.flags), cI (p.seg.window), cS (p.seg.body)])] (one (.sl 8 0 0 (deliverM S p).length)) [some ⟨98, 8, (deliverM S p).map StreamM.cs⟩] := by
  rcases del_cases S p with ⟨hs, h1⟩ | ⟨hs, hk, h6, h1⟩ | ⟨hs, hk, h6, hy, h1⟩ | ⟨hs, hk, h6, hy, h1⟩ | ⟨A, e, B, rfl, hs, hk, h1⟩
  · rw [h1]; exact efc_spec_Deliver_c1 S p hn hs
  · rw [h1]; exact efc_spec_Deliver_c2 S p hs hn hk h6
  · rw [h1]; exact efc_spec_Deliver_c3 S p hs hn hk h6 hy
  · rw [h1]; exact efc_spec_Deliver_c4 S p hs hn hk h6 hy
  · rw [h1]
    have hde := hd e (by simp)
    rcases step_cases e p.seg (superok_flags hs).1 with ⟨h6, h2⟩ | ⟨h6, hy, h2⟩ | ⟨h6, hy, hz, h2⟩ | ⟨h6, hy, hz, ho, h2⟩ | ⟨h6, hy, hz, ho, h2⟩
    · rw [h2]; exact efc_spec_Deliver_c5 A B e p hs hn hk hde h6
    · rw [h2]; exact efc_spec_Deliver_c6 A B e p hs hn hk hde h6 hy
    · rw [h2]; exact efc_spec_Deliver_c7 A B e p hs hn hk hde h6 hy hz
    · rw [h2]; exact efc_spec_Deliver_c8 A B e p hs hn hk hde h6 hy hz ho
    · rw [h2]; exact efc_spec_Deliver_c9 A B e p hs hn hk hde h6 hy hz ho
end Go.Proofs.Ytbidaccdjnbhfaa
