/- Rows that a call owns: other blocks. -/
import Derived.Test.YtogiocinhjbdkaaRows2
namespace Go.Proofs.Ytogiocinhjbdkaa
open Go.RowKit
theorem owns_set {W : World} {B size n b j : Nat} {T : TypeId} {v u : Value} {xs : List Value} (h : W.ownsRow B T size v n xs) (hb : b < B) : (W.setCell ⟨b, j, none⟩ u).ownsRow B T size v n xs := by
  obtain ⟨hl, h | ⟨g, cap, cur, hv, hbg, hg, r⟩⟩ := h
  · exact ⟨hl, .inl h⟩
  · exact ⟨hl, .inr ⟨g, cap, cur, hv, hbg, (heap_setCell_other W ⟨b, j, none⟩ g u (by have : b < g := Nat.lt_of_lt_of_le hb hbg; show g ≠ b; omega)).trans hg, r⟩⟩
theorem Box.grown {W W' : World} {g : Nat} {vs : Array Value} {t : TypeId} {row : Option Nat} (h : Box W g vs t) (hg : W.grownBy W' row) (hn : some g ≠ row) : Box W' g vs t := (hg.block g h.lt hn).trans h
theorem own_ne {W : World} {B size n b : Nat} {T : TypeId} {v : Value} {xs : List Value} (h : W.ownsRow B T size v n xs) (hb : b < B) : some b ≠ v.ownBlock := fun e => by have := (h.lt b e.symm).1; omega
theorem base_le {W : World} {B B' size n : Nat} {T : TypeId} {v : Value} {xs : List Value} (h : W.ownsRow B T size v n xs) (hb : B' ≤ B) : W.ownsRow B' T size v n xs := by
  obtain ⟨hl, h | ⟨g, cap, cur, hv, hbg, r⟩⟩ := h
  · exact ⟨hl, .inl h⟩
  · exact ⟨hl, .inr ⟨g, cap, cur, hv, Nat.le_trans hb hbg, r⟩⟩
theorem own_form {W : World} {B size n : Nat} {T : TypeId} {v : Value} {xs : List Value} (h : W.ownsRow B T size v n xs) : ∃ a n c, v = .slice a n c := by
  obtain ⟨_, ⟨rfl, _⟩ | ⟨g, cap, cur, rfl, _⟩⟩ := h <;> exact ⟨_, _, _, rfl⟩
/-- The cells of a list of elements. -/
def flatC {α : Type} (arr : α → Array Value) (l : List α) : List Value := (l.map arr).flatMap (·.toList)
theorem flatC_snoc {α : Type} (arr : α → Array Value) (l : List α) (x : α) : flatC arr l ++ (arr x).toList = flatC arr (l ++ [x]) := by simp [flatC]
theorem flatC_row {α : Type} {arr : α → Array Value} {l : List α} {m n : Nat} {W : World} {B : Nat} {T : TypeId} {v : Value} (h : W.ownsRow B T m v n (flatC arr l)) (hn : n = l.length) (hm : ∀ x, (arr x).size = m) : Row W (Rng B W.heap.size) T m v (l.map arr) :=
  Row.of_own h (by rw [List.length_map]; exact hn) (fun x hx => by
    obtain ⟨y, _, rfl⟩ := List.mem_map.1 hx
    exact hm y)
end Go.Proofs.Ytogiocinhjbdkaa
