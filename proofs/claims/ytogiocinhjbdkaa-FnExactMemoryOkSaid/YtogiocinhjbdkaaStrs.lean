/- Slices of strings that a call owns: comparing, marking and looking for the marks. -/
import Derived.Test.YtogiocinhjbdkaaStrsOwn
import Derived.Test.YtogiocinhjbdkaaFormatMath
import Derived.Deep.QuietTactic
import Derived.BigQuiet
namespace Go.Proofs.Ytogiocinhjbdkaa
open Go.RowKit

theorem eq_same (l : List ByteArray) (B1 B2 : Nat) (v1 v2 : Value) (w : World) (h1 : Own w B1 v1 l) (h2 : Own w B2 v2 l) (hl : l.length ≤ 1000000) :
    Calls Try.prog 138 #[v1, v2] w fun e w' => e = .returned (.bool true) ∧ Below w.heap.size w w' := by
  obtain ⟨A1, c1, rfl, f1⟩ := h1.form
  obtain ⟨A2, c2, rfl, f2⟩ := h2.form
  have H1 := Lib.hid h1
  have H2 := Lib.hid h2
  have F1 := Lib.hid f1
  have F2 := Lib.hid f2
  clear h1 h2 f1 f2
  obtain ⟨n, hn⟩ : ∃ n, n = l.length := ⟨_, rfl⟩
  rw [← hn] at hl ⊢
  have HN := Lib.hid hn
  clear hn
  go_enter Try.func138, Try.ntmps138
  go_wp2
  go_loopw [5] (fun i wr => ∃ k : Nat, k ≤ n ∧ i = .int .i64 k ∧ ∃ q, wr = w.drewN q) (fun i _ => n - (intOf i).toNat)
  case atStart => exact ⟨0, Nat.zero_le _, rfl, 0, rfl⟩
  case round =>
    obtain ⟨k, hk, rfl, q, rfl⟩ := hrel
    by_cases hlt : k < n
    · obtain ⟨g1, rfl, _, _⟩ := F1.out (by have := HN.out; omega)
      obtain ⟨g2, rfl, _, _⟩ := F2.out (by have := HN.out; omega)
      have hk' : k < l.length := by have := HN.out; omega
      have x1 := H1.out.cell k hk'
      have x2 := H2.out.cell k hk'
      generalize l[k] = x at x1 x2
      go_wp2_with fail
      go_quiet (fail)
      go_wp2
      go_roundw
      case rel => exact ⟨k + 1, by omega, by go_num, _, rfl⟩
      case measure => simp [intOf]; omega
    · go_wp2
      go_ret
      exact ⟨rfl, below_drewN (Below.refl _ _) _⟩

/-- The mark of number k. -/
def mT (k : Nat) : ByteArray := ⟨#[109]⟩ ++ ⟨(decD k).toArray⟩

/-- The marks from number k on. -/
def marks (k : Nat) : Nat → List ByteArray
  | 0 => []
  | n + 1 => marks k n ++ [mT (k + n)]
theorem marks_length (k n : Nat) : (marks k n).length = n := by induction n with
  | zero => rfl
  | succ n ih => simp [marks, ih]
theorem marks_at (k n j : Nat) (h : j < n) : (marks k n)[j]? = some (mT (k + j)) := by
  induction n with
  | zero => omega
  | succ n ih =>
    rw [marks]
    by_cases hj : j < n
    · rw [List.getElem?_append_left (by rw [marks_length]; exact hj)]; exact ih hj
    · obtain rfl : j = n := by omega
      rw [List.getElem?_append_right (by rw [marks_length]; exact Nat.le_refl _), marks_length]; simp
/-- The first k elements marked, the rest as they were. -/
def markTo (q : Nat) (l : List ByteArray) (k : Nat) : List ByteArray := marks q k ++ l.drop k
theorem markTo_length (q : Nat) (l : List ByteArray) (k : Nat) (h : k ≤ l.length) : (markTo q l k).length = l.length := by simp [markTo, marks_length]; omega
theorem markTo_set (q : Nat) (l : List ByteArray) (k : Nat) (h : k < l.length) : (markTo q l k).set k (mT (q + k)) = markTo q l (k + 1) := by
  unfold markTo
  have hd : (l.drop k).set 0 (mT (q + k)) = mT (q + k) :: l.drop (k + 1) := by rw [List.drop_eq_getElem_cons h]; rfl
  rw [List.set_append_right _ _ (by rw [marks_length]; exact Nat.le_refl _), marks_length, Nat.sub_self, marks, hd]
  simp
theorem markTo_all (q : Nat) (l : List ByteArray) : markTo q l l.length = marks q l.length := by simp [markTo]

end Go.Proofs.Ytogiocinhjbdkaa
