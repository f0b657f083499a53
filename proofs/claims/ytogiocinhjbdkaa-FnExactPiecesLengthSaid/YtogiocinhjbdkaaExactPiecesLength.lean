/- At every argument PiecesLength answers as the model does, and writes into no argument: the law FnExactPiecesLength returns true for every input, and its arguments read as before. No condition. -/
import Derived.Test.YtogiocinhjbdkaaPiecesLenB
import Derived.Test.YtogiocinhjbdkaaRowToPiece
import Derived.Test.YtogiocinhjbdkaaRowPieceEq
import Derived.Test.YtogiocinhjbdkaaRowPieceMark
import Derived.Deep.DeepCutAuto
import Derived.StillTailTactics
import Derived.OpenShut
import Derived.ShutString
import Derived.ChangeOld
namespace Go.Proofs.Ytogiocinhjbdkaa.fnExactPiecesLength
open Go.ChangeShapes Go.WideShapes Go.ChangeAt Go.RowKit
open Go.ChangeMaps (open_string shut_string)
set_option linter.unusedVariables false

theorem own : ownKnob Try.prog.godebug = none := by kernel_rfl
theorem laidOut : laidOutB Try.prog = true := by kernel_rfl

set_option linter.unusedSimpArgs false
set_option maxHeartbeats 8000000 in
set_option maxRecDepth 100000 in
theorem walk (w : World) (x0 : Option Addr) (p0 : Nat) (l0 : List PieceM) (E0 : EltsL w x0 2 (l0.map PieceM.arr)) (m0 : l0.length ≤ maxLen) (w0 : ∀ z ∈ l0, z.Wf) :
    Calls Try.prog 4 #[.slice x0 l0.length p0] w fun e w' => e = .returned (.bool true) ∧ Below w.heap.size w w' := by
  have HE0 := Lib.hid E0
  clear E0
  obtain ⟨z0, hz0⟩ : ∃ z, z = PieceM.szL l0 := ⟨_, rfl⟩
  by_cases hs0 : 1048576 < (z0 : Int)
  · have hq : 1048576 - (z0 : Int) < 0 := by omega
    have HZ0 := Lib.hid (fun (W : World) (h : EltsL W x0 2 (l0.map PieceM.arr)) => sz_pieces x0 p0 l0 (1048576) W (by have := m0; unfold maxLen at this; omega) (by omega) h)
    rw [← hz0] at HZ0
    simp only [if_pos hs0] at HZ0
    clear hz0
    go_enter Try.func4, Try.ntmps4
    go_wp2_with fail
    refine (HZ0.out _ (HE0.out.below (B := w.heap.size) (by repeat (first | ((with_reducible refine Below.setCell ?_ ?_ _); rotate_left; first | omega | (dsimp only; omega) | (simp; done) | (simp; omega)) | ((with_reducible refine below_setRow ?_ ?_ _); rotate_left; first | omega | (dsimp only; omega) | (simp; done) | (simp; omega)) | with_reducible exact Below.refl _ _ | with_reducible exact below_new _ | with_reducible exact below_drew | with_reducible exact HB9.out | with_reducible exact HB8.out | (with_reducible refine below_touch ?_ HTT.out ?_; rotate_left; (exact fun k hk => by have := HTL.out k hk; omega)) | (with_reducible apply below_comp; rotate_left; first | with_reducible exact HB9.out | with_reducible exact HB8.out | with_reducible assumption | with_reducible exact below_new _ | with_reducible exact below_drew))) (Nat.le_refl _))).mono ?_
    rintro e w1 ⟨rfl, hb8⟩
    have hzz0 := hb8.size
    (try simp at hzz0)
    have HB8 := Lib.hid hb8
    clear hb8
    have HB9 := Lib.hid (show Below w.heap.size w w1 by repeat (first | ((with_reducible refine Below.setCell ?_ ?_ _); rotate_left; first | omega | (dsimp only; omega) | (simp; done) | (simp; omega)) | ((with_reducible refine below_setRow ?_ ?_ _); rotate_left; first | omega | (dsimp only; omega) | (simp; done) | (simp; omega)) | with_reducible exact Below.refl _ _ | with_reducible exact below_new _ | with_reducible exact below_drew | with_reducible exact HB9.out | with_reducible exact HB8.out | (with_reducible refine below_touch ?_ HTT.out ?_; rotate_left; (exact fun k hk => by have := HTL.out k hk; omega)) | (with_reducible apply below_comp; rotate_left; first | with_reducible exact HB9.out | with_reducible exact HB8.out | with_reducible assumption | with_reducible exact below_new _ | with_reducible exact below_drew)))
    go_wp2
    go_ret
    refine ⟨rfl, ?_⟩
    repeat (first | ((with_reducible refine Below.setCell ?_ ?_ _); rotate_left; first | omega | (dsimp only; omega) | (simp; done) | (simp; omega)) | ((with_reducible refine below_setRow ?_ ?_ _); rotate_left; first | omega | (dsimp only; omega) | (simp; done) | (simp; omega)) | with_reducible exact Below.refl _ _ | with_reducible exact below_new _ | with_reducible exact below_drew | with_reducible exact HB9.out | with_reducible exact HB8.out | (with_reducible refine below_touch ?_ HTT.out ?_; rotate_left; (exact fun k hk => by have := HTL.out k hk; omega)) | (with_reducible apply below_comp; rotate_left; first | with_reducible exact HB9.out | with_reducible exact HB8.out | with_reducible assumption | with_reducible exact below_new _ | with_reducible exact below_drew))
  have hp0 : ¬ 1048576 - (z0 : Int) < 0 := by omega
  have hn0 : l0.length ≤ 2097152 := by have := hz0; have h2 := PieceM.szL_ge l0; omega
  have HS := Lib.hid fun (W : World) (S0 : Nat → Prop) (v0 : Value) (R0 : Row W S0 117 2 v0 (l0.map PieceM.arr)) => spec_pieceslen v0 S0 l0 W hn0 R0
  have HI := Lib.hid fun (W : World) (S0 : Nat → Prop) (v0 : Value) (R0 : Row W S0 117 2 v0 (l0.map PieceM.arr)) => impl_pieceslen v0 S0 l0 W hn0 R0
  have HZ0 := Lib.hid (fun (W : World) (h : EltsL W x0 2 (l0.map PieceM.arr)) => sz_pieces x0 p0 l0 (1048576) W (by have := m0; unfold maxLen at this; omega) (by omega) h)
  rw [← hz0] at HZ0
  simp only [if_neg hs0] at HZ0
  clear hz0
  generalize piecesLen l0 = B0 at HS HI
  go_enter Try.func4, Try.ntmps4
  go_wp2_with fail
  refine (HZ0.out _ (HE0.out.below (B := w.heap.size) (by repeat (first | ((with_reducible refine Below.setCell ?_ ?_ _); rotate_left; first | omega | (dsimp only; omega) | (simp; done) | (simp; omega)) | ((with_reducible refine below_setRow ?_ ?_ _); rotate_left; first | omega | (dsimp only; omega) | (simp; done) | (simp; omega)) | with_reducible exact Below.refl _ _ | with_reducible exact below_new _ | with_reducible exact below_drew | with_reducible exact HB9.out | with_reducible exact HB8.out | (with_reducible refine below_touch ?_ HTT.out ?_; rotate_left; (exact fun k hk => by have := HTL.out k hk; omega)) | (with_reducible apply below_comp; rotate_left; first | with_reducible exact HB9.out | with_reducible exact HB8.out | with_reducible assumption | with_reducible exact below_new _ | with_reducible exact below_drew))) (Nat.le_refl _))).mono ?_
  rintro e w1 ⟨rfl, hb8⟩
  have hzz1 := hb8.size
  (try simp at hzz1)
  have HB8 := Lib.hid hb8
  clear hb8
  have HB9 := Lib.hid (show Below w.heap.size w w1 by repeat (first | ((with_reducible refine Below.setCell ?_ ?_ _); rotate_left; first | omega | (dsimp only; omega) | (simp; done) | (simp; omega)) | ((with_reducible refine below_setRow ?_ ?_ _); rotate_left; first | omega | (dsimp only; omega) | (simp; done) | (simp; omega)) | with_reducible exact Below.refl _ _ | with_reducible exact below_new _ | with_reducible exact below_drew | with_reducible exact HB9.out | with_reducible exact HB8.out | (with_reducible refine below_touch ?_ HTT.out ?_; rotate_left; (exact fun k hk => by have := HTL.out k hk; omega)) | (with_reducible apply below_comp; rotate_left; first | with_reducible exact HB9.out | with_reducible exact HB8.out | with_reducible assumption | with_reducible exact below_new _ | with_reducible exact below_drew)))
  clear HB8
  go_wp2_with fail
  refine (to_pieces x0 p0 l0 _ hn0 (HE0.out.below (B := w.heap.size) (by repeat (first | ((with_reducible refine Below.setCell ?_ ?_ _); rotate_left; first | omega | (dsimp only; omega) | (simp; done) | (simp; omega)) | ((with_reducible refine below_setRow ?_ ?_ _); rotate_left; first | omega | (dsimp only; omega) | (simp; done) | (simp; omega)) | with_reducible exact Below.refl _ _ | with_reducible exact below_new _ | with_reducible exact below_drew | with_reducible exact HB9.out | with_reducible exact HB8.out | (with_reducible refine below_touch ?_ HTT.out ?_; rotate_left; (exact fun k hk => by have := HTL.out k hk; omega)) | (with_reducible apply below_comp; rotate_left; first | with_reducible exact HB9.out | with_reducible exact HB8.out | with_reducible assumption | with_reducible exact below_new _ | with_reducible exact below_drew))) (Nat.le_refl _))).mono ?_
  rintro e w2 ⟨v2', rfl, r2', hb8⟩
  have hzz2 := hb8.size
  (try simp at hzz2)
  obtain ⟨T0, R0', hlo0, hhi0⟩ : ∃ S, Row w2 S 117 2 v2' (l0.map PieceM.arr) ∧ Hid (∀ k, S k → w1.heap.size ≤ k) ∧ Hid (∀ k, S k → k < w2.heap.size) := ⟨_, r2', Lib.hid fun k hk => by have := hk.1; (try simp at this); omega, Lib.hid fun k hk => hk.2⟩
  clear r2'
  obtain ⟨a0_, n0_, p0_, rfl⟩ := R0'.form
  have HR0 := Lib.hid R0'
  clear R0'
  have hzz2 := hb8.size
  (try simp at hzz2)
  have HB8 := Lib.hid hb8
  clear hb8
  replace HB9 := Lib.hid (show Below w.heap.size w w2 by repeat (first | ((with_reducible refine Below.setCell ?_ ?_ _); rotate_left; first | omega | (dsimp only; omega) | (simp; done) | (simp; omega)) | ((with_reducible refine below_setRow ?_ ?_ _); rotate_left; first | omega | (dsimp only; omega) | (simp; done) | (simp; omega)) | with_reducible exact Below.refl _ _ | with_reducible exact below_new _ | with_reducible exact below_drew | with_reducible exact HB9.out | with_reducible exact HB8.out | (with_reducible refine below_touch ?_ HTT.out ?_; rotate_left; (exact fun k hk => by have := HTL.out k hk; omega)) | (with_reducible apply below_comp; rotate_left; first | with_reducible exact HB9.out | with_reducible exact HB8.out | with_reducible assumption | with_reducible exact below_new _ | with_reducible exact below_drew)))
  clear HB8
  go_wp2_with fail
  refine (HS.out _ _ _ (HR0.out.later (by repeat (first | ((with_reducible refine Below.setCell ?_ ?_ _); rotate_left; first | omega | (dsimp only; omega) | (simp; done) | (simp; omega)) | ((with_reducible refine below_setRow ?_ ?_ _); rotate_left; first | omega | (dsimp only; omega) | (simp; done) | (simp; omega)) | with_reducible exact Below.refl _ _ | with_reducible exact below_new _ | with_reducible exact below_drew | with_reducible exact HB9.out | with_reducible exact HB8.out | (with_reducible refine below_touch ?_ HTT.out ?_; rotate_left; (exact fun k hk => by have := HTL.out k hk; omega)) | (with_reducible apply below_comp; rotate_left; first | with_reducible exact HB9.out | with_reducible exact HB8.out | with_reducible assumption | with_reducible exact below_new _ | with_reducible exact below_drew))))).mono ?_
  rintro e w3 ⟨rfl, hb8⟩
  have hzz3 := hb8.size
  (try simp at hzz3)
  have hzz3 := hb8.size
  (try simp at hzz3)
  have HB8 := Lib.hid hb8
  clear hb8
  replace HR0 := Lib.hid (HR0.out.later (W' := w3) (by repeat (first | ((with_reducible refine Below.setCell ?_ ?_ _); rotate_left; first | omega | (dsimp only; omega) | (simp; done) | (simp; omega)) | ((with_reducible refine below_setRow ?_ ?_ _); rotate_left; first | omega | (dsimp only; omega) | (simp; done) | (simp; omega)) | with_reducible exact Below.refl _ _ | with_reducible exact below_new _ | with_reducible exact below_drew | with_reducible exact HB9.out | with_reducible exact HB8.out | (with_reducible refine below_touch ?_ HTT.out ?_; rotate_left; (exact fun k hk => by have := HTL.out k hk; omega)) | (with_reducible apply below_comp; rotate_left; first | with_reducible exact HB9.out | with_reducible exact HB8.out | with_reducible assumption | with_reducible exact below_new _ | with_reducible exact below_drew))))
  replace HB9 := Lib.hid (show Below w.heap.size w w3 by repeat (first | ((with_reducible refine Below.setCell ?_ ?_ _); rotate_left; first | omega | (dsimp only; omega) | (simp; done) | (simp; omega)) | ((with_reducible refine below_setRow ?_ ?_ _); rotate_left; first | omega | (dsimp only; omega) | (simp; done) | (simp; omega)) | with_reducible exact Below.refl _ _ | with_reducible exact below_new _ | with_reducible exact below_drew | with_reducible exact HB9.out | with_reducible exact HB8.out | (with_reducible refine below_touch ?_ HTT.out ?_; rotate_left; (exact fun k hk => by have := HTL.out k hk; omega)) | (with_reducible apply below_comp; rotate_left; first | with_reducible exact HB9.out | with_reducible exact HB8.out | with_reducible assumption | with_reducible exact below_new _ | with_reducible exact below_drew)))
  clear HB8
  clear HR0
  go_wp2_with fail
  refine (to_pieces x0 p0 l0 _ hn0 (HE0.out.below (B := w.heap.size) (by repeat (first | ((with_reducible refine Below.setCell ?_ ?_ _); rotate_left; first | omega | (dsimp only; omega) | (simp; done) | (simp; omega)) | ((with_reducible refine below_setRow ?_ ?_ _); rotate_left; first | omega | (dsimp only; omega) | (simp; done) | (simp; omega)) | with_reducible exact Below.refl _ _ | with_reducible exact below_new _ | with_reducible exact below_drew | with_reducible exact HB9.out | with_reducible exact HB8.out | (with_reducible refine below_touch ?_ HTT.out ?_; rotate_left; (exact fun k hk => by have := HTL.out k hk; omega)) | (with_reducible apply below_comp; rotate_left; first | with_reducible exact HB9.out | with_reducible exact HB8.out | with_reducible assumption | with_reducible exact below_new _ | with_reducible exact below_drew))) (Nat.le_refl _))).mono ?_
  rintro e w4 ⟨v4', rfl, r4', hb8⟩
  have hzz4 := hb8.size
  (try simp at hzz4)
  obtain ⟨T1, R1', hlo1, hhi1⟩ : ∃ S, Row w4 S 117 2 v4' (l0.map PieceM.arr) ∧ Hid (∀ k, S k → w3.heap.size ≤ k) ∧ Hid (∀ k, S k → k < w4.heap.size) := ⟨_, r4', Lib.hid fun k hk => by have := hk.1; (try simp at this); omega, Lib.hid fun k hk => hk.2⟩
  clear r4'
  obtain ⟨a1_, n1_, p1_, rfl⟩ := R1'.form
  have HR1 := Lib.hid R1'
  clear R1'
  have hzz4 := hb8.size
  (try simp at hzz4)
  have HB8 := Lib.hid hb8
  clear hb8
  replace HB9 := Lib.hid (show Below w.heap.size w w4 by repeat (first | ((with_reducible refine Below.setCell ?_ ?_ _); rotate_left; first | omega | (dsimp only; omega) | (simp; done) | (simp; omega)) | ((with_reducible refine below_setRow ?_ ?_ _); rotate_left; first | omega | (dsimp only; omega) | (simp; done) | (simp; omega)) | with_reducible exact Below.refl _ _ | with_reducible exact below_new _ | with_reducible exact below_drew | with_reducible exact HB9.out | with_reducible exact HB8.out | (with_reducible refine below_touch ?_ HTT.out ?_; rotate_left; (exact fun k hk => by have := HTL.out k hk; omega)) | (with_reducible apply below_comp; rotate_left; first | with_reducible exact HB9.out | with_reducible exact HB8.out | with_reducible assumption | with_reducible exact below_new _ | with_reducible exact below_drew)))
  clear HB8
  go_wp2_with fail
  refine (HI.out _ _ _ (HR1.out.later (by repeat (first | ((with_reducible refine Below.setCell ?_ ?_ _); rotate_left; first | omega | (dsimp only; omega) | (simp; done) | (simp; omega)) | ((with_reducible refine below_setRow ?_ ?_ _); rotate_left; first | omega | (dsimp only; omega) | (simp; done) | (simp; omega)) | with_reducible exact Below.refl _ _ | with_reducible exact below_new _ | with_reducible exact below_drew | with_reducible exact HB9.out | with_reducible exact HB8.out | (with_reducible refine below_touch ?_ HTT.out ?_; rotate_left; (exact fun k hk => by have := HTL.out k hk; omega)) | (with_reducible apply below_comp; rotate_left; first | with_reducible exact HB9.out | with_reducible exact HB8.out | with_reducible assumption | with_reducible exact below_new _ | with_reducible exact below_drew))))).mono ?_
  rintro e w5 ⟨rfl, hb8⟩
  have hzz5 := hb8.size
  (try simp at hzz5)
  have hzz5 := hb8.size
  (try simp at hzz5)
  have HB8 := Lib.hid hb8
  clear hb8
  replace HR1 := Lib.hid (HR1.out.later (W' := w5) (by repeat (first | ((with_reducible refine Below.setCell ?_ ?_ _); rotate_left; first | omega | (dsimp only; omega) | (simp; done) | (simp; omega)) | ((with_reducible refine below_setRow ?_ ?_ _); rotate_left; first | omega | (dsimp only; omega) | (simp; done) | (simp; omega)) | with_reducible exact Below.refl _ _ | with_reducible exact below_new _ | with_reducible exact below_drew | with_reducible exact HB9.out | with_reducible exact HB8.out | (with_reducible refine below_touch ?_ HTT.out ?_; rotate_left; (exact fun k hk => by have := HTL.out k hk; omega)) | (with_reducible apply below_comp; rotate_left; first | with_reducible exact HB9.out | with_reducible exact HB8.out | with_reducible assumption | with_reducible exact below_new _ | with_reducible exact below_drew))))
  replace HB9 := Lib.hid (show Below w.heap.size w w5 by repeat (first | ((with_reducible refine Below.setCell ?_ ?_ _); rotate_left; first | omega | (dsimp only; omega) | (simp; done) | (simp; omega)) | ((with_reducible refine below_setRow ?_ ?_ _); rotate_left; first | omega | (dsimp only; omega) | (simp; done) | (simp; omega)) | with_reducible exact Below.refl _ _ | with_reducible exact below_new _ | with_reducible exact below_drew | with_reducible exact HB9.out | with_reducible exact HB8.out | (with_reducible refine below_touch ?_ HTT.out ?_; rotate_left; (exact fun k hk => by have := HTL.out k hk; omega)) | (with_reducible apply below_comp; rotate_left; first | with_reducible exact HB9.out | with_reducible exact HB8.out | with_reducible assumption | with_reducible exact below_new _ | with_reducible exact below_drew)))
  clear HB8
  go_wp2_with fail
  refine (to_pieces x0 p0 l0 _ hn0 (HE0.out.below (B := w.heap.size) (by repeat (first | ((with_reducible refine Below.setCell ?_ ?_ _); rotate_left; first | omega | (dsimp only; omega) | (simp; done) | (simp; omega)) | ((with_reducible refine below_setRow ?_ ?_ _); rotate_left; first | omega | (dsimp only; omega) | (simp; done) | (simp; omega)) | with_reducible exact Below.refl _ _ | with_reducible exact below_new _ | with_reducible exact below_drew | with_reducible exact HB9.out | with_reducible exact HB8.out | (with_reducible refine below_touch ?_ HTT.out ?_; rotate_left; (exact fun k hk => by have := HTL.out k hk; omega)) | (with_reducible apply below_comp; rotate_left; first | with_reducible exact HB9.out | with_reducible exact HB8.out | with_reducible assumption | with_reducible exact below_new _ | with_reducible exact below_drew))) (Nat.le_refl _))).mono ?_
  rintro e w6 ⟨v6', rfl, r6', hb8⟩
  have hzz6 := hb8.size
  (try simp at hzz6)
  obtain ⟨T2, R2', hlo2, hhi2⟩ : ∃ S, Row w6 S 117 2 v6' (l0.map PieceM.arr) ∧ Hid (∀ k, S k → w5.heap.size ≤ k) ∧ Hid (∀ k, S k → k < w6.heap.size) := ⟨_, r6', Lib.hid fun k hk => by have := hk.1; (try simp at this); omega, Lib.hid fun k hk => hk.2⟩
  clear r6'
  obtain ⟨a2_, n2_, p2_, rfl⟩ := R2'.form
  have HR2 := Lib.hid R2'
  clear R2'
  have hzz6 := hb8.size
  (try simp at hzz6)
  have HB8 := Lib.hid hb8
  clear hb8
  replace HR1 := Lib.hid (HR1.out.later (W' := w6) (by repeat (first | ((with_reducible refine Below.setCell ?_ ?_ _); rotate_left; first | omega | (dsimp only; omega) | (simp; done) | (simp; omega)) | ((with_reducible refine below_setRow ?_ ?_ _); rotate_left; first | omega | (dsimp only; omega) | (simp; done) | (simp; omega)) | with_reducible exact Below.refl _ _ | with_reducible exact below_new _ | with_reducible exact below_drew | with_reducible exact HB9.out | with_reducible exact HB8.out | (with_reducible refine below_touch ?_ HTT.out ?_; rotate_left; (exact fun k hk => by have := HTL.out k hk; omega)) | (with_reducible apply below_comp; rotate_left; first | with_reducible exact HB9.out | with_reducible exact HB8.out | with_reducible assumption | with_reducible exact below_new _ | with_reducible exact below_drew))))
  replace HB9 := Lib.hid (show Below w.heap.size w w6 by repeat (first | ((with_reducible refine Below.setCell ?_ ?_ _); rotate_left; first | omega | (dsimp only; omega) | (simp; done) | (simp; omega)) | ((with_reducible refine below_setRow ?_ ?_ _); rotate_left; first | omega | (dsimp only; omega) | (simp; done) | (simp; omega)) | with_reducible exact Below.refl _ _ | with_reducible exact below_new _ | with_reducible exact below_drew | with_reducible exact HB9.out | with_reducible exact HB8.out | (with_reducible refine below_touch ?_ HTT.out ?_; rotate_left; (exact fun k hk => by have := HTL.out k hk; omega)) | (with_reducible apply below_comp; rotate_left; first | with_reducible exact HB9.out | with_reducible exact HB8.out | with_reducible assumption | with_reducible exact below_new _ | with_reducible exact below_drew)))
  clear HB8
  go_wp2_with fail
  refine (eq_pieces _ _ _ _ _ _ _ l0 (by have := hn0; omega) (HR1.out.later (by repeat (first | ((with_reducible refine Below.setCell ?_ ?_ _); rotate_left; first | omega | (dsimp only; omega) | (simp; done) | (simp; omega)) | ((with_reducible refine below_setRow ?_ ?_ _); rotate_left; first | omega | (dsimp only; omega) | (simp; done) | (simp; omega)) | with_reducible exact Below.refl _ _ | with_reducible exact below_new _ | with_reducible exact below_drew | with_reducible exact HB9.out | with_reducible exact HB8.out | (with_reducible refine below_touch ?_ HTT.out ?_; rotate_left; (exact fun k hk => by have := HTL.out k hk; omega)) | (with_reducible apply below_comp; rotate_left; first | with_reducible exact HB9.out | with_reducible exact HB8.out | with_reducible assumption | with_reducible exact below_new _ | with_reducible exact below_drew)))) (HR2.out.later (by repeat (first | ((with_reducible refine Below.setCell ?_ ?_ _); rotate_left; first | omega | (dsimp only; omega) | (simp; done) | (simp; omega)) | ((with_reducible refine below_setRow ?_ ?_ _); rotate_left; first | omega | (dsimp only; omega) | (simp; done) | (simp; omega)) | with_reducible exact Below.refl _ _ | with_reducible exact below_new _ | with_reducible exact below_drew | with_reducible exact HB9.out | with_reducible exact HB8.out | (with_reducible refine below_touch ?_ HTT.out ?_; rotate_left; (exact fun k hk => by have := HTL.out k hk; omega)) | (with_reducible apply below_comp; rotate_left; first | with_reducible exact HB9.out | with_reducible exact HB8.out | with_reducible assumption | with_reducible exact below_new _ | with_reducible exact below_drew))))).mono ?_
  rintro e w7 ⟨rfl, hb8⟩
  have hzz7 := hb8.size
  (try simp at hzz7)
  have HB8 := Lib.hid hb8
  clear hb8
  replace HR1 := Lib.hid (HR1.out.later (W' := w7) (by repeat (first | ((with_reducible refine Below.setCell ?_ ?_ _); rotate_left; first | omega | (dsimp only; omega) | (simp; done) | (simp; omega)) | ((with_reducible refine below_setRow ?_ ?_ _); rotate_left; first | omega | (dsimp only; omega) | (simp; done) | (simp; omega)) | with_reducible exact Below.refl _ _ | with_reducible exact below_new _ | with_reducible exact below_drew | with_reducible exact HB9.out | with_reducible exact HB8.out | (with_reducible refine below_touch ?_ HTT.out ?_; rotate_left; (exact fun k hk => by have := HTL.out k hk; omega)) | (with_reducible apply below_comp; rotate_left; first | with_reducible exact HB9.out | with_reducible exact HB8.out | with_reducible assumption | with_reducible exact below_new _ | with_reducible exact below_drew))))
  replace HR2 := Lib.hid (HR2.out.later (W' := w7) (by repeat (first | ((with_reducible refine Below.setCell ?_ ?_ _); rotate_left; first | omega | (dsimp only; omega) | (simp; done) | (simp; omega)) | ((with_reducible refine below_setRow ?_ ?_ _); rotate_left; first | omega | (dsimp only; omega) | (simp; done) | (simp; omega)) | with_reducible exact Below.refl _ _ | with_reducible exact below_new _ | with_reducible exact below_drew | with_reducible exact HB9.out | with_reducible exact HB8.out | (with_reducible refine below_touch ?_ HTT.out ?_; rotate_left; (exact fun k hk => by have := HTL.out k hk; omega)) | (with_reducible apply below_comp; rotate_left; first | with_reducible exact HB9.out | with_reducible exact HB8.out | with_reducible assumption | with_reducible exact below_new _ | with_reducible exact below_drew))))
  replace HB9 := Lib.hid (show Below w.heap.size w w7 by repeat (first | ((with_reducible refine Below.setCell ?_ ?_ _); rotate_left; first | omega | (dsimp only; omega) | (simp; done) | (simp; omega)) | ((with_reducible refine below_setRow ?_ ?_ _); rotate_left; first | omega | (dsimp only; omega) | (simp; done) | (simp; omega)) | with_reducible exact Below.refl _ _ | with_reducible exact below_new _ | with_reducible exact below_drew | with_reducible exact HB9.out | with_reducible exact HB8.out | (with_reducible refine below_touch ?_ HTT.out ?_; rotate_left; (exact fun k hk => by have := HTL.out k hk; omega)) | (with_reducible apply below_comp; rotate_left; first | with_reducible exact HB9.out | with_reducible exact HB8.out | with_reducible assumption | with_reducible exact below_new _ | with_reducible exact below_drew)))
  clear HB8
  clear HR2
  go_wp2
  go_ret
  refine ⟨rfl, ?_⟩
  repeat (first | ((with_reducible refine Below.setCell ?_ ?_ _); rotate_left; first | omega | (dsimp only; omega) | (simp; done) | (simp; omega)) | ((with_reducible refine below_setRow ?_ ?_ _); rotate_left; first | omega | (dsimp only; omega) | (simp; done) | (simp; omega)) | with_reducible exact Below.refl _ _ | with_reducible exact below_new _ | with_reducible exact below_drew | with_reducible exact HB9.out | with_reducible exact HB8.out | (with_reducible refine below_touch ?_ HTT.out ?_; rotate_left; (exact fun k hk => by have := HTL.out k hk; omega)) | (with_reducible apply below_comp; rotate_left; first | with_reducible exact HB9.out | with_reducible exact HB8.out | with_reducible assumption | with_reducible exact below_new _ | with_reducible exact below_drew))

set_option maxRecDepth 100000 in
theorem lifted (os : Os) (started : os.Started) (H : Type) (enc : TypeId × Value → H) :
    ReturnsInHanded {} Try.checked os 4 .any (Rows.fnExactPiecesLengthSpec.pre6 enc Try.prog Try.f4 Rows.fnExactPiecesLengthRow.domain false) (Rows.fnExactPiecesLengthSpec.post enc Try.prog Try.f4 false true false false) := by
  refine returnsInHanded_of_change (C := Try.checked) own started (by kernel_rfl) Try.func4
    (ChangeSpec.witness6 (enc := enc) (C := Try.checked) false ⟨#[], #[.slice none 0 0], []⟩ 8 (by kernel_rfl) (by kernel_rfl) (by kernel_rfl) (by kernel_rfl)) ?_
  intro W base args ds gs before hval0 hW hcnd _
  have hval : ∀ (j : Nat) t v, Try.f4.params[j]? = some t → args[j]? = some v → Value.okWide Try.prog W .any base t v := hval0
  have hW' := hW
  obtain ⟨p, q, hA0, hV, rfl, hfz, hnd⟩ := hW
  have hA : DataW.TrodAll enc Try.prog W 0 (fun _ => true) true Try.f4.params.toList args.toList ds p := hA0
  rw [Try.params4] at hA hval
  obtain ⟨v0, vs0, d0, ds0, p0, q0, hargs, rfl, rfl, h0, r0⟩ := trodAll_cons hA
  obtain ⟨rfl, rfl, rfl⟩ := trodAll_nil r0
  obtain rfl : args = #[v0] := by cases args; simp_all
  obtain ⟨rfl, rfl⟩ := trodVars_none hV
  have lt0 : ∀ x ∈ p0, x.block < W.heap.size := by obtain ⟨m, hm⟩ := h0; exact DataW.trod_lt m _ _ _ hm
  have k0 := h0
  obtain ⟨a0_, len0_, cap0_, rfl⟩ := okWide_slice Try.underlying22 (hval 0 22 v0 rfl rfl)
  obtain ⟨fuel0, hf0⟩ := h0
  obtain ⟨x0, p0, l0, hc0, E0, M0, W0⟩ := OpPieceS.row (show DataW.trod _ _ _ _ _ _ fuel0 _ [Value.slice a0_ len0_ cap0_] = some _ from hf0)
  cases hc0
  clear hA0 hval0
  refine (walk W _ _ l0 E0 M0 W0).mono fun e W' ⟨he, bel⟩ => ?_
  subst he
  exact ⟨_, rfl, _, _, _, [], _, [], hW', trodAll_mk1 (shut_bool Try.underlying4 _), (trodAll_cons_mk (Below.trod laidOut (by kernel_rfl) (of_decide_eq_true (by kernel_rfl)) k0 bel lt0) trodAll_mk0), rfl, bel.frame _, fun h => by cases h⟩

theorem over : Rows.fnExactPiecesLengthRow.holds Try.pinned (OpenSpec.ofChange Rows.fnExactPiecesLengthSpec) :=
  OpenClaim.holds_of_wide 4 Try.f4 rfl rfl rfl rfl rfl rfl rfl ⟨rfl, rfl, rfl, rfl, rfl⟩ rfl rfl rfl rfl rfl (by kernel_rfl) Try.func4 (by kernel_rfl)
    (of_decide_eq_true (by kernel_rfl)) (by unfold Func.isWrapper; first | (rw [if_pos (by decide +kernel)]; kernel_rfl) | (rw [if_neg (by decide +kernel)]; exact ⟨rfl, rfl⟩))
    (fun os started H enc _ => lifted os started H enc)

/-- The statement. -/
theorem proved : Rows.FnExactPiecesLengthSaid := over

end Go.Proofs.Ytogiocinhjbdkaa.fnExactPiecesLength
