/- At every argument Single answers as the model does: the law FnExactSingle returns true for every input, and its arguments read as before. No condition. -/
import Derived.Test.YthjajgpejfoghaaSingleS
import Derived.Test.YthjajgpejfoghaaSingleI
import Derived.Test.YthjajgpejfoghaaOpenPacket
import Derived.Test.YthjajgpejfoghaaLawPacket
import Derived.Test.YthjajgpejfoghaaSingleE
import Derived.Deep.DeepCutAuto
import Derived.StillTailTactics
import Derived.Laws.CopyOwn
import Derived.OpenShut
import Derived.ShutString
import Derived.ChangeOld
namespace Go.Proofs.Ythjajgpejfoghaa.fnExactSingle
open Go.ChangeShapes Go.WideShapes Go.ChangeAt Go.RowKit
open Go.ChangeMaps (open_string shut_string)
set_option linter.unusedVariables false

theorem own : ownKnob Try.prog.godebug = none := by kernel_rfl
theorem laidOut : laidOutB Try.prog = true := by kernel_rfl

set_option linter.unusedSimpArgs false
set_option maxHeartbeats 8000000 in
set_option maxRecDepth 100000 in
theorem walk (w : World) (a0 : PktM) (w0 : a0.Wf) :
    Calls Try.prog 7 #[a0.val] w fun e w' => e = .returned (.bool true) ∧ Below w.heap.size w w' := by
  obtain ⟨z0, hz0⟩ : ∃ z, z = a0.seg.body.size := ⟨_, rfl⟩
  by_cases hs0 : 1048576 < (z0 : Int)
  · have hq : 1048576 - (z0 : Int) < 0 := by omega
    have HZ0 := Lib.hid (fun (W : World) => sz_packet a0 (1048576) W w0 (by omega))
    rw [← hz0] at HZ0
    simp only [if_pos hs0] at HZ0
    clear hz0
    have hh0 : ∃ C : Array Value, a0.val = .agg C ∧ C.size = 16 := ⟨_, rfl, rfl⟩
    generalize a0.val = u0_ at *
    obtain ⟨C0, rfl, hcs0⟩ := hh0
    go_enter Try.func7, Try.ntmps7
    go_wp2_with (first | (refine wpList_load_row rfl 36 _ rfl (w.heap.size) rfl 36 C0 (0, 0) _ (show Box _ (w.heap.size) C0 36 from by repeat (first | (with_reducible exact HP0.out) | (with_reducible exact HP1.out) | (with_reducible exact HP2.out) | (with_reducible exact HP3.out) | (with_reducible exact HP4.out) | (with_reducible exact HP5.out) | (with_reducible exact HP6.out) | (with_reducible exact HP7.out) | (with_reducible exact HP8.out) | (with_reducible exact HP9.out) | (with_reducible exact HP10.out) | (with_reducible exact HP11.out) | (with_reducible exact HQ0.out) | (with_reducible exact HQ1.out) | (with_reducible exact HQ2.out) | (with_reducible exact HQ3.out) | (with_reducible apply Box.new) | (with_reducible apply Box.newAt; simp; done) | (with_reducible apply Box.set) | (with_reducible apply Box.skip; omega) | (with_reducible apply Box.alloc) | (with_reducible apply Box.drew) | (with_reducible apply Box.row) | (with_reducible apply Box.skipRow; omega))) Try.underlying36 rfl (by rw [hcs0]; kernel_rfl) ?_))
    refine (HZ0.out _).mono ?_
    rintro e w1 ⟨rfl, hb8⟩
    have hzz0 := hb8.size
    (try simp at hzz0)
    (have hl0 : w.heap.size < w1.heap.size := by omega)
    (apply with_box hb8 (g := w.heap.size)); (focus (repeat (first | (with_reducible exact HP0.out) | (with_reducible exact HP1.out) | (with_reducible exact HP2.out) | (with_reducible exact HP3.out) | (with_reducible exact HP4.out) | (with_reducible exact HP5.out) | (with_reducible exact HP6.out) | (with_reducible exact HP7.out) | (with_reducible exact HP8.out) | (with_reducible exact HP9.out) | (with_reducible exact HP10.out) | (with_reducible exact HP11.out) | (with_reducible exact HQ0.out) | (with_reducible exact HQ1.out) | (with_reducible exact HQ2.out) | (with_reducible exact HQ3.out) | (with_reducible apply Box.new) | (with_reducible apply Box.newAt; simp; done) | (with_reducible apply Box.set) | (with_reducible apply Box.skip; omega) | (with_reducible apply Box.alloc) | (with_reducible apply Box.drew) | (with_reducible apply Box.row) | (with_reducible apply Box.skipRow; omega)))); intro hx0
    (try simp only [List.setIfInBounds_toArray, List.set_cons_zero, List.set_cons_succ] at hx0)
    have HP0 := Lib.hid hx0
    clear hx0
    have HB8 := Lib.hid hb8
    clear hb8
    have HB9 := Lib.hid (show Below w.heap.size w w1 by repeat (first | ((with_reducible refine Below.setCell ?_ ?_ _); rotate_left; first | omega | (dsimp only; omega) | (simp; done) | (simp; omega)) | ((with_reducible refine below_setRow ?_ ?_ _); rotate_left; first | omega | (dsimp only; omega) | (simp; done) | (simp; omega)) | with_reducible exact Below.refl _ _ | with_reducible exact below_new _ | with_reducible exact below_drew | with_reducible exact HB9.out | with_reducible exact HB8.out | (with_reducible refine below_touch ?_ HTT.out ?_; rotate_left; (exact fun k hk => by have := HTL.out k hk; omega)) | (with_reducible apply below_comp; rotate_left; first | with_reducible exact HB9.out | with_reducible exact HB8.out | with_reducible assumption | with_reducible exact below_new _ | with_reducible exact below_drew)))
    go_wp2
    go_ret
    refine ⟨rfl, ?_⟩
    repeat (first | ((with_reducible refine Below.setCell ?_ ?_ _); rotate_left; first | omega | (dsimp only; omega) | (simp; done) | (simp; omega)) | ((with_reducible refine below_setRow ?_ ?_ _); rotate_left; first | omega | (dsimp only; omega) | (simp; done) | (simp; omega)) | with_reducible exact Below.refl _ _ | with_reducible exact below_new _ | with_reducible exact below_drew | with_reducible exact HB9.out | with_reducible exact HB8.out | (with_reducible refine below_touch ?_ HTT.out ?_; rotate_left; (exact fun k hk => by have := HTL.out k hk; omega)) | (with_reducible apply below_comp; rotate_left; first | with_reducible exact HB9.out | with_reducible exact HB8.out | with_reducible assumption | with_reducible exact below_new _ | with_reducible exact below_drew))
  have hp0 : ¬ 1048576 - (z0 : Int) < 0 := by omega
  have hp : a0.seg.body.size ≤ 4194304 := by have := hz0; omega
  have HS := Lib.hid fun (W : World) => spec_single a0 hp W
  have HI := Lib.hid fun (W : World) => impl_single a0 hp W
  have HT0 := Lib.hid fun W => to_packet a0 W
  have HZ0 := Lib.hid (fun (W : World) => sz_packet a0 (1048576) W w0 (by omega))
  rw [← hz0] at HZ0
  simp only [if_neg hs0] at HZ0
  clear hz0
  clear hp
  obtain ⟨R, hR⟩ : ∃ R, a0.single = R := ⟨_, rfl⟩
  rw [hR] at HS HI
  clear hR
  have hh0 : ∃ C : Array Value, a0.val = .agg C ∧ C.size = 16 := ⟨_, rfl, rfl⟩
  generalize a0.val = u0_ at *
  obtain ⟨C0, rfl, hcs0⟩ := hh0
  have HQEr0 := Lib.hid fun W => eq_super R W
  have hhR0 : ∃ C : Array Value, R.val = .agg C ∧ C.size = 18 ∧ C.all (·.oneCell') = true := ⟨_, rfl, rfl, by simp [Value.oneCell']⟩
  generalize R.val = uR0_ at *
  obtain ⟨CR0, rfl, hcsR0, hcaR0⟩ := hhR0
  go_enter Try.func7, Try.ntmps7
  go_wp2_with (first | (refine wpList_load_row rfl 36 _ rfl (w.heap.size) rfl 36 C0 (0, 0) _ (show Box _ (w.heap.size) C0 36 from by repeat (first | (with_reducible exact HP0.out) | (with_reducible exact HP1.out) | (with_reducible exact HP2.out) | (with_reducible exact HP3.out) | (with_reducible exact HP4.out) | (with_reducible exact HP5.out) | (with_reducible exact HP6.out) | (with_reducible exact HP7.out) | (with_reducible exact HP8.out) | (with_reducible exact HP9.out) | (with_reducible exact HP10.out) | (with_reducible exact HP11.out) | (with_reducible exact HQ0.out) | (with_reducible exact HQ1.out) | (with_reducible exact HQ2.out) | (with_reducible exact HQ3.out) | (with_reducible apply Box.new) | (with_reducible apply Box.newAt; simp; done) | (with_reducible apply Box.set) | (with_reducible apply Box.skip; omega) | (with_reducible apply Box.alloc) | (with_reducible apply Box.drew) | (with_reducible apply Box.row) | (with_reducible apply Box.skipRow; omega))) Try.underlying36 rfl (by rw [hcs0]; kernel_rfl) ?_))
  refine (HZ0.out _).mono ?_
  rintro e w1 ⟨rfl, hb8⟩
  have hzz1 := hb8.size
  (try simp at hzz1)
  (have hl0 : w.heap.size < w1.heap.size := by omega)
  (apply with_box hb8 (g := w.heap.size)); (focus (repeat (first | (with_reducible exact HP0.out) | (with_reducible exact HP1.out) | (with_reducible exact HP2.out) | (with_reducible exact HP3.out) | (with_reducible exact HP4.out) | (with_reducible exact HP5.out) | (with_reducible exact HP6.out) | (with_reducible exact HP7.out) | (with_reducible exact HP8.out) | (with_reducible exact HP9.out) | (with_reducible exact HP10.out) | (with_reducible exact HP11.out) | (with_reducible exact HQ0.out) | (with_reducible exact HQ1.out) | (with_reducible exact HQ2.out) | (with_reducible exact HQ3.out) | (with_reducible apply Box.new) | (with_reducible apply Box.newAt; simp; done) | (with_reducible apply Box.set) | (with_reducible apply Box.skip; omega) | (with_reducible apply Box.alloc) | (with_reducible apply Box.drew) | (with_reducible apply Box.row) | (with_reducible apply Box.skipRow; omega)))); intro hx0
  (try simp only [List.setIfInBounds_toArray, List.set_cons_zero, List.set_cons_succ] at hx0)
  have HP0 := Lib.hid hx0
  clear hx0
  have HB8 := Lib.hid hb8
  clear hb8
  have HB9 := Lib.hid (show Below w.heap.size w w1 by repeat (first | ((with_reducible refine Below.setCell ?_ ?_ _); rotate_left; first | omega | (dsimp only; omega) | (simp; done) | (simp; omega)) | ((with_reducible refine below_setRow ?_ ?_ _); rotate_left; first | omega | (dsimp only; omega) | (simp; done) | (simp; omega)) | with_reducible exact Below.refl _ _ | with_reducible exact below_new _ | with_reducible exact below_drew | with_reducible exact HB9.out | with_reducible exact HB8.out | (with_reducible refine below_touch ?_ HTT.out ?_; rotate_left; (exact fun k hk => by have := HTL.out k hk; omega)) | (with_reducible apply below_comp; rotate_left; first | with_reducible exact HB9.out | with_reducible exact HB8.out | with_reducible assumption | with_reducible exact below_new _ | with_reducible exact below_drew)))
  clear HB8
  go_wp2_with (first | (refine wpList_load_row rfl 36 _ rfl (w.heap.size) rfl 36 C0 (0, 0) _ (show Box _ (w.heap.size) C0 36 from by repeat (first | (with_reducible exact HP0.out) | (with_reducible exact HP1.out) | (with_reducible exact HP2.out) | (with_reducible exact HP3.out) | (with_reducible exact HP4.out) | (with_reducible exact HP5.out) | (with_reducible exact HP6.out) | (with_reducible exact HP7.out) | (with_reducible exact HP8.out) | (with_reducible exact HP9.out) | (with_reducible exact HP10.out) | (with_reducible exact HP11.out) | (with_reducible exact HQ0.out) | (with_reducible exact HQ1.out) | (with_reducible exact HQ2.out) | (with_reducible exact HQ3.out) | (with_reducible apply Box.new) | (with_reducible apply Box.newAt; simp; done) | (with_reducible apply Box.set) | (with_reducible apply Box.skip; omega) | (with_reducible apply Box.alloc) | (with_reducible apply Box.drew) | (with_reducible apply Box.row) | (with_reducible apply Box.skipRow; omega))) Try.underlying36 rfl (by rw [hcs0]; kernel_rfl) ?_))
  refine (HT0.out _).mono ?_
  rintro e w2 ⟨rfl, hb8⟩
  have hzz2 := hb8.size
  (try simp at hzz2)
  (have hl0 : w.heap.size < w2.heap.size := by omega)
  (apply with_box hb8 (g := w.heap.size)); (focus (repeat (first | (with_reducible exact HP0.out) | (with_reducible exact HP1.out) | (with_reducible exact HP2.out) | (with_reducible exact HP3.out) | (with_reducible exact HP4.out) | (with_reducible exact HP5.out) | (with_reducible exact HP6.out) | (with_reducible exact HP7.out) | (with_reducible exact HP8.out) | (with_reducible exact HP9.out) | (with_reducible exact HP10.out) | (with_reducible exact HP11.out) | (with_reducible exact HQ0.out) | (with_reducible exact HQ1.out) | (with_reducible exact HQ2.out) | (with_reducible exact HQ3.out) | (with_reducible apply Box.new) | (with_reducible apply Box.newAt; simp; done) | (with_reducible apply Box.set) | (with_reducible apply Box.skip; omega) | (with_reducible apply Box.alloc) | (with_reducible apply Box.drew) | (with_reducible apply Box.row) | (with_reducible apply Box.skipRow; omega)))); intro hx0
  (try simp only [List.setIfInBounds_toArray, List.set_cons_zero, List.set_cons_succ] at hx0)
  have HP0 := Lib.hid hx0
  clear hx0
  have HB8 := Lib.hid hb8
  clear hb8
  replace HB9 := Lib.hid (show Below w.heap.size w w2 by repeat (first | ((with_reducible refine Below.setCell ?_ ?_ _); rotate_left; first | omega | (dsimp only; omega) | (simp; done) | (simp; omega)) | ((with_reducible refine below_setRow ?_ ?_ _); rotate_left; first | omega | (dsimp only; omega) | (simp; done) | (simp; omega)) | with_reducible exact Below.refl _ _ | with_reducible exact below_new _ | with_reducible exact below_drew | with_reducible exact HB9.out | with_reducible exact HB8.out | (with_reducible refine below_touch ?_ HTT.out ?_; rotate_left; (exact fun k hk => by have := HTL.out k hk; omega)) | (with_reducible apply below_comp; rotate_left; first | with_reducible exact HB9.out | with_reducible exact HB8.out | with_reducible assumption | with_reducible exact below_new _ | with_reducible exact below_drew)))
  clear HB8
  go_wp2_with (first | (refine wpList_load_row rfl 36 _ rfl (w.heap.size) rfl 36 C0 (0, 0) _ (show Box _ (w.heap.size) C0 36 from by repeat (first | (with_reducible exact HP0.out) | (with_reducible exact HP1.out) | (with_reducible exact HP2.out) | (with_reducible exact HP3.out) | (with_reducible exact HP4.out) | (with_reducible exact HP5.out) | (with_reducible exact HP6.out) | (with_reducible exact HP7.out) | (with_reducible exact HP8.out) | (with_reducible exact HP9.out) | (with_reducible exact HP10.out) | (with_reducible exact HP11.out) | (with_reducible exact HQ0.out) | (with_reducible exact HQ1.out) | (with_reducible exact HQ2.out) | (with_reducible exact HQ3.out) | (with_reducible apply Box.new) | (with_reducible apply Box.newAt; simp; done) | (with_reducible apply Box.set) | (with_reducible apply Box.skip; omega) | (with_reducible apply Box.alloc) | (with_reducible apply Box.drew) | (with_reducible apply Box.row) | (with_reducible apply Box.skipRow; omega))) Try.underlying36 rfl (by rw [hcs0]; kernel_rfl) ?_) | (refine wpList_load_row rfl 45 _ rfl (w3.heap.size) rfl 45 CR0 (0, 0) _ (show Box _ (w3.heap.size) CR0 45 from by repeat (first | (with_reducible exact HP0.out) | (with_reducible exact HP1.out) | (with_reducible exact HP2.out) | (with_reducible exact HP3.out) | (with_reducible exact HP4.out) | (with_reducible exact HP5.out) | (with_reducible exact HP6.out) | (with_reducible exact HP7.out) | (with_reducible exact HP8.out) | (with_reducible exact HP9.out) | (with_reducible exact HP10.out) | (with_reducible exact HP11.out) | (with_reducible exact HQ0.out) | (with_reducible exact HQ1.out) | (with_reducible exact HQ2.out) | (with_reducible exact HQ3.out) | (with_reducible apply Box.new) | (with_reducible apply Box.newAt; simp; done) | (with_reducible apply Box.set) | (with_reducible apply Box.skip; omega) | (with_reducible apply Box.alloc) | (with_reducible apply Box.drew) | (with_reducible apply Box.row) | (with_reducible apply Box.skipRow; omega))) Try.underlying45 rfl (by rw [hcsR0]; kernel_rfl) ?_))
  refine (HS.out _).mono ?_
  rintro e w3 ⟨rfl, hb8⟩
  have hzz3 := hb8.size
  (try simp at hzz3)
  have hzz3 := hb8.size
  (try simp at hzz3)
  (have hl0 : w.heap.size < w3.heap.size := by omega)
  (apply with_box hb8 (g := w.heap.size)); (focus (repeat (first | (with_reducible exact HP0.out) | (with_reducible exact HP1.out) | (with_reducible exact HP2.out) | (with_reducible exact HP3.out) | (with_reducible exact HP4.out) | (with_reducible exact HP5.out) | (with_reducible exact HP6.out) | (with_reducible exact HP7.out) | (with_reducible exact HP8.out) | (with_reducible exact HP9.out) | (with_reducible exact HP10.out) | (with_reducible exact HP11.out) | (with_reducible exact HQ0.out) | (with_reducible exact HQ1.out) | (with_reducible exact HQ2.out) | (with_reducible exact HQ3.out) | (with_reducible apply Box.new) | (with_reducible apply Box.newAt; simp; done) | (with_reducible apply Box.set) | (with_reducible apply Box.skip; omega) | (with_reducible apply Box.alloc) | (with_reducible apply Box.drew) | (with_reducible apply Box.row) | (with_reducible apply Box.skipRow; omega)))); intro hx0
  (try simp only [List.setIfInBounds_toArray, List.set_cons_zero, List.set_cons_succ] at hx0)
  have HP0 := Lib.hid hx0
  clear hx0
  have HB8 := Lib.hid hb8
  clear hb8
  replace HB9 := Lib.hid (show Below w.heap.size w w3 by repeat (first | ((with_reducible refine Below.setCell ?_ ?_ _); rotate_left; first | omega | (dsimp only; omega) | (simp; done) | (simp; omega)) | ((with_reducible refine below_setRow ?_ ?_ _); rotate_left; first | omega | (dsimp only; omega) | (simp; done) | (simp; omega)) | with_reducible exact Below.refl _ _ | with_reducible exact below_new _ | with_reducible exact below_drew | with_reducible exact HB9.out | with_reducible exact HB8.out | (with_reducible refine below_touch ?_ HTT.out ?_; rotate_left; (exact fun k hk => by have := HTL.out k hk; omega)) | (with_reducible apply below_comp; rotate_left; first | with_reducible exact HB9.out | with_reducible exact HB8.out | with_reducible assumption | with_reducible exact below_new _ | with_reducible exact below_drew)))
  clear HB8
  dsimp only
  refine ‹∀ (a : Act) (w : World), wpList _ _ _ _ a w → _› _ _ ?_
  refine wpList_plain rfl (fun _ hK => ?_)
  simp only [Oper.wp, execOp]
  go_simp
  refine hK _ _ ?_
  clear hK
  refine wpList_store_row rfl 45 _ _ rfl (w3.heap.size) CR0 rfl rfl 45 _ (Box.new _ _ _) (by rw [hcsR0]; kernel_rfl) (by rw [hcsR0]; rfl) hcaR0 ?_
  go_wp2_with (first | (refine wpList_load_row rfl 36 _ rfl (w.heap.size) rfl 36 C0 (0, 0) _ (show Box _ (w.heap.size) C0 36 from by repeat (first | (with_reducible exact HP0.out) | (with_reducible exact HP1.out) | (with_reducible exact HP2.out) | (with_reducible exact HP3.out) | (with_reducible exact HP4.out) | (with_reducible exact HP5.out) | (with_reducible exact HP6.out) | (with_reducible exact HP7.out) | (with_reducible exact HP8.out) | (with_reducible exact HP9.out) | (with_reducible exact HP10.out) | (with_reducible exact HP11.out) | (with_reducible exact HQ0.out) | (with_reducible exact HQ1.out) | (with_reducible exact HQ2.out) | (with_reducible exact HQ3.out) | (with_reducible apply Box.new) | (with_reducible apply Box.newAt; simp; done) | (with_reducible apply Box.set) | (with_reducible apply Box.skip; omega) | (with_reducible apply Box.alloc) | (with_reducible apply Box.drew) | (with_reducible apply Box.row) | (with_reducible apply Box.skipRow; omega))) Try.underlying36 rfl (by rw [hcs0]; kernel_rfl) ?_) | (refine wpList_load_row rfl 45 _ rfl (w3.heap.size) rfl 45 CR0 (0, 0) _ (show Box _ (w3.heap.size) CR0 45 from by repeat (first | (with_reducible exact HP0.out) | (with_reducible exact HP1.out) | (with_reducible exact HP2.out) | (with_reducible exact HP3.out) | (with_reducible exact HP4.out) | (with_reducible exact HP5.out) | (with_reducible exact HP6.out) | (with_reducible exact HP7.out) | (with_reducible exact HP8.out) | (with_reducible exact HP9.out) | (with_reducible exact HP10.out) | (with_reducible exact HP11.out) | (with_reducible exact HQ0.out) | (with_reducible exact HQ1.out) | (with_reducible exact HQ2.out) | (with_reducible exact HQ3.out) | (with_reducible apply Box.new) | (with_reducible apply Box.newAt; simp; done) | (with_reducible apply Box.set) | (with_reducible apply Box.skip; omega) | (with_reducible apply Box.alloc) | (with_reducible apply Box.drew) | (with_reducible apply Box.row) | (with_reducible apply Box.skipRow; omega))) Try.underlying45 rfl (by rw [hcsR0]; kernel_rfl) ?_))
  refine (HT0.out _).mono ?_
  rintro e w4 ⟨rfl, hb8⟩
  have hzz4 := hb8.size
  (try simp at hzz4)
  (have hl0 : w.heap.size < w4.heap.size := by omega)
  (have hl1 : w3.heap.size < w4.heap.size := by omega)
  (apply with_box hb8 (g := w.heap.size)); (focus (repeat (first | (with_reducible exact HP0.out) | (with_reducible exact HP1.out) | (with_reducible exact HP2.out) | (with_reducible exact HP3.out) | (with_reducible exact HP4.out) | (with_reducible exact HP5.out) | (with_reducible exact HP6.out) | (with_reducible exact HP7.out) | (with_reducible exact HP8.out) | (with_reducible exact HP9.out) | (with_reducible exact HP10.out) | (with_reducible exact HP11.out) | (with_reducible exact HQ0.out) | (with_reducible exact HQ1.out) | (with_reducible exact HQ2.out) | (with_reducible exact HQ3.out) | (with_reducible apply Box.new) | (with_reducible apply Box.newAt; simp; done) | (with_reducible apply Box.set) | (with_reducible apply Box.skip; omega) | (with_reducible apply Box.alloc) | (with_reducible apply Box.drew) | (with_reducible apply Box.row) | (with_reducible apply Box.skipRow; omega)))); intro hx0
  (try simp only [List.setIfInBounds_toArray, List.set_cons_zero, List.set_cons_succ] at hx0)
  (apply with_box hb8 (g := w3.heap.size)); (focus (repeat (first | (with_reducible exact HP0.out) | (with_reducible exact HP1.out) | (with_reducible exact HP2.out) | (with_reducible exact HP3.out) | (with_reducible exact HP4.out) | (with_reducible exact HP5.out) | (with_reducible exact HP6.out) | (with_reducible exact HP7.out) | (with_reducible exact HP8.out) | (with_reducible exact HP9.out) | (with_reducible exact HP10.out) | (with_reducible exact HP11.out) | (with_reducible exact HQ0.out) | (with_reducible exact HQ1.out) | (with_reducible exact HQ2.out) | (with_reducible exact HQ3.out) | (with_reducible apply Box.new) | (with_reducible apply Box.newAt; simp; done) | (with_reducible apply Box.set) | (with_reducible apply Box.skip; omega) | (with_reducible apply Box.alloc) | (with_reducible apply Box.drew) | (with_reducible apply Box.row) | (with_reducible apply Box.skipRow; omega)))); intro hx1
  (try simp only [List.setIfInBounds_toArray, List.set_cons_zero, List.set_cons_succ] at hx1)
  have HP0 := Lib.hid hx0
  clear hx0
  have HP1 := Lib.hid hx1
  clear hx1
  have HB8 := Lib.hid hb8
  clear hb8
  replace HB9 := Lib.hid (show Below w.heap.size w w4 by repeat (first | ((with_reducible refine Below.setCell ?_ ?_ _); rotate_left; first | omega | (dsimp only; omega) | (simp; done) | (simp; omega)) | ((with_reducible refine below_setRow ?_ ?_ _); rotate_left; first | omega | (dsimp only; omega) | (simp; done) | (simp; omega)) | with_reducible exact Below.refl _ _ | with_reducible exact below_new _ | with_reducible exact below_drew | with_reducible exact HB9.out | with_reducible exact HB8.out | (with_reducible refine below_touch ?_ HTT.out ?_; rotate_left; (exact fun k hk => by have := HTL.out k hk; omega)) | (with_reducible apply below_comp; rotate_left; first | with_reducible exact HB9.out | with_reducible exact HB8.out | with_reducible assumption | with_reducible exact below_new _ | with_reducible exact below_drew)))
  clear HB8
  go_wp2_with (first | (refine wpList_load_row rfl 36 _ rfl (w.heap.size) rfl 36 C0 (0, 0) _ (show Box _ (w.heap.size) C0 36 from by repeat (first | (with_reducible exact HP0.out) | (with_reducible exact HP1.out) | (with_reducible exact HP2.out) | (with_reducible exact HP3.out) | (with_reducible exact HP4.out) | (with_reducible exact HP5.out) | (with_reducible exact HP6.out) | (with_reducible exact HP7.out) | (with_reducible exact HP8.out) | (with_reducible exact HP9.out) | (with_reducible exact HP10.out) | (with_reducible exact HP11.out) | (with_reducible exact HQ0.out) | (with_reducible exact HQ1.out) | (with_reducible exact HQ2.out) | (with_reducible exact HQ3.out) | (with_reducible apply Box.new) | (with_reducible apply Box.newAt; simp; done) | (with_reducible apply Box.set) | (with_reducible apply Box.skip; omega) | (with_reducible apply Box.alloc) | (with_reducible apply Box.drew) | (with_reducible apply Box.row) | (with_reducible apply Box.skipRow; omega))) Try.underlying36 rfl (by rw [hcs0]; kernel_rfl) ?_) | (refine wpList_load_row rfl 45 _ rfl (w3.heap.size) rfl 45 CR0 (0, 0) _ (show Box _ (w3.heap.size) CR0 45 from by repeat (first | (with_reducible exact HP0.out) | (with_reducible exact HP1.out) | (with_reducible exact HP2.out) | (with_reducible exact HP3.out) | (with_reducible exact HP4.out) | (with_reducible exact HP5.out) | (with_reducible exact HP6.out) | (with_reducible exact HP7.out) | (with_reducible exact HP8.out) | (with_reducible exact HP9.out) | (with_reducible exact HP10.out) | (with_reducible exact HP11.out) | (with_reducible exact HQ0.out) | (with_reducible exact HQ1.out) | (with_reducible exact HQ2.out) | (with_reducible exact HQ3.out) | (with_reducible apply Box.new) | (with_reducible apply Box.newAt; simp; done) | (with_reducible apply Box.set) | (with_reducible apply Box.skip; omega) | (with_reducible apply Box.alloc) | (with_reducible apply Box.drew) | (with_reducible apply Box.row) | (with_reducible apply Box.skipRow; omega))) Try.underlying45 rfl (by rw [hcsR0]; kernel_rfl) ?_) | (refine wpList_load_row rfl 45 _ rfl (w5.heap.size) rfl 45 CR0 (0, 0) _ (show Box _ (w5.heap.size) CR0 45 from by repeat (first | (with_reducible exact HP0.out) | (with_reducible exact HP1.out) | (with_reducible exact HP2.out) | (with_reducible exact HP3.out) | (with_reducible exact HP4.out) | (with_reducible exact HP5.out) | (with_reducible exact HP6.out) | (with_reducible exact HP7.out) | (with_reducible exact HP8.out) | (with_reducible exact HP9.out) | (with_reducible exact HP10.out) | (with_reducible exact HP11.out) | (with_reducible exact HQ0.out) | (with_reducible exact HQ1.out) | (with_reducible exact HQ2.out) | (with_reducible exact HQ3.out) | (with_reducible apply Box.new) | (with_reducible apply Box.newAt; simp; done) | (with_reducible apply Box.set) | (with_reducible apply Box.skip; omega) | (with_reducible apply Box.alloc) | (with_reducible apply Box.drew) | (with_reducible apply Box.row) | (with_reducible apply Box.skipRow; omega))) Try.underlying45 rfl (by rw [hcsR0]; kernel_rfl) ?_))
  refine (HI.out _).mono ?_
  rintro e w5 ⟨rfl, hb8⟩
  have hzz5 := hb8.size
  (try simp at hzz5)
  have hzz5 := hb8.size
  (try simp at hzz5)
  (have hl0 : w.heap.size < w5.heap.size := by omega)
  (have hl1 : w3.heap.size < w5.heap.size := by omega)
  (apply with_box hb8 (g := w.heap.size)); (focus (repeat (first | (with_reducible exact HP0.out) | (with_reducible exact HP1.out) | (with_reducible exact HP2.out) | (with_reducible exact HP3.out) | (with_reducible exact HP4.out) | (with_reducible exact HP5.out) | (with_reducible exact HP6.out) | (with_reducible exact HP7.out) | (with_reducible exact HP8.out) | (with_reducible exact HP9.out) | (with_reducible exact HP10.out) | (with_reducible exact HP11.out) | (with_reducible exact HQ0.out) | (with_reducible exact HQ1.out) | (with_reducible exact HQ2.out) | (with_reducible exact HQ3.out) | (with_reducible apply Box.new) | (with_reducible apply Box.newAt; simp; done) | (with_reducible apply Box.set) | (with_reducible apply Box.skip; omega) | (with_reducible apply Box.alloc) | (with_reducible apply Box.drew) | (with_reducible apply Box.row) | (with_reducible apply Box.skipRow; omega)))); intro hx0
  (try simp only [List.setIfInBounds_toArray, List.set_cons_zero, List.set_cons_succ] at hx0)
  (apply with_box hb8 (g := w3.heap.size)); (focus (repeat (first | (with_reducible exact HP0.out) | (with_reducible exact HP1.out) | (with_reducible exact HP2.out) | (with_reducible exact HP3.out) | (with_reducible exact HP4.out) | (with_reducible exact HP5.out) | (with_reducible exact HP6.out) | (with_reducible exact HP7.out) | (with_reducible exact HP8.out) | (with_reducible exact HP9.out) | (with_reducible exact HP10.out) | (with_reducible exact HP11.out) | (with_reducible exact HQ0.out) | (with_reducible exact HQ1.out) | (with_reducible exact HQ2.out) | (with_reducible exact HQ3.out) | (with_reducible apply Box.new) | (with_reducible apply Box.newAt; simp; done) | (with_reducible apply Box.set) | (with_reducible apply Box.skip; omega) | (with_reducible apply Box.alloc) | (with_reducible apply Box.drew) | (with_reducible apply Box.row) | (with_reducible apply Box.skipRow; omega)))); intro hx1
  (try simp only [List.setIfInBounds_toArray, List.set_cons_zero, List.set_cons_succ] at hx1)
  have HP0 := Lib.hid hx0
  clear hx0
  have HP1 := Lib.hid hx1
  clear hx1
  have HB8 := Lib.hid hb8
  clear hb8
  replace HB9 := Lib.hid (show Below w.heap.size w w5 by repeat (first | ((with_reducible refine Below.setCell ?_ ?_ _); rotate_left; first | omega | (dsimp only; omega) | (simp; done) | (simp; omega)) | ((with_reducible refine below_setRow ?_ ?_ _); rotate_left; first | omega | (dsimp only; omega) | (simp; done) | (simp; omega)) | with_reducible exact Below.refl _ _ | with_reducible exact below_new _ | with_reducible exact below_drew | with_reducible exact HB9.out | with_reducible exact HB8.out | (with_reducible refine below_touch ?_ HTT.out ?_; rotate_left; (exact fun k hk => by have := HTL.out k hk; omega)) | (with_reducible apply below_comp; rotate_left; first | with_reducible exact HB9.out | with_reducible exact HB8.out | with_reducible assumption | with_reducible exact below_new _ | with_reducible exact below_drew)))
  clear HB8
  dsimp only
  refine ‹∀ (a : Act) (w : World), wpList _ _ _ _ a w → _› _ _ ?_
  refine wpList_plain rfl (fun _ hK => ?_)
  simp only [Oper.wp, execOp]
  go_simp
  refine hK _ _ ?_
  clear hK
  refine wpList_store_row rfl 45 _ _ rfl (w5.heap.size) CR0 rfl rfl 45 _ (Box.new _ _ _) (by rw [hcsR0]; kernel_rfl) (by rw [hcsR0]; rfl) hcaR0 ?_
  go_wp2_with (first | (refine wpList_load_row rfl 36 _ rfl (w.heap.size) rfl 36 C0 (0, 0) _ (show Box _ (w.heap.size) C0 36 from by repeat (first | (with_reducible exact HP0.out) | (with_reducible exact HP1.out) | (with_reducible exact HP2.out) | (with_reducible exact HP3.out) | (with_reducible exact HP4.out) | (with_reducible exact HP5.out) | (with_reducible exact HP6.out) | (with_reducible exact HP7.out) | (with_reducible exact HP8.out) | (with_reducible exact HP9.out) | (with_reducible exact HP10.out) | (with_reducible exact HP11.out) | (with_reducible exact HQ0.out) | (with_reducible exact HQ1.out) | (with_reducible exact HQ2.out) | (with_reducible exact HQ3.out) | (with_reducible apply Box.new) | (with_reducible apply Box.newAt; simp; done) | (with_reducible apply Box.set) | (with_reducible apply Box.skip; omega) | (with_reducible apply Box.alloc) | (with_reducible apply Box.drew) | (with_reducible apply Box.row) | (with_reducible apply Box.skipRow; omega))) Try.underlying36 rfl (by rw [hcs0]; kernel_rfl) ?_) | (refine wpList_load_row rfl 45 _ rfl (w3.heap.size) rfl 45 CR0 (0, 0) _ (show Box _ (w3.heap.size) CR0 45 from by repeat (first | (with_reducible exact HP0.out) | (with_reducible exact HP1.out) | (with_reducible exact HP2.out) | (with_reducible exact HP3.out) | (with_reducible exact HP4.out) | (with_reducible exact HP5.out) | (with_reducible exact HP6.out) | (with_reducible exact HP7.out) | (with_reducible exact HP8.out) | (with_reducible exact HP9.out) | (with_reducible exact HP10.out) | (with_reducible exact HP11.out) | (with_reducible exact HQ0.out) | (with_reducible exact HQ1.out) | (with_reducible exact HQ2.out) | (with_reducible exact HQ3.out) | (with_reducible apply Box.new) | (with_reducible apply Box.newAt; simp; done) | (with_reducible apply Box.set) | (with_reducible apply Box.skip; omega) | (with_reducible apply Box.alloc) | (with_reducible apply Box.drew) | (with_reducible apply Box.row) | (with_reducible apply Box.skipRow; omega))) Try.underlying45 rfl (by rw [hcsR0]; kernel_rfl) ?_) | (refine wpList_load_row rfl 45 _ rfl (w5.heap.size) rfl 45 CR0 (0, 0) _ (show Box _ (w5.heap.size) CR0 45 from by repeat (first | (with_reducible exact HP0.out) | (with_reducible exact HP1.out) | (with_reducible exact HP2.out) | (with_reducible exact HP3.out) | (with_reducible exact HP4.out) | (with_reducible exact HP5.out) | (with_reducible exact HP6.out) | (with_reducible exact HP7.out) | (with_reducible exact HP8.out) | (with_reducible exact HP9.out) | (with_reducible exact HP10.out) | (with_reducible exact HP11.out) | (with_reducible exact HQ0.out) | (with_reducible exact HQ1.out) | (with_reducible exact HQ2.out) | (with_reducible exact HQ3.out) | (with_reducible apply Box.new) | (with_reducible apply Box.newAt; simp; done) | (with_reducible apply Box.set) | (with_reducible apply Box.skip; omega) | (with_reducible apply Box.alloc) | (with_reducible apply Box.drew) | (with_reducible apply Box.row) | (with_reducible apply Box.skipRow; omega))) Try.underlying45 rfl (by rw [hcsR0]; kernel_rfl) ?_))
  refine (HQEr0.out _).mono ?_
  rintro e w6 ⟨rfl, hb8⟩
  have hzz6 := hb8.size
  (try simp at hzz6)
  (have hl0 : w.heap.size < w6.heap.size := by omega)
  (have hl1 : w3.heap.size < w6.heap.size := by omega)
  (have hl2 : w5.heap.size < w6.heap.size := by omega)
  (apply with_box hb8 (g := w.heap.size)); (focus (repeat (first | (with_reducible exact HP0.out) | (with_reducible exact HP1.out) | (with_reducible exact HP2.out) | (with_reducible exact HP3.out) | (with_reducible exact HP4.out) | (with_reducible exact HP5.out) | (with_reducible exact HP6.out) | (with_reducible exact HP7.out) | (with_reducible exact HP8.out) | (with_reducible exact HP9.out) | (with_reducible exact HP10.out) | (with_reducible exact HP11.out) | (with_reducible exact HQ0.out) | (with_reducible exact HQ1.out) | (with_reducible exact HQ2.out) | (with_reducible exact HQ3.out) | (with_reducible apply Box.new) | (with_reducible apply Box.newAt; simp; done) | (with_reducible apply Box.set) | (with_reducible apply Box.skip; omega) | (with_reducible apply Box.alloc) | (with_reducible apply Box.drew) | (with_reducible apply Box.row) | (with_reducible apply Box.skipRow; omega)))); intro hx0
  (try simp only [List.setIfInBounds_toArray, List.set_cons_zero, List.set_cons_succ] at hx0)
  (apply with_box hb8 (g := w3.heap.size)); (focus (repeat (first | (with_reducible exact HP0.out) | (with_reducible exact HP1.out) | (with_reducible exact HP2.out) | (with_reducible exact HP3.out) | (with_reducible exact HP4.out) | (with_reducible exact HP5.out) | (with_reducible exact HP6.out) | (with_reducible exact HP7.out) | (with_reducible exact HP8.out) | (with_reducible exact HP9.out) | (with_reducible exact HP10.out) | (with_reducible exact HP11.out) | (with_reducible exact HQ0.out) | (with_reducible exact HQ1.out) | (with_reducible exact HQ2.out) | (with_reducible exact HQ3.out) | (with_reducible apply Box.new) | (with_reducible apply Box.newAt; simp; done) | (with_reducible apply Box.set) | (with_reducible apply Box.skip; omega) | (with_reducible apply Box.alloc) | (with_reducible apply Box.drew) | (with_reducible apply Box.row) | (with_reducible apply Box.skipRow; omega)))); intro hx1
  (try simp only [List.setIfInBounds_toArray, List.set_cons_zero, List.set_cons_succ] at hx1)
  (apply with_box hb8 (g := w5.heap.size)); (focus (repeat (first | (with_reducible exact HP0.out) | (with_reducible exact HP1.out) | (with_reducible exact HP2.out) | (with_reducible exact HP3.out) | (with_reducible exact HP4.out) | (with_reducible exact HP5.out) | (with_reducible exact HP6.out) | (with_reducible exact HP7.out) | (with_reducible exact HP8.out) | (with_reducible exact HP9.out) | (with_reducible exact HP10.out) | (with_reducible exact HP11.out) | (with_reducible exact HQ0.out) | (with_reducible exact HQ1.out) | (with_reducible exact HQ2.out) | (with_reducible exact HQ3.out) | (with_reducible apply Box.new) | (with_reducible apply Box.newAt; simp; done) | (with_reducible apply Box.set) | (with_reducible apply Box.skip; omega) | (with_reducible apply Box.alloc) | (with_reducible apply Box.drew) | (with_reducible apply Box.row) | (with_reducible apply Box.skipRow; omega)))); intro hx2
  (try simp only [List.setIfInBounds_toArray, List.set_cons_zero, List.set_cons_succ] at hx2)
  have HP0 := Lib.hid hx0
  clear hx0
  have HP1 := Lib.hid hx1
  clear hx1
  have HP2 := Lib.hid hx2
  clear hx2
  have HB8 := Lib.hid hb8
  clear hb8
  replace HB9 := Lib.hid (show Below w.heap.size w w6 by repeat (first | ((with_reducible refine Below.setCell ?_ ?_ _); rotate_left; first | omega | (dsimp only; omega) | (simp; done) | (simp; omega)) | ((with_reducible refine below_setRow ?_ ?_ _); rotate_left; first | omega | (dsimp only; omega) | (simp; done) | (simp; omega)) | with_reducible exact Below.refl _ _ | with_reducible exact below_new _ | with_reducible exact below_drew | with_reducible exact HB9.out | with_reducible exact HB8.out | (with_reducible refine below_touch ?_ HTT.out ?_; rotate_left; (exact fun k hk => by have := HTL.out k hk; omega)) | (with_reducible apply below_comp; rotate_left; first | with_reducible exact HB9.out | with_reducible exact HB8.out | with_reducible assumption | with_reducible exact below_new _ | with_reducible exact below_drew)))
  clear HB8
  go_wp2_with (first | (refine wpList_load_row rfl 36 _ rfl (w.heap.size) rfl 36 C0 (0, 0) _ (show Box _ (w.heap.size) C0 36 from by repeat (first | (with_reducible exact HP0.out) | (with_reducible exact HP1.out) | (with_reducible exact HP2.out) | (with_reducible exact HP3.out) | (with_reducible exact HP4.out) | (with_reducible exact HP5.out) | (with_reducible exact HP6.out) | (with_reducible exact HP7.out) | (with_reducible exact HP8.out) | (with_reducible exact HP9.out) | (with_reducible exact HP10.out) | (with_reducible exact HP11.out) | (with_reducible exact HQ0.out) | (with_reducible exact HQ1.out) | (with_reducible exact HQ2.out) | (with_reducible exact HQ3.out) | (with_reducible apply Box.new) | (with_reducible apply Box.newAt; simp; done) | (with_reducible apply Box.set) | (with_reducible apply Box.skip; omega) | (with_reducible apply Box.alloc) | (with_reducible apply Box.drew) | (with_reducible apply Box.row) | (with_reducible apply Box.skipRow; omega))) Try.underlying36 rfl (by rw [hcs0]; kernel_rfl) ?_) | (refine wpList_load_row rfl 45 _ rfl (w3.heap.size) rfl 45 CR0 (0, 0) _ (show Box _ (w3.heap.size) CR0 45 from by repeat (first | (with_reducible exact HP0.out) | (with_reducible exact HP1.out) | (with_reducible exact HP2.out) | (with_reducible exact HP3.out) | (with_reducible exact HP4.out) | (with_reducible exact HP5.out) | (with_reducible exact HP6.out) | (with_reducible exact HP7.out) | (with_reducible exact HP8.out) | (with_reducible exact HP9.out) | (with_reducible exact HP10.out) | (with_reducible exact HP11.out) | (with_reducible exact HQ0.out) | (with_reducible exact HQ1.out) | (with_reducible exact HQ2.out) | (with_reducible exact HQ3.out) | (with_reducible apply Box.new) | (with_reducible apply Box.newAt; simp; done) | (with_reducible apply Box.set) | (with_reducible apply Box.skip; omega) | (with_reducible apply Box.alloc) | (with_reducible apply Box.drew) | (with_reducible apply Box.row) | (with_reducible apply Box.skipRow; omega))) Try.underlying45 rfl (by rw [hcsR0]; kernel_rfl) ?_) | (refine wpList_load_row rfl 45 _ rfl (w5.heap.size) rfl 45 CR0 (0, 0) _ (show Box _ (w5.heap.size) CR0 45 from by repeat (first | (with_reducible exact HP0.out) | (with_reducible exact HP1.out) | (with_reducible exact HP2.out) | (with_reducible exact HP3.out) | (with_reducible exact HP4.out) | (with_reducible exact HP5.out) | (with_reducible exact HP6.out) | (with_reducible exact HP7.out) | (with_reducible exact HP8.out) | (with_reducible exact HP9.out) | (with_reducible exact HP10.out) | (with_reducible exact HP11.out) | (with_reducible exact HQ0.out) | (with_reducible exact HQ1.out) | (with_reducible exact HQ2.out) | (with_reducible exact HQ3.out) | (with_reducible apply Box.new) | (with_reducible apply Box.newAt; simp; done) | (with_reducible apply Box.set) | (with_reducible apply Box.skip; omega) | (with_reducible apply Box.alloc) | (with_reducible apply Box.drew) | (with_reducible apply Box.row) | (with_reducible apply Box.skipRow; omega))) Try.underlying45 rfl (by rw [hcsR0]; kernel_rfl) ?_))
  go_ret
  refine ⟨rfl, ?_⟩
  repeat (first | ((with_reducible refine Below.setCell ?_ ?_ _); rotate_left; first | omega | (dsimp only; omega) | (simp; done) | (simp; omega)) | ((with_reducible refine below_setRow ?_ ?_ _); rotate_left; first | omega | (dsimp only; omega) | (simp; done) | (simp; omega)) | with_reducible exact Below.refl _ _ | with_reducible exact below_new _ | with_reducible exact below_drew | with_reducible exact HB9.out | with_reducible exact HB8.out | (with_reducible refine below_touch ?_ HTT.out ?_; rotate_left; (exact fun k hk => by have := HTL.out k hk; omega)) | (with_reducible apply below_comp; rotate_left; first | with_reducible exact HB9.out | with_reducible exact HB8.out | with_reducible assumption | with_reducible exact below_new _ | with_reducible exact below_drew))

set_option maxRecDepth 100000 in
theorem lifted (os : Os) (started : os.Started) (H : Type) (enc : TypeId × Value → H) :
    ReturnsInHanded {} Try.checked os 7 .any (Rows.fnExactSingleSpec.pre6 enc Try.prog Try.f7 Rows.fnExactSingleRow.domain false) (Rows.fnExactSingleSpec.post enc Try.prog Try.f7 false true false false) := by
  refine returnsInHanded_of_change (C := Try.checked) own started (by kernel_rfl) Try.func7
    (ChangeSpec.witness6 (enc := enc) (C := Try.checked) false ⟨#[], #[.agg #[.int .i64 0, .int .i64 0, .int .i64 0, .int .i64 0, .int .i64 0, .int .i64 0, .int .i64 0, .int .i64 0, .int .i64 0, .int .i64 0, .int .i64 0, .int .i64 0, .int .i64 0, .int .i64 0, .int .i64 0, .string ByteArray.empty]], []⟩ 8 (by kernel_rfl) (by kernel_rfl) (by kernel_rfl) (by kernel_rfl)) ?_
  intro W base args ds gs before hval0 hW hcnd _
  have hval : ∀ (j : Nat) t v, Try.f7.params[j]? = some t → args[j]? = some v → Value.okWide Try.prog W .any base t v := hval0
  have hW' := hW
  obtain ⟨p, q, hA0, hV, rfl, hfz, hnd⟩ := hW
  have hA : DataW.TrodAll enc Try.prog W 0 (fun _ => true) true Try.f7.params.toList args.toList ds p := hA0
  rw [Try.params7] at hA hval
  obtain ⟨v0, vs0, d0, ds0, p0, q0, hargs, rfl, rfl, h0, r0⟩ := trodAll_cons hA
  obtain ⟨rfl, rfl, rfl⟩ := trodAll_nil r0
  obtain rfl : args = #[v0] := by cases args; simp_all
  obtain ⟨rfl, rfl⟩ := trodVars_none hV
  have lt0 : ∀ x ∈ p0, x.block < W.heap.size := by obtain ⟨m, hm⟩ := h0; exact DataW.trod_lt m _ _ _ hm
  have k0 := h0
  obtain ⟨a0, rfl, w0⟩ := OpPacket.opened (hval 0 36 v0 rfl rfl) h0
  clear hA0 hval0
  refine (walk W a0 w0).mono fun e W' ⟨he, bel⟩ => ?_
  subst he
  exact ⟨_, rfl, _, _, _, [], _, [], hW', trodAll_mk1 (shut_bool Try.underlying4 _), (trodAll_cons_mk (Below.trod laidOut (by kernel_rfl) (of_decide_eq_true (by kernel_rfl)) k0 bel lt0) trodAll_mk0), rfl, bel.frame _, fun h => by cases h⟩

theorem over : Rows.fnExactSingleRow.holds Try.pinned (OpenSpec.ofChange Rows.fnExactSingleSpec) :=
  OpenClaim.holds_of_wide 7 Try.f7 rfl rfl rfl rfl rfl rfl rfl ⟨rfl, rfl, rfl, rfl, rfl⟩ rfl rfl rfl rfl rfl (by kernel_rfl) Try.func7 (by kernel_rfl)
    (of_decide_eq_true (by kernel_rfl)) (by unfold Func.isWrapper; first | (rw [if_pos (by decide +kernel)]; kernel_rfl) | (rw [if_neg (by decide +kernel)]; exact ⟨rfl, rfl⟩))
    (fun os started H enc _ => lifted os started H enc)

/-- The statement. -/
theorem proved : Rows.FnExactSingleSaid := over

end Go.Proofs.Ythjajgpejfoghaa.fnExactSingle
