/- NewTable of both sides. -/
import Derived.Test.YthjajgpejfoghabRepFlowTable
import Derived.Laws.OwnMore
namespace Go.Proofs.Ythjajgpejfoghab
open Go.RowKit
set_option linter.unusedSimpArgs false
set_option linter.unusedVariables false

theorem Try.infoSlot : (Try.prog.info? 142).map (fun i => (i.zero, i.size, i.bytes)) = some (some (.agg #[.int .i64 0, .int .i64 0, .int .i64 0, .int .i64 0, .int .i64 0, .int .i64 0, .int .i64 0]), 7, 56) := by kernel_rfl
def SlotM.zero : SlotM := ⟨0, ⟨0, 0, 0, 0, 0⟩, 0⟩
def newTableM : FlowTableM := ⟨List.replicate 8 SlotM.zero⟩
theorem zero_slots : (madeCells (Value.agg #[.int .i64 0, .int .i64 0, .int .i64 0, .int .i64 0, .int .i64 0, .int .i64 0, .int .i64 0]).cells (8 * 7)).toList = (newTableM.xSlots.map SlotM.arr).flatMap (·.toList) := by
  have h := made_flat SlotM.zero.arr 8 (by decide)
  rw [show (8 : Nat) * SlotM.zero.arr.size = 8 * 7 from rfl] at h
  rw [show newTableM.xSlots.map SlotM.arr = List.replicate 8 SlotM.zero.arr from rfl, ← h]
  rfl
def OwnTable (w : World) (t : FlowTableM) (e : Ending) (w' : World) : Prop := ∃ v, e = .returned v ∧ t.Rep w' (Rng w.heap.size w'.heap.size) v ∧ Below w.heap.size w w'

set_option maxHeartbeats 4000000 in
set_option maxRecDepth 100000 in
theorem spec_newtable (w : World) : Calls Try.prog 42 #[] w (OwnTable w newTableM) := by
  obtain ⟨i0, hi, hz0, hz1, hz2⟩ := info_parts Try.infoSlot
  go_enter Try.func42, Try.ntmps42
  go_wp2_with (at_make; refine wpList_make_full _ rfl _ _ 68 rfl (w.heap.size + 1) 142 i0 _ 7 Try.underlying68 hi hz0 hz1 .i64 .i64 _ _ 8 rfl rfl rfl rfl (by rw [hz2]; omega) (by unfold maxLen; omega) (by simp) ?_; intro w0 hown0 hgrow0; have K0 : Box w0 w.heap.size #[.slice none 0 0] 70 := (hgrow0.block _ (by simp) (by simp)).trans (Box.new w _ _); have c0 := K0.cell 0 (by simp); have f0 := fun j => K0.frozen j; have HK0 := Lib.hid K0; clear K0; (try simp only [List.getElem_toArray, List.getElem_cons_zero] at c0))
  have HO := Lib.hid hown0
  have HG := Lib.hid hgrow0
  clear hown0 hgrow0
  apply bodyPost_row (g := w.heap.size) rfl rfl Try.underlying70 rfl
  focus (exact Box.set HK0.out)
  focus (kernel_rfl)
  focus (rfl)
  have hlt : w.heap.size + 1 < w0.heap.size := by
    have h := HO.out.lt (w.heap.size + 1) (by simp [Value.ownBlock])
    exact h.2
  have hr : Row w0 (Rng (w.heap.size + 1) w0.heap.size) 142 7 _ (newTableM.xSlots.map SlotM.arr) := Row.of_own (by rw [← zero_slots]; exact HO.out) rfl (fun x hx => by
    obtain ⟨y, _, rfl⟩ := List.mem_map.1 hx
    rfl)
  refine ⟨_, rfl, ⟨Rng (w.heap.size + 1) w0.heap.size, _, by (try simp only [List.setIfInBounds_toArray, List.set_cons_zero]); simp, hr.set (fun h => by have := h.1; omega), fun k hk => ⟨by have := hk.1; omega, by have := hk.2; simpa using this⟩⟩, ?_⟩
  exact Below.setCell ((below_new _).grown HG.out (by simp) (by intro k hk; cases hk)) (by simp) _

set_option maxHeartbeats 4000000 in
set_option maxRecDepth 100000 in
theorem impl_newtable (w : World) : Calls Try.prog 43 #[] w (OwnTable w newTableM) := by
  obtain ⟨i0, hi, hz0, hz1, hz2⟩ := info_parts Try.infoSlot
  go_enter Try.func43, Try.ntmps43
  go_wp2_with (at_make; refine wpList_make_full _ rfl _ _ 68 rfl (w.heap.size + 1) 142 i0 _ 7 Try.underlying68 hi hz0 hz1 .i64 .i64 _ _ 8 rfl rfl rfl rfl (by rw [hz2]; omega) (by unfold maxLen; omega) (by simp) ?_; intro w0 hown0 hgrow0; have K0 : Box w0 w.heap.size #[.slice none 0 0] 70 := (hgrow0.block _ (by simp) (by simp)).trans (Box.new w _ _); have c0 := K0.cell 0 (by simp); have f0 := fun j => K0.frozen j; have HK0 := Lib.hid K0; clear K0; (try simp only [List.getElem_toArray, List.getElem_cons_zero] at c0))
  have HO := Lib.hid hown0
  have HG := Lib.hid hgrow0
  clear hown0 hgrow0
  apply bodyPost_row (g := w.heap.size) rfl rfl Try.underlying70 rfl
  focus (exact Box.set HK0.out)
  focus (kernel_rfl)
  focus (rfl)
  have hlt : w.heap.size + 1 < w0.heap.size := by
    have h := HO.out.lt (w.heap.size + 1) (by simp [Value.ownBlock])
    exact h.2
  have hr : Row w0 (Rng (w.heap.size + 1) w0.heap.size) 142 7 _ (newTableM.xSlots.map SlotM.arr) := Row.of_own (by rw [← zero_slots]; exact HO.out) rfl (fun x hx => by
    obtain ⟨y, _, rfl⟩ := List.mem_map.1 hx
    rfl)
  refine ⟨_, rfl, ⟨Rng (w.heap.size + 1) w0.heap.size, _, by (try simp only [List.setIfInBounds_toArray, List.set_cons_zero]); simp, hr.set (fun h => by have := h.1; omega), fun k hk => ⟨by have := hk.1; omega, by have := hk.2; simpa using this⟩⟩, ?_⟩
  exact Below.setCell ((below_new _).grown HG.out (by simp) (by intro k hk; cases hk)) (by simp) _

end Go.Proofs.Ythjajgpejfoghab
