/- Mailbox that came in. -/
import Derived.Test.YtfbnjemmmgobkaaAMOpen
import Derived.Test.YtfbnjemmmgobkaaAMRepMailbox
import Derived.Test.YtfbnjemmmgobkaaAvInt
import Derived.Test.YtfbnjemmmgobkaaAvFilterR
namespace Go.Proofs.Ytfbnjemmmgobkaa
open AM Go.Joins Go.ChangeShapes Go.WideShapes Go.RowKit Go.Deep
set_option linter.unusedVariables false
set_option linter.unusedSimpArgs false
def MailboxR.pv (e : MailboxR) : List PV := [pI (e.xFilter.xMac), .val (.bool (e.xFilter.xPromiscuous)), .view 1 (e.xFilter.xVlans.map IntE.pv), pI (e.xLast), pI (e.xAnswer), pI (e.xDone)]
def MailboxR.Wf (e : MailboxR) : Prop := I64 e.xFilter.xMac ∧ (e.xFilter.xVlans.length ≤ maxLen ∧ ∀ y ∈ e.xFilter.xVlans, I64 y) ∧ I64 e.xLast ∧ I64 e.xAnswer ∧ I64 e.xDone
namespace AvMailboxR
section
variable {H : Type} {enc : TypeId × Value → H} {w : World} {base : Nat} {spare : Nat → Bool} {held : Bool}

set_option maxRecDepth 100000 in
theorem el {n0 : Nat} {cs : List Value} {x : DataW H × List MemPlace} (hf : DataW.trod enc Try.prog w base spare held n0 122 cs = some x) : ∃ e : MailboxR, ElPV w cs e.pv ∧ e.Wf := by
  obtain ⟨_, _, _, _, hlen, _, _⟩ := DataW.trod_struct Try.underlying122 hf
  rw [show Try.prog.cellsOf 122 = 6 by kernel_rfl] at hlen
  match cs, hlen with
  | [c0, c1, c2, c3, c4, c5], _ =>
    obtain ⟨yq_0, nq_0, gq_0⟩ := open_parts Try.underlying122 hf 0 _ rfl
    have hq_0 : DataW.trod enc Try.prog w base spare held nq_0 120 [c0, c1, c2] = some yq_0 := by simpa [show Try.prog.cellsOf 120 = 3 by kernel_rfl] using gq_0
    obtain ⟨yq_0_0, nq_0_0, gq_0_0⟩ := open_parts Try.underlying120 hq_0 0 _ rfl
    have hq_0_0 : DataW.trod enc Try.prog w base spare held nq_0_0 3 [c0] = some yq_0_0 := by simpa [show Try.prog.cellsOf 3 = 1 by kernel_rfl] using gq_0_0
    obtain ⟨aq_0_0, rfl, wq_0_0⟩ := part_int Try.underlying3 hq_0_0
    obtain ⟨yq_0_1, nq_0_1, gq_0_1⟩ := open_parts Try.underlying120 hq_0 1 _ rfl
    have hq_0_1 : DataW.trod enc Try.prog w base spare held nq_0_1 4 [c1] = some yq_0_1 := by simpa [show Try.prog.cellsOf 4 = 1 by kernel_rfl] using gq_0_1
    obtain ⟨aq_0_1, rfl⟩ := part_bool Try.underlying4 hq_0_1
    obtain ⟨yq_0_2, nq_0_2, gq_0_2⟩ := open_parts Try.underlying120 hq_0 2 _ rfl
    have hq_0_2 : DataW.trod enc Try.prog w base spare held nq_0_2 22 [c2] = some yq_0_2 := by simpa [show Try.prog.cellsOf 22 = 1 by kernel_rfl] using gq_0_2
    obtain ⟨lq_0_2, vq_0_2, oq_0_2, mq_0_2, wq_0_2⟩ := AvInt.view hq_0_2
    obtain ⟨yq_1, nq_1, gq_1⟩ := open_parts Try.underlying122 hf 1 _ rfl
    have hq_1 : DataW.trod enc Try.prog w base spare held nq_1 3 [c3] = some yq_1 := by simpa [show Try.prog.cellsOf 3 = 1 by kernel_rfl] using gq_1
    obtain ⟨aq_1, rfl, wq_1⟩ := part_int Try.underlying3 hq_1
    obtain ⟨yq_2, nq_2, gq_2⟩ := open_parts Try.underlying122 hf 2 _ rfl
    have hq_2 : DataW.trod enc Try.prog w base spare held nq_2 3 [c4] = some yq_2 := by simpa [show Try.prog.cellsOf 3 = 1 by kernel_rfl] using gq_2
    obtain ⟨aq_2, rfl, wq_2⟩ := part_int Try.underlying3 hq_2
    obtain ⟨yq_3, nq_3, gq_3⟩ := open_parts Try.underlying122 hf 3 _ rfl
    have hq_3 : DataW.trod enc Try.prog w base spare held nq_3 3 [c5] = some yq_3 := by simpa [show Try.prog.cellsOf 3 = 1 by kernel_rfl] using gq_3
    obtain ⟨aq_3, rfl, wq_3⟩ := part_int Try.underlying3 hq_3
    exact ⟨⟨⟨aq_0_0, aq_0_1, lq_0_2⟩, aq_1, aq_2, aq_3⟩, elPV_val rfl (elPV_val rfl (elPV_cons vq_0_2 oq_0_2 (elPV_val rfl (elPV_val rfl (elPV_val rfl (elPV_nil)))))), ⟨i64_bd wq_0_0, ⟨mq_0_2, wq_0_2⟩, i64_bd wq_1, i64_bd wq_2, i64_bd wq_3⟩⟩
set_option maxRecDepth 100000 in
theorem opened {r : Reach} {b0 : Nat} {v : Value} {d : DataW H} {p : List MemPlace} (hv : Value.okWide Try.prog w r b0 122 v) (h : DataW.Trod enc Try.prog w base spare held 122 v d p) : ∃ (e : MailboxR) (cs : List Value), v = .agg cs.toArray ∧ ElPV w cs e.pv ∧ e.Wf := by
  obtain ⟨cs, rfl, hsz⟩ := okWide_struct Try.underlying122 hv
  obtain ⟨fuel, hf0⟩ := h
  have hf : DataW.trod enc Try.prog w base spare held fuel 122 cs.toList = some _ := hf0
  obtain ⟨e, h1, h2⟩ := el hf
  exact ⟨e, cs.toList, by simp, h1, h2⟩
end
end AvMailboxR
end Go.Proofs.Ytfbnjemmmgobkaa
