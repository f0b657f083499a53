/- The bytes of a segment: the plain mathematics. -/
import Derived.Test.YtkknfcnajgolfaaConvB
import Derived.Test.YtkknfcnajgolfaaPseudoB
import Derived.Test.YtkknfcnajgolfaaPutMath
namespace Go.Proofs.Ytkknfcnajgolfaa
/-- The bytes of a segment with a given checksum. -/
def SegM.udp (g : SegM) (c : Int) : ByteArray := w16 g.sport ++ w16 g.dport ++ w16 (8 + (g.body.size : Int)) ++ w16 c ++ g.body
def SegM.tcp (g : SegM) (c : Int) : ByteArray := w16 g.sport ++ w16 g.dport ++ w32 g.seq ++ w32 g.ack ++ two 80 (g.flags % 256) ++ w16 g.window ++ w16 c ++ w16 0 ++ g.body
def SegM.withSum (g : SegM) (c : Int) : ByteArray := if g.kind = 17 then g.udp c else g.tcp c
theorem SegM.udp_size (g : SegM) (c : Int) : (g.udp c).size = 8 + g.body.size := by
  unfold SegM.udp
  simp only [ByteArray.size_append]
  rfl
theorem SegM.tcp_size (g : SegM) (c : Int) : (g.tcp c).size = 20 + g.body.size := by
  unfold SegM.tcp
  simp only [ByteArray.size_append]
  rfl
theorem put_mid (A B C T : ByteArray) (p : Nat) (hp : A.size = p) (hT : T.size = B.size) : put (A ++ B ++ C) p T = A ++ T ++ C := by
  have hl : (put (A ++ B ++ C) p T).data.toList = (A ++ T ++ C).data.toList := by
    rw [put_list (A ++ B ++ C) T p (by simp only [ByteArray.size_append]; omega)]
    have hA : A.data.toList.length = p := by rw [← hp]; simp
    have hB : B.data.toList.length = T.size := by rw [hT]; simp
    simp only [ByteArray.data_append, Array.toList_append, List.append_assoc]
    rw [List.take_append_of_le_length (by omega), List.take_of_length_le (by omega), List.drop_append, hA, List.drop_of_length_le (by omega), List.nil_append,
      show p + T.size - p = B.data.toList.length from by omega, List.drop_left]
  exact WideShapes.bytes_inj hl
theorem put_udp (g : SegM) (c : Int) : put (g.udp 0) 6 (w16 c) = g.udp c := by
  unfold SegM.udp
  exact put_mid (w16 g.sport ++ w16 g.dport ++ w16 (8 + (g.body.size : Int))) (w16 0) g.body (w16 c) 6 rfl rfl
theorem put_tcp (g : SegM) (c : Int) : put (g.tcp 0) 16 (w16 c) = g.tcp c := by
  unfold SegM.tcp
  rw [ByteArray.append_assoc (c := g.body), ByteArray.append_assoc (c := g.body)]
  exact put_mid (w16 g.sport ++ w16 g.dport ++ w32 g.seq ++ w32 g.ack ++ two 80 (g.flags % 256) ++ w16 g.window) (w16 0) (w16 0 ++ g.body) (w16 c) 16 rfl rfl
theorem tcp_zero (g : SegM) : w16 g.sport ++ w16 g.dport ++ w32 g.seq ++ w32 g.ack ++ two 80 (g.flags % 256) ++ w16 g.window ++ w32 0 ++ g.body = g.tcp 0 := by
  unfold SegM.tcp
  rw [show w32 0 = w16 0 ++ w16 0 from rfl]
  simp only [ByteArray.append_assoc]
def SegM.len (g : SegM) : Int := ((g.withSum 0).size : Int)
/-- The checksum that is written. -/
def SegM.raw (g : SegM) (s d : Int) : Int := 65535 - sumW (pseudoB s d g.kind g.len ++ g.withSum 0)
def SegM.check (g : SegM) (s d : Int) : Int := if g.raw s d = 0 ∧ g.kind = 17 then 65535 else g.raw s d
theorem SegM.raw_bd (g : SegM) (s d : Int) : 0 ≤ g.raw s d ∧ g.raw s d ≤ 65535 := by
  have := sumW_bd (pseudoB s d g.kind g.len ++ g.withSum 0)
  unfold SegM.raw
  omega
theorem SegM.check_bd (g : SegM) (s d : Int) : 0 ≤ g.check s d ∧ g.check s d ≤ 65535 := by
  have := g.raw_bd s d
  unfold SegM.check
  split <;> omega
def SegM.OkB (g : SegM) (s d : Int) : Prop := g.Ok ∧ pseudoOk s d g.kind g.len
instance (g : SegM) (s d : Int) : Decidable (g.OkB s d) := by unfold SegM.OkB; infer_instance
def SegM.built (g : SegM) (s d : Int) : ByteArray := if g.OkB s d then g.withSum (g.check s d) else ⟨#[]⟩
end Go.Proofs.Ytkknfcnajgolfaa
