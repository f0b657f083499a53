/- The abstract machine: numbers of blocks found by unification. -/
import Derived.Test.YtfbnjemmmgobkaaAM23
namespace Go.Proofs.Ytfbnjemmmgobkaa
open Go.RowKit
namespace AM
theorem iot_0 {H a : Nat} {l : List Nat} : iot H (a :: l) 0 = a := rfl
theorem iot_1 {H a b : Nat} {l : List Nat} : iot H (a :: b :: l) 1 = b := rfl
theorem iot_2 {H a b c : Nat} {l : List Nat} : iot H (a :: b :: c :: l) 2 = c := rfl
theorem iot_3 {H a b c d : Nat} {l : List Nat} : iot H (a :: b :: c :: d :: l) 3 = d := rfl
theorem weakE_a1 {a n0 : Nat} {t t2 : Slots} {h h2 : Heap} (hs : SlotsW (iot h.length [a]) 1 t t2) (hh : HeapW (iot h.length [a]) 1 h [a] h2) (hnd : decide ([a] : List Nat).Nodup = true) (hlo : lowB n0 [a] = true) : WeakE n0 t h t2 h2 := weakE_of [a] rfl rfl hnd hlo hs hh
theorem weakE_a2 {a b n0 : Nat} {t t2 : Slots} {h h2 : Heap} (hs : SlotsW (iot h.length [a, b]) 2 t t2) (hh : HeapW (iot h.length [a, b]) 2 h [a, b] h2) (hnd : decide ([a, b] : List Nat).Nodup = true) (hlo : lowB n0 [a, b] = true) : WeakE n0 t h t2 h2 := weakE_of [a, b] rfl rfl hnd hlo hs hh
theorem weakE_a3 {a b c n0 : Nat} {t t2 : Slots} {h h2 : Heap} (hs : SlotsW (iot h.length [a, b, c]) 3 t t2) (hh : HeapW (iot h.length [a, b, c]) 3 h [a, b, c] h2) (hnd : decide ([a, b, c] : List Nat).Nodup = true) (hlo : lowB n0 [a, b, c] = true) : WeakE n0 t h t2 h2 := weakE_of [a, b, c] rfl rfl hnd hlo hs hh
end AM
end Go.Proofs.Ytfbnjemmmgobkaa
