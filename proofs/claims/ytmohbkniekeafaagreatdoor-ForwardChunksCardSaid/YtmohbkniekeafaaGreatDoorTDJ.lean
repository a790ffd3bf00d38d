/- Layer 13: the chunk of a description, the description of a chunk. Mathematics alone. -/
/- Layer 13: bytesOf. -/
import Derived.Test.YtmohbkniekeafaaGreatDoorTDataF
import Derived.Test.YtmohbkniekeafaaGreatDoorTA
import Derived.Laws.BytesArg
import Derived.Test.YtmohbkniekeafaaGreatDoorTNF
import Derived.Deep.RegionHeld3
import Derived.Deep.Cut
import Derived.Test.YtmohbkniekeafaaGreatDoorTTA
import Derived.Test.YtmohbkniekeafaaGreatDoorTCG
import Derived.Test.YtmohbkniekeafaaGreatDoorTW



namespace Go.Proofs.YtmohbkniekeafaaGreatDoor
open Go.RowKit

def nrd (d : List UInt8) (at_ k : Nat) : UInt32 := UInt32.ofNat (numOf ((d.drop at_).take k))
theorem nrd_toNat (d : List UInt8) (at_ k : Nat) : (nrd d at_ k).toNat = numOf ((d.drop at_).take k) := u32_ofNat (numOf_lt _)
theorem numOf2_lt (l : List UInt8) (h : l.length = 2) : numOf l < 65536 := by
  match l, h with
  | [a, b], _ =>
    rw [numOf_pair]
    have := a.toNat_lt
    have := b.toNat_lt
    omega
end Go.Proofs.YtmohbkniekeafaaGreatDoor





namespace Go.Proofs.YtmohbkniekeafaaGreatDoor
open Go.RowKit

set_option linter.unusedSimpArgs false
theorem lies_new (w : World) (l : List UInt32) : Lies (w.alloc (.cells (l.map uv).toArray 22)) (w.heap.size + 1) (some ⟨w.heap.size, 0, none⟩) (l.map uv) := Lies.newN w _ _
end Go.Proofs.YtmohbkniekeafaaGreatDoor


