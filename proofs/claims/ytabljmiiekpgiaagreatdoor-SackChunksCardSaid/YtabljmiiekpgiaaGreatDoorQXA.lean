/- Layer 13: what an argument that is a description reads as. No condition of its own. -/
import Derived.Test.YtabljmiiekpgiaaGreatDoorQNS
import Derived.Test.YtabljmiiekpgiaaGreatDoorQA
import Derived.Test.YtabljmiiekpgiaaGreatDoorQNodeUO
import Derived.Test.YtabljmiiekpgiaaGreatDoorQCX
import Derived.Test.YtabljmiiekpgiaaGreatDoorQDA
import Derived.ProofKit
import Derived.OpenShut
import Derived.LaidMore
import Derived.LaidHandle
import Derived.Lay
import Derived.Stop.Joined











namespace Go.Proofs.YtabljmiiekpgiaaGreatDoor
open Go.ChangeShapes Go.WideShapes Go.ChangeAt Go.RowKit

theorem uv_of13 {z : Int} (h : 0 ≤ z ∧ z < 4294967296) : Value.int .u32 z = uv (UInt32.ofNat z.toNat) := by
  rw [uv, UInt32.toNat_ofNat']
  congr 1
  omega
section
variable {H : Type} {enc : TypeId × Value → H} {w : World} {fuel : Nat} {x : DataW H × List MemPlace}
end
section
variable {H : Type} {enc : TypeId × Value → H} {w : World} {base : Nat} {v : Value} {d : DataW H} {p : List MemPlace}
end
end Go.Proofs.YtabljmiiekpgiaaGreatDoor


