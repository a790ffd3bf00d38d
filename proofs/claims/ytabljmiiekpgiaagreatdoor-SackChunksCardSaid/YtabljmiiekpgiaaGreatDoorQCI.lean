/- Layer 12: Same. It writes nothing that was there. -/
import Derived.Test.YtabljmiiekpgiaaGreatDoorQCA
import Derived.Test.YtabljmiiekpgiaaGreatDoorQNF
import Derived.Test.YtabljmiiekpgiaaGreatDoorQA
import Derived.Laws.BytesArg
import Derived.BigGuard




namespace Go.Proofs.YtabljmiiekpgiaaGreatDoor
open Go.RowKit

def ckEq (a b : Ck) : Bool := decide (a.t = b.t) && (decide (a.fl = b.fl) && (decide (a.d = b.d) && beqL a.ks b.ks))
end Go.Proofs.YtabljmiiekpgiaaGreatDoor


