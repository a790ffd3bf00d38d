/- Layer 12: Same. It writes nothing that was there. -/
import Derived.Test.YtgjmgphmakiffaaGreatDoorQCA
import Derived.Test.YtgjmgphmakiffaaGreatDoorQNF
import Derived.Test.YtgjmgphmakiffaaGreatDoorQA
import Derived.BigGuard




namespace Go.Proofs.YtgjmgphmakiffaaGreatDoor
open Go.RowKit

def ckEq (a b : Ck) : Bool := decide (a.t = b.t) && (decide (a.fl = b.fl) && (decide (a.d = b.d) && beqL a.ks b.ks))
end Go.Proofs.YtgjmgphmakiffaaGreatDoor


