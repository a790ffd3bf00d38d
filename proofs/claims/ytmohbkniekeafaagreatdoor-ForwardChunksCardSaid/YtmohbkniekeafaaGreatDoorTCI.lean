/- Layer 12: Same. It writes nothing that was there. -/
import Derived.Test.YtmohbkniekeafaaGreatDoorTCA
import Derived.Test.YtmohbkniekeafaaGreatDoorTNF
import Derived.Test.YtmohbkniekeafaaGreatDoorTA
import Derived.Laws.BytesArg
import Derived.BigGuard




namespace Go.Proofs.YtmohbkniekeafaaGreatDoor
open Go.RowKit

def ckEq (a b : Ck) : Bool := decide (a.t = b.t) && (decide (a.fl = b.fl) && (decide (a.d = b.d) && beqL a.ks b.ks))
end Go.Proofs.YtmohbkniekeafaaGreatDoor


