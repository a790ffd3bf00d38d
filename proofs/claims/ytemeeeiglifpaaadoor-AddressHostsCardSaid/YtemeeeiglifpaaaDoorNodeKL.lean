/- NodeK + NodeL -/
import Derived.Test.YtemeeeiglifpaaaDoorNodeAD
import Derived.Test.YtemeeeiglifpaaaDoorWireA
import Derived.Test.YtemeeeiglifpaaaDoorErrA
import Derived.Test.YtemeeeiglifpaaaDoorNodeHJ



namespace Go.Proofs.YtemeeeiglifpaaaDoor
open Go.RowKit

inductive NR where
  | ok (n : Nd)
  | bad (code at_ : Nat)
/-! ### the offsets lie in the bytes -/
end Go.Proofs.YtemeeeiglifpaaaDoor

