/- Layer 3, package pad and its reference: Bytes, for whatever bytes: what is handed back is a new row. -/
import Derived.Laws.CopyOwn
import Derived.Test.YtemeeeiglifpaaaDoorPadB


namespace Go.Proofs.YtemeeeiglifpaaaDoor
open Go.RowKit

def padB (b : List UInt8) : List UInt8 := b ++ List.replicate (gap b.length) 0
theorem padB_len (b : List UInt8) : (padB b).length = up b.length := by simp [padB, up]

end Go.Proofs.YtemeeeiglifpaaaDoor

