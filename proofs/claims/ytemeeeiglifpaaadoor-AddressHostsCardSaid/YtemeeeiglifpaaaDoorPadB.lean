/- Layer 3, package pad: Next, for whatever bytes and numbers. They write nothing that was there. -/
import Derived.Test.YtemeeeiglifpaaaDoorPadA

namespace Go.Proofs.YtemeeeiglifpaaaDoor
open Go.RowKit

def Good (b : List UInt8) (n : Int) : Prop := 0 ≤ n ∧ up n.toNat ≤ b.length ∧ zeroB ((b.drop n.toNat).take (gap n.toNat)) = true
instance (b : List UInt8) (n : Int) : Decidable (Good b n) := by unfold Good; infer_instance
end Go.Proofs.YtemeeeiglifpaaaDoor

