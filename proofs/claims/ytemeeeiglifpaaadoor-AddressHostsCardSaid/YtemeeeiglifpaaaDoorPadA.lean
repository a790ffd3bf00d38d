/- Layer 3, package pad and its reference: Gap, Up, Zero, Next, for whatever numbers and bytes. They write nothing that was there. -/
import Derived.Test.YtemeeeiglifpaaaDoorChecked
import Derived.Test.YtemeeeiglifpaaaDoorSame


namespace Go.Proofs.YtemeeeiglifpaaaDoor
open Go.RowKit

/-! ### the numbers -/
def gap (n : Nat) : Nat := (4 - n % 4) % 4
def up (n : Nat) : Nat := n + gap n
/-! ### Zero -/
def zeroB (l : List UInt8) : Bool := l.all (· == 0)
end Go.Proofs.YtemeeeiglifpaaaDoor

