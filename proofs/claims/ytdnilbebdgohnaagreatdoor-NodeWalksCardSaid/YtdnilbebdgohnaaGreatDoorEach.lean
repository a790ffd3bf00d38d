/- A loop over an iterator whose body never leaves it, where what the iterator says at its end speaks of the memory too (the elements that have come lie in memory that the iterator made). Over whatever program. -/
import Derived.Test.YtdnilbebdgohnaaGreatDoorRange

namespace Go.Proofs.YtdnilbebdgohnaaGreatDoor
open Go.RowKit

/-- how a body that never leaves the loop ends -/
def onward {α : Type} (B : Nat) (Kp : World → World → Prop) (I : List α → World → Prop) (xs : List α) (W : World) : Exit → Act → World → Prop
  | .normal, _, W' => KeepsFrom B W W' ∧ Kp W W' ∧ I xs W'
  | .ret, _, _ => False
  | .exit _, _, _ => False
  | .goto _, _, _ => False
  | .panic _, _, _ => False
  | .outgrown, _, _ => False

end Go.Proofs.YtdnilbebdgohnaaGreatDoor

