/- A loop over an iterator that keeps variables of its own in memory: what the caller's rounds hold stays where the iterator writes a block of its own. Over whatever program. -/
import Derived.Test.YtmohbkniekeafaaGreatDoorQA

namespace Go.Proofs.YtmohbkniekeafaaGreatDoor
open Go.RowKit

/-- the caller's J stays where a block of cells (of a type that T takes in) is written that the caller's rounds do not write (G) -/
def KeepJ {β : Type} (X : Nat) (T : TypeId → Prop) (G : World → Nat → Prop) (J : β → World → Prop) : Prop := ∀ s A g i u cs t z, J s A → X ≤ g → A.heap[g]? = some (.cells cs t z) → T t → ¬ G A g → J s (A.setCell ⟨g, i, none⟩ u)
/-- what the caller's rounds may write stays where memory grows, or an object that is no block of cells turns -/
def GOwnN (X : Nat) (G : World → Nat → Prop) : Prop := ∀ A B row, X ≤ A.heap.size → A.grownBy B row → (∀ r, row = some r → X ≤ r ∧ ∃ o : Obj, A.heap[r]? = some o ∧ o.isCells = false) → ∀ i, G B i → G A i
end Go.Proofs.YtmohbkniekeafaaGreatDoor


