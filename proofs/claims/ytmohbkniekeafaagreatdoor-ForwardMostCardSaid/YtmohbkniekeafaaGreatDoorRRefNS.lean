/- PadAR + RNumber + ShapeAR + ShapeR -/
import Derived.Test.YtmohbkniekeafaaGreatDoorRS


namespace Go.Proofs.YtmohbkniekeafaaGreatDoor
open Go.RowKit

/-- the whole table, as the reference has it -/
def whole : List Form := pT ++ cT
def No2 (L : List Form) (k : Nat) (c : Int) (t : UInt16) : Prop := ∀ (j : Nat) (f : Form), j < k → L[j]? = some f → ¬ (f.cl = c ∧ f.ty = t)
theorem No2.zero (L : List Form) (c : Int) (t : UInt16) : No2 L 0 c t := fun j _ h => absurd h (by omega)
theorem No2.next {L : List Form} {k : Nat} {c : Int} {t : UInt16} {f : Form} (h : No2 L k c t) (hf : L[k]? = some f) (hn : ¬ (f.cl = c ∧ f.ty = t)) : No2 L (k + 1) c t := fun j g hj hg => by
  by_cases hk : j = k
  · subst hk; rw [hf] at hg; cases hg; exact hn
  · exact h j g (by omega) hg
/-! ### Fits of the reference -/
end Go.Proofs.YtmohbkniekeafaaGreatDoor


