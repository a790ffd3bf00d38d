/- Layer 13: the chunk of a description, the description of a chunk. Mathematics alone. -/
/- Layer 13: Make (its region by tools/gen_data_k.py). It writes nothing that was there. -/
import Derived.Test.YteknmgmdmjmnmaaGreatDoorUDA
import Derived.Test.YteknmgmdmjmnmaaGreatDoorUNF
import Derived.Deep.RegionHeld3
import Derived.Deep.Cut
import Derived.Laws.StructEq
import Derived.Test.YteknmgmdmjmnmaaGreatDoorUA
import Derived.Laws.BytesArg
import Derived.Test.YteknmgmdmjmnmaaGreatDoorUTA
import Derived.Test.YteknmgmdmjmnmaaGreatDoorUCE
import Derived.Test.YteknmgmdmjmnmaaGreatDoorUW
import Derived.Test.YteknmgmdmjmnmaaGreatDoorUS
import Derived.Test.YteknmgmdmjmnmaaGreatDoorUSplitR
import Derived.Laws.Tables



namespace Go.Proofs.YteknmgmdmjmnmaaGreatDoor
open Go.RowKit

def nrd (d : List UInt8) (at_ k : Nat) : UInt32 := UInt32.ofNat (numOf ((d.drop at_).take k))
theorem nrd_be4 (x : UInt32) : UInt32.ofNat (numOf (be 4 x)) = x := by
  refine UInt32.toNat_inj.1 ?_
  rw [u32_ofNat (numOf_lt _), numOf_be (.inr (.inr rfl))]
  exact Nat.mod_eq_of_lt x.toNat_lt
end Go.Proofs.YteknmgmdmjmnmaaGreatDoor










namespace Go.Proofs.YteknmgmdmjmnmaaGreatDoor
open Go.RowKit

set_option linter.unusedSimpArgs false
theorem own_set13 {W : World} {base e n g i : Nat} {v u : Value} {xs : List Value} {t : TypeId} {cs : Array Value} (h : W.ownsRow base e 1 v n xs) (hz : Whole W g t cs) (hte : t ≠ e) : (W.setCell ⟨g, i, none⟩ u).ownsRow base e 1 v n xs :=
  h.kept (grownBy_setCell1 W g i u) (.inr (whole_row_ne hz hte h))
end Go.Proofs.YteknmgmdmjmnmaaGreatDoor


