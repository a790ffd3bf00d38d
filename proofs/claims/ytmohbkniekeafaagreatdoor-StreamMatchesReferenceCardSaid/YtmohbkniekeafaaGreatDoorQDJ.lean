/- Layer 13: the chunk of a description, the description of a chunk. Mathematics alone. -/
/- Layer 13: bytesOf. -/
/- Layer 13: Make (its region by tools/gen_data_k.py). It writes nothing that was there. -/
import Derived.Test.YtmohbkniekeafaaGreatDoorQDA
import Derived.Test.YtmohbkniekeafaaGreatDoorQNF
import Derived.Deep.RegionHeld3
import Derived.Deep.Cut
import Derived.Laws.StructEq
import Derived.Test.YtmohbkniekeafaaGreatDoorQA
import Derived.Laws.BytesArg
import Derived.Test.YtmohbkniekeafaaGreatDoorQTA
import Derived.Test.YtmohbkniekeafaaGreatDoorQCG
import Derived.Test.YtmohbkniekeafaaGreatDoorQW
import Derived.Test.YtmohbkniekeafaaGreatDoorQS
import Derived.Test.YtmohbkniekeafaaGreatDoorQHX
import Derived.Laws.Tables



namespace Go.Proofs.YtmohbkniekeafaaGreatDoor
open Go.RowKit

def nrd (d : List UInt8) (at_ k : Nat) : UInt32 := UInt32.ofNat (numOf ((d.drop at_).take k))
theorem nrd_toNat (d : List UInt8) (at_ k : Nat) : (nrd d at_ k).toNat = numOf ((d.drop at_).take k) := u32_ofNat (numOf_lt _)
theorem nrd_be4 (x : UInt32) : UInt32.ofNat (numOf (be 4 x)) = x := by
  refine UInt32.toNat_inj.1 ?_
  rw [u32_ofNat (numOf_lt _), numOf_be (.inr (.inr rfl))]
  exact Nat.mod_eq_of_lt x.toNat_lt
end Go.Proofs.YtmohbkniekeafaaGreatDoor





namespace Go.Proofs.YtmohbkniekeafaaGreatDoor
open Go.RowKit

set_option linter.unusedSimpArgs false
theorem lies_new (w : World) (l : List UInt32) : Lies (w.alloc (.cells (l.map uv).toArray 22)) (w.heap.size + 1) (some ⟨w.heap.size, 0, none⟩) (l.map uv) := Lies.newN w _ _
end Go.Proofs.YtmohbkniekeafaaGreatDoor










namespace Go.Proofs.YtmohbkniekeafaaGreatDoor
open Go.RowKit

set_option linter.unusedSimpArgs false
theorem own_set13 {W : World} {base e n g i : Nat} {v u : Value} {xs : List Value} {t : TypeId} {cs : Array Value} (h : W.ownsRow base e 1 v n xs) (hz : Whole W g t cs) (hte : t ≠ e) : (W.setCell ⟨g, i, none⟩ u).ownsRow base e 1 v n xs :=
  h.kept (grownBy_setCell1 W g i u) (.inr (whole_row_ne hz hte h))
end Go.Proofs.YtmohbkniekeafaaGreatDoor


