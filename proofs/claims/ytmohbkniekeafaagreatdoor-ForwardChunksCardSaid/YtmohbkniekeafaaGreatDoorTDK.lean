/- Layer 13: Make (its region by tools/gen_data_k.py). It writes nothing that was there. -/
/- Layer 13: Of (its regions by tools/gen_data_m.py). It writes nothing that was there. -/
import Derived.Test.YtmohbkniekeafaaGreatDoorTDJ
import Derived.Test.YtmohbkniekeafaaGreatDoorTS
import Derived.Test.YtmohbkniekeafaaGreatDoorTHX
import Derived.Test.YtmohbkniekeafaaGreatDoorTNF
import Derived.Deep.RegionHeld3
import Derived.Deep.Cut
import Derived.Laws.Tables
import Derived.Test.YtmohbkniekeafaaGreatDoorTW
import Derived.Test.YtmohbkniekeafaaGreatDoorTTC
import Derived.Test.YtmohbkniekeafaaGreatDoorTCL
import Derived.Test.YtmohbkniekeafaaGreatDoorTNS
import Derived.BigGuard








namespace Go.Proofs.YtmohbkniekeafaaGreatDoor
open Go.RowKit

set_option linter.unusedSimpArgs false
theorem own_set13 {W : World} {base e n g i : Nat} {v u : Value} {xs : List Value} {t : TypeId} {cs : Array Value} (h : W.ownsRow base e 1 v n xs) (hz : Whole W g t cs) (hte : t ≠ e) : (W.setCell ⟨g, i, none⟩ u).ownsRow base e 1 v n xs :=
  h.kept (grownBy_setCell1 W g i u) (.inr (whole_row_ne hz hte h))
end Go.Proofs.YtmohbkniekeafaaGreatDoor










namespace Go.Proofs.YtmohbkniekeafaaGreatDoor
open Go.RowKit

set_option linter.unusedSimpArgs false
theorem codeE_ne {c : Nat} (h : c ≠ 0) : codeE c = .iface 126 (.int .i64 (c : Int)) := by unfold codeE codeV; rw [if_neg h]
theorem u16wrap (n : Nat) : Value.int .u16 (IntKind.u16.wrap (n : Int)) = hv (UInt16.ofNat n) := by
  rw [hv, UInt16.toNat_ofNat', IntKind.wrap_u16]
  congr 1
end Go.Proofs.YtmohbkniekeafaaGreatDoor


