/- Layer 13: Of (its regions by tools/gen_data_m.py). It writes nothing that was there. -/
import Derived.Test.YtabljmiiekpgiaaGreatDoorQDJ
import Derived.Test.YtabljmiiekpgiaaGreatDoorQW
import Derived.Test.YtabljmiiekpgiaaGreatDoorQTC
import Derived.Test.YtabljmiiekpgiaaGreatDoorQNF
import Derived.Test.YtabljmiiekpgiaaGreatDoorQCL
import Derived.Test.YtabljmiiekpgiaaGreatDoorQNS
import Derived.BigGuard
import Derived.Deep.RegionHeld3
import Derived.Deep.Cut
import Derived.Laws.Tables








namespace Go.Proofs.YtabljmiiekpgiaaGreatDoor
open Go.RowKit

set_option linter.unusedSimpArgs false
theorem codeE_ne {c : Nat} (h : c ≠ 0) : codeE c = .iface 100 (.int .i64 (c : Int)) := by unfold codeE codeV; rw [if_neg h]
theorem u16wrap (n : Nat) : Value.int .u16 (IntKind.u16.wrap (n : Int)) = hv (UInt16.ofNat n) := by
  rw [hv, UInt16.toNat_ofNat', IntKind.wrap_u16]
  congr 1
end Go.Proofs.YtabljmiiekpgiaaGreatDoor


