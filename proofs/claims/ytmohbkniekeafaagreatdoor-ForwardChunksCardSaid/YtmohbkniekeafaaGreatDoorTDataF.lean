/- Layer 13: two arrays of six numbers are compared. No condition of its own. -/
import Derived.Test.YtmohbkniekeafaaGreatDoorTDA
import Derived.Test.YtmohbkniekeafaaGreatDoorTNF
import Derived.Deep.RegionHeld3
import Derived.Deep.Cut
import Derived.Laws.StructEq


namespace Go.Proofs.YtmohbkniekeafaaGreatDoor
open Go.RowKit

theorem size_u32 : (Tryz.prog.info? 22).map (·.size) = some 1 := by kernel_rfl
end Go.Proofs.YtmohbkniekeafaaGreatDoor


