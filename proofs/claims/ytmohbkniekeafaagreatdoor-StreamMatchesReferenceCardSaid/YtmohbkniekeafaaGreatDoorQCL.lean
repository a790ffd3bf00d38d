/- Layer 12: the law ChunkFlags. -/
import Derived.Test.YtmohbkniekeafaaGreatDoorQNS
import Derived.Test.YtmohbkniekeafaaGreatDoorQA
import Derived.Test.YtmohbkniekeafaaGreatDoorQNodeUO
import Derived.Test.YtmohbkniekeafaaGreatDoorQCA
import Derived.ProofKit
import Derived.OpenShut
import Derived.LaidMore
import Derived.LaidHandle
import Derived.Lay
import Derived.Stop.Joined
import Derived.Test.YtmohbkniekeafaaGreatDoorQChunkF
import Derived.Test.YtmohbkniekeafaaGreatDoorQCI
import Derived.Test.YtmohbkniekeafaaGreatDoorQE
import Derived.Test.YtmohbkniekeafaaGreatDoorQNodeNO
import Derived.Test.YtmohbkniekeafaaGreatDoorQNF
import Derived.Test.YtmohbkniekeafaaGreatDoorQNA
import Derived.Test.YtmohbkniekeafaaGreatDoorQTC
import Derived.Test.YtmohbkniekeafaaGreatDoorQTA
import Derived.BigGuard
import Derived.Test.YtmohbkniekeafaaGreatDoorQCG
import Derived.Test.YtmohbkniekeafaaGreatDoorQChunkQ
import Derived.Test.YtmohbkniekeafaaGreatDoorQNodeRAC
import Derived.Test.YtmohbkniekeafaaGreatDoorQNodePX
import Derived.Test.YtmohbkniekeafaaGreatDoorQW
import Derived.Deep.RegionHeld3
import Derived.Test.YtmohbkniekeafaaGreatDoorQCT
import Derived.Test.YtmohbkniekeafaaGreatDoorQCR
import Derived.Deep.Cut





namespace Go.Proofs.YtmohbkniekeafaaGreatDoor
open Go.ChangeShapes Go.WideShapes Go.ChangeAt Go.RowKit

set_option linter.unusedSimpArgs false
theorem wh4 {W : World} {g : Nat} {t : TypeId} {a b c d : Value} (hW : Whole W g t #[a, b, c, d]) : W.cell? ⟨g, 0, none⟩ = some a ∧ W.cell? ⟨g, 1, none⟩ = some b ∧ W.cell? ⟨g, 2, none⟩ = some c ∧ W.cell? ⟨g, 3, none⟩ = some d := by
  refine ⟨?_, ?_, ?_, ?_⟩ <;> (rw [hW.cell]; rfl)
end Go.Proofs.YtmohbkniekeafaaGreatDoor


