/- Layer 12: the law ChunkFlags. -/
/- Layer 12: the law ChunkCopies. -/
import Derived.Test.YtmohbkniekeafaaGreatDoorRNS
import Derived.Test.YtmohbkniekeafaaGreatDoorRA
import Derived.Test.YtmohbkniekeafaaGreatDoorRNodeUO
import Derived.Test.YtmohbkniekeafaaGreatDoorRCA
import Derived.ProofKit
import Derived.OpenShut
import Derived.LaidMore
import Derived.LaidHandle
import Derived.Lay
import Derived.Stop.Joined
import Derived.Test.YtmohbkniekeafaaGreatDoorRChunkF
import Derived.Test.YtmohbkniekeafaaGreatDoorRNF
import Derived.BigGuard
import Derived.Test.YtmohbkniekeafaaGreatDoorRE
import Derived.Test.YtmohbkniekeafaaGreatDoorRNodeNO
import Derived.Test.YtmohbkniekeafaaGreatDoorRNA
import Derived.Test.YtmohbkniekeafaaGreatDoorRTC
import Derived.Test.YtmohbkniekeafaaGreatDoorRTA
import Derived.Test.YtmohbkniekeafaaGreatDoorRCG
import Derived.Laws.BytesArg
import Derived.Test.YtmohbkniekeafaaGreatDoorRP
import Derived.Test.YtmohbkniekeafaaGreatDoorRW
import Derived.Test.YtmohbkniekeafaaGreatDoorRRefNS
import Derived.Deep.RegionHeld3
import Derived.Test.YtmohbkniekeafaaGreatDoorRChunkDK
import Derived.Test.YtmohbkniekeafaaGreatDoorRNodeRAC
import Derived.Test.YtmohbkniekeafaaGreatDoorRNodePX
import Derived.Test.YtmohbkniekeafaaGreatDoorRK
import Derived.Deep.Cut
import Derived.Test.YtmohbkniekeafaaGreatDoorRNW
import Derived.Test.YtmohbkniekeafaaGreatDoorRHX





namespace Go.Proofs.YtmohbkniekeafaaGreatDoor
open Go.ChangeShapes Go.WideShapes Go.ChangeAt Go.RowKit

set_option linter.unusedSimpArgs false
theorem wh4 {W : World} {g : Nat} {t : TypeId} {a b c d : Value} (hW : Whole W g t #[a, b, c, d]) : W.cell? ⟨g, 0, none⟩ = some a ∧ W.cell? ⟨g, 1, none⟩ = some b ∧ W.cell? ⟨g, 2, none⟩ = some c ∧ W.cell? ⟨g, 3, none⟩ = some d := by
  refine ⟨?_, ?_, ?_, ?_⟩ <;> (rw [hW.cell]; rfl)
end Go.Proofs.YtmohbkniekeafaaGreatDoor









namespace Go.Proofs.YtmohbkniekeafaaGreatDoor
open Go.ChangeShapes Go.WideShapes Go.ChangeAt Go.RowKit

set_option linter.unusedSimpArgs false
theorem cut_post {P : Program} {C : Code} {a : Act} {w : World} {Q : Exit → Act → World → Prop} (T : (Exit → Act → World → Prop) → Prop) (hT : T Q) (h : T Q → Code.wp P C Q a w) : Code.wp P C Q a w := h hT
end Go.Proofs.YtmohbkniekeafaaGreatDoor


