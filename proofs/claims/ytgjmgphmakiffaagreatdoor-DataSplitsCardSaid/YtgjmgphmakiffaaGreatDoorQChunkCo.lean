/- Layer 12: the law ChunkCopies. -/
import Derived.Test.YtgjmgphmakiffaaGreatDoorQChunkFl
import Derived.Test.YtgjmgphmakiffaaGreatDoorQCA
import Derived.Test.YtgjmgphmakiffaaGreatDoorQNF
import Derived.BigGuard
import Derived.Test.YtgjmgphmakiffaaGreatDoorQCR
import Derived.Test.YtgjmgphmakiffaaGreatDoorQNodeWG
import Derived.Test.YtgjmgphmakiffaaGreatDoorQNodeWH
import Derived.Test.YtgjmgphmakiffaaGreatDoorQSplitR
import Derived.Test.YtgjmgphmakiffaaGreatDoorQCT
import Derived.Test.YtgjmgphmakiffaaGreatDoorQChunkLM
import Derived.Test.YtgjmgphmakiffaaGreatDoorQK
import Derived.Deep.Cut







namespace Go.Proofs.YtgjmgphmakiffaaGreatDoor
open Go.ChangeShapes Go.WideShapes Go.ChangeAt Go.RowKit

set_option linter.unusedSimpArgs false
theorem cut_post {P : Program} {C : Code} {a : Act} {w : World} {Q : Exit → Act → World → Prop} (T : (Exit → Act → World → Prop) → Prop) (hT : T Q) (h : T Q → Code.wp P C Q a w) : Code.wp P C Q a w := h hT
end Go.Proofs.YtgjmgphmakiffaaGreatDoor


