/- Layer 12: the law ChunkCopies. -/
import Derived.Test.YtgjmgphmakiffaaGreatDoorQChunkFl
import Derived.Test.YtgjmgphmakiffaaGreatDoorQCA
import Derived.Test.YtgjmgphmakiffaaGreatDoorQNF
import Derived.BigGuard
import Derived.Test.YtgjmgphmakiffaaGreatDoorQA
import Derived.Test.YtgjmgphmakiffaaGreatDoorQTC
import Derived.Test.YtgjmgphmakiffaaGreatDoorQP
import Derived.Test.YtgjmgphmakiffaaGreatDoorQW
import Derived.Test.YtgjmgphmakiffaaGreatDoorQRefNS
import Derived.Deep.RegionHeld3
import Derived.Test.YtgjmgphmakiffaaGreatDoorQNA
import Derived.Test.YtgjmgphmakiffaaGreatDoorQNodeUO
import Derived.Test.YtgjmgphmakiffaaGreatDoorQChunkDK
import Derived.Test.YtgjmgphmakiffaaGreatDoorQCG
import Derived.Test.YtgjmgphmakiffaaGreatDoorQNodeRAC
import Derived.Test.YtgjmgphmakiffaaGreatDoorQK
import Derived.Test.YtgjmgphmakiffaaGreatDoorQNodeWG
import Derived.Test.YtgjmgphmakiffaaGreatDoorQNodeWH
import Derived.Test.YtgjmgphmakiffaaGreatDoorQSplitR
import Derived.Test.YtgjmgphmakiffaaGreatDoorQNS
import Derived.ProofKit
import Derived.OpenShut
import Derived.LaidMore
import Derived.LaidHandle
import Derived.Lay
import Derived.Stop.Joined
import Derived.Test.YtgjmgphmakiffaaGreatDoorQChunkF
import Derived.Test.YtgjmgphmakiffaaGreatDoorQE
import Derived.Test.YtgjmgphmakiffaaGreatDoorQNodeNO
import Derived.Test.YtgjmgphmakiffaaGreatDoorQTA
import Derived.Test.YtgjmgphmakiffaaGreatDoorQNodePX
import Derived.Deep.Cut







namespace Go.Proofs.YtgjmgphmakiffaaGreatDoor
open Go.ChangeShapes Go.WideShapes Go.ChangeAt Go.RowKit

set_option linter.unusedSimpArgs false
theorem cut_post {P : Program} {C : Code} {a : Act} {w : World} {Q : Exit → Act → World → Prop} (T : (Exit → Act → World → Prop) → Prop) (hT : T Q) (h : T Q → Code.wp P C Q a w) : Code.wp P C Q a w := h hT
end Go.Proofs.YtgjmgphmakiffaaGreatDoor


