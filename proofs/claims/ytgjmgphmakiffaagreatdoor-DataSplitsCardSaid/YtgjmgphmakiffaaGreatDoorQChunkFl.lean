/- Layer 12: the law ChunkFlags. -/
import Derived.Test.YtgjmgphmakiffaaGreatDoorQCX
import Derived.Test.YtgjmgphmakiffaaGreatDoorQChunkF
import Derived.Test.YtgjmgphmakiffaaGreatDoorQCA
import Derived.Test.YtgjmgphmakiffaaGreatDoorQNF
import Derived.BigGuard
import Derived.Test.YtgjmgphmakiffaaGreatDoorQE
import Derived.Test.YtgjmgphmakiffaaGreatDoorQNodeNO
import Derived.Test.YtgjmgphmakiffaaGreatDoorQNA
import Derived.Test.YtgjmgphmakiffaaGreatDoorQTC
import Derived.Test.YtgjmgphmakiffaaGreatDoorQTA
import Derived.Test.YtgjmgphmakiffaaGreatDoorQCG
import Derived.Test.YtgjmgphmakiffaaGreatDoorQChunkQ
import Derived.Test.YtgjmgphmakiffaaGreatDoorQNodeRAC
import Derived.Test.YtgjmgphmakiffaaGreatDoorQNodePX
import Derived.Test.YtgjmgphmakiffaaGreatDoorQW
import Derived.Test.YtgjmgphmakiffaaGreatDoorQCI
import Derived.Test.YtgjmgphmakiffaaGreatDoorQA
import Derived.Deep.RegionHeld3
import Derived.Test.YtgjmgphmakiffaaGreatDoorQCT
import Derived.Test.YtgjmgphmakiffaaGreatDoorQCR
import Derived.Test.YtgjmgphmakiffaaGreatDoorQHeadX
import Derived.Deep.Cut





namespace Go.Proofs.YtgjmgphmakiffaaGreatDoor
open Go.ChangeShapes Go.WideShapes Go.ChangeAt Go.RowKit

set_option linter.unusedSimpArgs false
theorem wh4 {W : World} {g : Nat} {t : TypeId} {a b c d : Value} (hW : Whole W g t #[a, b, c, d]) : W.cell? ⟨g, 0, none⟩ = some a ∧ W.cell? ⟨g, 1, none⟩ = some b ∧ W.cell? ⟨g, 2, none⟩ = some c ∧ W.cell? ⟨g, 3, none⟩ = some d := by
  refine ⟨?_, ?_, ?_, ?_⟩ <;> (rw [hW.cell]; rfl)
end Go.Proofs.YtgjmgphmakiffaaGreatDoor


