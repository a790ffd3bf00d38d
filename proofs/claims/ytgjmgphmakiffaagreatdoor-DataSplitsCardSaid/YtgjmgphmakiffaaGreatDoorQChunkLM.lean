/- Layer 12: the law ChunkMatchesReference. -/
import Derived.Test.YtgjmgphmakiffaaGreatDoorQCX
import Derived.Test.YtgjmgphmakiffaaGreatDoorQChunkF
import Derived.Test.YtgjmgphmakiffaaGreatDoorQCA
import Derived.Test.YtgjmgphmakiffaaGreatDoorQNF
import Derived.BigGuard
import Derived.Test.YtgjmgphmakiffaaGreatDoorQE
import Derived.Test.YtgjmgphmakiffaaGreatDoorQNodeNO
import Derived.Test.YtgjmgphmakiffaaGreatDoorQNA
import Derived.Test.YtgjmgphmakiffaaGreatDoorQTC
import Derived.Test.YtgjmgphmakiffaaGreatDoorQTA
import Derived.Test.YtgjmgphmakiffaaGreatDoorQCG
import Derived.Test.YtgjmgphmakiffaaGreatDoorQChunkQ
import Derived.Test.YtgjmgphmakiffaaGreatDoorQNodeRAC
import Derived.Test.YtgjmgphmakiffaaGreatDoorQNodePX
import Derived.Test.YtgjmgphmakiffaaGreatDoorQW
import Derived.Test.YtgjmgphmakiffaaGreatDoorQCI
import Derived.Test.YtgjmgphmakiffaaGreatDoorQA
import Derived.Deep.RegionHeld3
import Derived.Test.YtgjmgphmakiffaaGreatDoorQCR
import Derived.Test.YtgjmgphmakiffaaGreatDoorQCT
import Derived.Test.YtgjmgphmakiffaaGreatDoorQHeadX
import Derived.Deep.Cut







namespace Go.Proofs.YtgjmgphmakiffaaGreatDoor
open Go.ChangeShapes Go.WideShapes Go.ChangeAt Go.RowKit

set_option linter.unusedSimpArgs false
theorem ck_fine {x : Ck} (h : fewB x = true) : CkFine x ∧ x.d.length ≤ 70000 ∧ x.ks.length ≤ 200 ∧ sizes (lens x.ks) ≤ 201400 := by
  unfold fewB at h
  simp only [Bool.and_eq_true, decide_eq_true_eq] at h
  obtain ⟨h1, h2, h3⟩ := few_fine 21 x.ks h.2
  exact ⟨⟨by omega, by omega, h3⟩, h.1, h1, h2⟩
end Go.Proofs.YtgjmgphmakiffaaGreatDoor


