/- Layer 12: the law ChunkFlags. -/
/- Layer 12: the law ChunkMatchesReference. -/
/- Layer 12: the law ChunkCopies. -/
import Derived.Test.YtdcppcoldaaldaaGreatDoorQCX
import Derived.Test.YtdcppcoldaaldaaGreatDoorQChunkF
import Derived.Test.YtdcppcoldaaldaaGreatDoorQCI
import Derived.Test.YtdcppcoldaaldaaGreatDoorQCA
import Derived.Test.YtdcppcoldaaldaaGreatDoorQE
import Derived.Test.YtdcppcoldaaldaaGreatDoorQNodeNO
import Derived.Test.YtdcppcoldaaldaaGreatDoorQNF
import Derived.Test.YtdcppcoldaaldaaGreatDoorQNA
import Derived.Test.YtdcppcoldaaldaaGreatDoorQTC
import Derived.Test.YtdcppcoldaaldaaGreatDoorQTA
import Derived.BigGuard
import Derived.Test.YtdcppcoldaaldaaGreatDoorQCG
import Derived.Test.YtdcppcoldaaldaaGreatDoorQChunkQ
import Derived.Test.YtdcppcoldaaldaaGreatDoorQNodeRAC
import Derived.Test.YtdcppcoldaaldaaGreatDoorQNodePX
import Derived.Test.YtdcppcoldaaldaaGreatDoorQW
import Derived.Test.YtdcppcoldaaldaaGreatDoorQA
import Derived.Deep.RegionHeld3
import Derived.Test.YtdcppcoldaaldaaGreatDoorQCT
import Derived.Test.YtdcppcoldaaldaaGreatDoorQCR
import Derived.Test.YtdcppcoldaaldaaGreatDoorQHX
import Derived.Deep.Cut
import Derived.Test.YtdcppcoldaaldaaGreatDoorQNW
import Derived.Test.YtdcppcoldaaldaaGreatDoorQK





namespace Go.Proofs.YtdcppcoldaaldaaGreatDoor
open Go.ChangeShapes Go.WideShapes Go.ChangeAt Go.RowKit

set_option linter.unusedSimpArgs false
theorem wh4 {W : World} {g : Nat} {t : TypeId} {a b c d : Value} (hW : Whole W g t #[a, b, c, d]) : W.cell? ⟨g, 0, none⟩ = some a ∧ W.cell? ⟨g, 1, none⟩ = some b ∧ W.cell? ⟨g, 2, none⟩ = some c ∧ W.cell? ⟨g, 3, none⟩ = some d := by
  refine ⟨?_, ?_, ?_, ?_⟩ <;> (rw [hW.cell]; rfl)
end Go.Proofs.YtdcppcoldaaldaaGreatDoor









namespace Go.Proofs.YtdcppcoldaaldaaGreatDoor
open Go.ChangeShapes Go.WideShapes Go.ChangeAt Go.RowKit

set_option linter.unusedSimpArgs false
theorem ck_fine {x : Ck} (h : fewB x = true) : CkFine x ∧ x.d.length ≤ 70000 ∧ x.ks.length ≤ 200 ∧ sizes (lens x.ks) ≤ 201400 := by
  unfold fewB at h
  simp only [Bool.and_eq_true, decide_eq_true_eq] at h
  obtain ⟨h1, h2, h3⟩ := few_fine 21 x.ks h.2
  exact ⟨⟨by omega, by omega, h3⟩, h.1, h1, h2⟩
end Go.Proofs.YtdcppcoldaaldaaGreatDoor









namespace Go.Proofs.YtdcppcoldaaldaaGreatDoor
open Go.ChangeShapes Go.WideShapes Go.ChangeAt Go.RowKit

set_option linter.unusedSimpArgs false
theorem cut_post {P : Program} {C : Code} {a : Act} {w : World} {Q : Exit → Act → World → Prop} (T : (Exit → Act → World → Prop) → Prop) (hT : T Q) (h : T Q → Code.wp P C Q a w) : Code.wp P C Q a w := h hT
end Go.Proofs.YtdcppcoldaaldaaGreatDoor


