/- Layer 12: the law ChunkFlags. -/
/- Layer 12: the law ChunkMatchesReference. -/
/- Layer 12: the law ChunkCopies. -/
import Derived.Test.YtabljmiiekpgiaaGreatDoorQCX
import Derived.Test.YtabljmiiekpgiaaGreatDoorQChunkF
import Derived.Test.YtabljmiiekpgiaaGreatDoorQCA
import Derived.Test.YtabljmiiekpgiaaGreatDoorQNF
import Derived.BigGuard
import Derived.Test.YtabljmiiekpgiaaGreatDoorQE
import Derived.Test.YtabljmiiekpgiaaGreatDoorQNodeNO
import Derived.Test.YtabljmiiekpgiaaGreatDoorQNA
import Derived.Test.YtabljmiiekpgiaaGreatDoorQTC
import Derived.Test.YtabljmiiekpgiaaGreatDoorQTA
import Derived.Test.YtabljmiiekpgiaaGreatDoorQCG
import Derived.Test.YtabljmiiekpgiaaGreatDoorQChunkQ
import Derived.Test.YtabljmiiekpgiaaGreatDoorQNodeRAC
import Derived.Test.YtabljmiiekpgiaaGreatDoorQNodePX
import Derived.Test.YtabljmiiekpgiaaGreatDoorQW
import Derived.Test.YtabljmiiekpgiaaGreatDoorQCI
import Derived.Test.YtabljmiiekpgiaaGreatDoorQA
import Derived.Deep.RegionHeld3
import Derived.Test.YtabljmiiekpgiaaGreatDoorQCT
import Derived.Test.YtabljmiiekpgiaaGreatDoorQCR
import Derived.Deep.Cut
import Derived.Test.YtabljmiiekpgiaaGreatDoorQNW
import Derived.Test.YtabljmiiekpgiaaGreatDoorQHX
import Derived.Test.YtabljmiiekpgiaaGreatDoorQK





namespace Go.Proofs.YtabljmiiekpgiaaGreatDoor
open Go.ChangeShapes Go.WideShapes Go.ChangeAt Go.RowKit

set_option linter.unusedSimpArgs false
theorem wh4 {W : World} {g : Nat} {t : TypeId} {a b c d : Value} (hW : Whole W g t #[a, b, c, d]) : W.cell? ⟨g, 0, none⟩ = some a ∧ W.cell? ⟨g, 1, none⟩ = some b ∧ W.cell? ⟨g, 2, none⟩ = some c ∧ W.cell? ⟨g, 3, none⟩ = some d := by
  refine ⟨?_, ?_, ?_, ?_⟩ <;> (rw [hW.cell]; rfl)
end Go.Proofs.YtabljmiiekpgiaaGreatDoor









namespace Go.Proofs.YtabljmiiekpgiaaGreatDoor
open Go.ChangeShapes Go.WideShapes Go.ChangeAt Go.RowKit

set_option linter.unusedSimpArgs false
theorem ck_fine {x : Ck} (h : fewB x = true) : CkFine x ∧ x.d.length ≤ 70000 ∧ x.ks.length ≤ 200 ∧ sizes (lens x.ks) ≤ 201400 := by
  unfold fewB at h
  simp only [Bool.and_eq_true, decide_eq_true_eq] at h
  obtain ⟨h1, h2, h3⟩ := few_fine 21 x.ks h.2
  exact ⟨⟨by omega, by omega, h3⟩, h.1, h1, h2⟩
end Go.Proofs.YtabljmiiekpgiaaGreatDoor









namespace Go.Proofs.YtabljmiiekpgiaaGreatDoor
open Go.ChangeShapes Go.WideShapes Go.ChangeAt Go.RowKit

set_option linter.unusedSimpArgs false
theorem cut_post {P : Program} {C : Code} {a : Act} {w : World} {Q : Exit → Act → World → Prop} (T : (Exit → Act → World → Prop) → Prop) (hT : T Q) (h : T Q → Code.wp P C Q a w) : Code.wp P C Q a w := h hT
end Go.Proofs.YtabljmiiekpgiaaGreatDoor


