/- Layer 12: the law ChunkFlags. -/
/- Layer 12: the law ChunkMatchesReference. -/
/- Layer 12: the law ChunkCopies. -/
import Derived.Test.YtmohbkniekeafaaGreatDoorTChunkX
import Derived.Test.YtmohbkniekeafaaGreatDoorTChunkF
import Derived.Test.YtmohbkniekeafaaGreatDoorTCA
import Derived.Test.YtmohbkniekeafaaGreatDoorTNF
import Derived.BigGuard
import Derived.Test.YtmohbkniekeafaaGreatDoorTE
import Derived.Test.YtmohbkniekeafaaGreatDoorTNodeNO
import Derived.Test.YtmohbkniekeafaaGreatDoorTNA
import Derived.Test.YtmohbkniekeafaaGreatDoorTTC
import Derived.Test.YtmohbkniekeafaaGreatDoorTTA
import Derived.Test.YtmohbkniekeafaaGreatDoorTCG
import Derived.Test.YtmohbkniekeafaaGreatDoorTCP
import Derived.Test.YtmohbkniekeafaaGreatDoorTNodeRAC
import Derived.Test.YtmohbkniekeafaaGreatDoorTNodePX
import Derived.Test.YtmohbkniekeafaaGreatDoorTW
import Derived.Test.YtmohbkniekeafaaGreatDoorTCI
import Derived.Test.YtmohbkniekeafaaGreatDoorTA
import Derived.Deep.RegionHeld3
import Derived.Test.YtmohbkniekeafaaGreatDoorTCT
import Derived.Test.YtmohbkniekeafaaGreatDoorTCR
import Derived.Deep.Cut
import Derived.Test.YtmohbkniekeafaaGreatDoorTNW
import Derived.Test.YtmohbkniekeafaaGreatDoorTHX
import Derived.Test.YtmohbkniekeafaaGreatDoorTK





namespace Go.Proofs.YtmohbkniekeafaaGreatDoor
open Go.ChangeShapes Go.WideShapes Go.ChangeAt Go.RowKit

set_option linter.unusedSimpArgs false
theorem wh4 {W : World} {g : Nat} {t : TypeId} {a b c d : Value} (hW : Whole W g t #[a, b, c, d]) : W.cell? ⟨g, 0, none⟩ = some a ∧ W.cell? ⟨g, 1, none⟩ = some b ∧ W.cell? ⟨g, 2, none⟩ = some c ∧ W.cell? ⟨g, 3, none⟩ = some d := by
  refine ⟨?_, ?_, ?_, ?_⟩ <;> (rw [hW.cell]; rfl)
end Go.Proofs.YtmohbkniekeafaaGreatDoor









namespace Go.Proofs.YtmohbkniekeafaaGreatDoor
open Go.ChangeShapes Go.WideShapes Go.ChangeAt Go.RowKit

set_option linter.unusedSimpArgs false
theorem ck_fine {x : Ck} (h : fewB x = true) : CkFine x ∧ x.d.length ≤ 70000 ∧ x.ks.length ≤ 200 ∧ sizes (lens x.ks) ≤ 201400 := by
  unfold fewB at h
  simp only [Bool.and_eq_true, decide_eq_true_eq] at h
  obtain ⟨h1, h2, h3⟩ := few_fine 21 x.ks h.2
  exact ⟨⟨by omega, by omega, h3⟩, h.1, h1, h2⟩
end Go.Proofs.YtmohbkniekeafaaGreatDoor









namespace Go.Proofs.YtmohbkniekeafaaGreatDoor
open Go.ChangeShapes Go.WideShapes Go.ChangeAt Go.RowKit

set_option linter.unusedSimpArgs false
theorem cut_post {P : Program} {C : Code} {a : Act} {w : World} {Q : Exit → Act → World → Prop} (T : (Exit → Act → World → Prop) → Prop) (hT : T Q) (h : T Q → Code.wp P C Q a w) : Code.wp P C Q a w := h hT
end Go.Proofs.YtmohbkniekeafaaGreatDoor


