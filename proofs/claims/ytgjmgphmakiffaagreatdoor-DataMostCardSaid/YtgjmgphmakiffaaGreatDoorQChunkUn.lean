/- Layer 12: the law ChunkUnknown. -/
import Derived.Test.YtgjmgphmakiffaaGreatDoorQChunkFl
import Derived.Test.YtgjmgphmakiffaaGreatDoorQCA
import Derived.Test.YtgjmgphmakiffaaGreatDoorQNF
import Derived.Test.YtgjmgphmakiffaaGreatDoorQA
import Derived.BigGuard
import Derived.Test.YtgjmgphmakiffaaGreatDoorQNA
import Derived.Test.YtgjmgphmakiffaaGreatDoorQTC
import Derived.Deep.RegionHeld3
import Derived.Test.YtgjmgphmakiffaaGreatDoorQK
import Derived.Deep.Cut




namespace Go.Proofs.YtgjmgphmakiffaaGreatDoor
open Go.ChangeShapes Go.WideShapes Go.ChangeAt Go.RowKit

set_option linter.unusedSimpArgs false
theorem made_u12 : ∃ i0, Tryz.prog.info? 5 = some i0 ∧ i0.zero = some (.int .u8 0) ∧ i0.size = 1 ∧ i0.bytes = 1 := by
  obtain ⟨i0, hi, h⟩ := Option.map_eq_some_iff.1 (show (Tryz.prog.info? 5).map (fun i => (i.zero, i.size, i.bytes)) = some (some (.int .u8 0), 1, 1) by kernel_rfl)
  simp only [Prod.mk.injEq] at h
  exact ⟨i0, hi, h.1, h.2.1, h.2.2⟩
theorem bytes_new12 {w w2 : World} {k : Nat} {t : TypeId} (h : w2.ownsRow w.heap.size t 1 (.slice (some ⟨w.heap.size, 0, none⟩) k k) k (madeCells #[.int .u8 0] (k * 1)).toList) : Lies w2 w2.heap.size (some ⟨w.heap.size, 0, none⟩) ((List.replicate k (0 : UInt8)).map bv) := by
  rw [Nat.mul_one, made_zero] at h
  exact Lies.own h
end Go.Proofs.YtgjmgphmakiffaaGreatDoor


