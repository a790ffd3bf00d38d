/- Layer 14: the set of offsets and the duplicates (divided), in a map of the call's own. It writes nothing that was there. -/
import Derived.Test.YteknmgmdmjmnmaaGreatDoorUSI
import Derived.Test.YteknmgmdmjmnmaaGreatDoorUDJ
import Derived.Test.YteknmgmdmjmnmaaGreatDoorUCI
import Derived.Test.YteknmgmdmjmnmaaGreatDoorUDA
import Derived.Test.YteknmgmdmjmnmaaGreatDoorUNF
import Derived.Deep.RegionHeld3
import Derived.Deep.Cut
import Derived.Laws.StructEq
import Derived.Test.YteknmgmdmjmnmaaGreatDoorUA
import Derived.Laws.BytesArg
import Derived.Test.YteknmgmdmjmnmaaGreatDoorUTA
import Derived.BigGuard
import Derived.Test.YteknmgmdmjmnmaaGreatDoorUWireF
import Derived.Test.YteknmgmdmjmnmaaGreatDoorUChunkT
import Derived.Maps.OwnSet
import Derived.Maps.OwnOps





namespace Go.Proofs.YteknmgmdmjmnmaaGreatDoor
open Go.RowKit Go.Maps

set_option linter.unusedSimpArgs false
abbrev k32 (x : UInt32) : Lit := .int .u32 (x.toNat : Int)
theorem k32_wf (x : UInt32) : (k32 x).wf = true := by
  have h := x.toNat_lt
  have h1 : IntKind.u32.min = 0 := rfl
  have h2 : IntKind.u32.max = 4294967295 := rfl
  simp only [Lit.wf, Bool.and_eq_true, decide_eq_true_eq]
  omega
theorem k32_key (x : UInt32) : keyOf Tryz.prog 22 (uv x) = some (k32 x) := keyOf_int_mk Tryz.underlying22 (k32_wf x)
theorem k32_inj {x y : UInt32} (h : k32 x = k32 y) : x = y := by
  simp only [k32, Lit.int.injEq, true_and] at h
  exact UInt32.toNat_inj.1 (by omega)
/-- a set of offsets, as a map's datum -/
def setD (acc : List UInt32) : DataW Unit := setOf (.lit (.bool true)) (acc.map k32)
theorem k32_lit (x : UInt32) : WideAt.IsKeyLit (k32 x) := by
  trivial
end Go.Proofs.YteknmgmdmjmnmaaGreatDoor


