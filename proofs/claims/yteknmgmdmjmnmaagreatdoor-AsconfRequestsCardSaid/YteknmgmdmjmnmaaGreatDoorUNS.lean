/- Layer 8: what the statements check first (awake). It writes nothing that was there. -/
/- Layer 8: what the one listed variable gives a walk, and a world that meets it; the law NodeLimits. No condition of its own. -/
import Derived.Test.YteknmgmdmjmnmaaGreatDoorUNO
import Derived.Test.YteknmgmdmjmnmaaGreatDoorUNF
import Derived.Test.YteknmgmdmjmnmaaGreatDoorUNA
import Derived.Test.YteknmgmdmjmnmaaGreatDoorUTC
import Derived.Test.YteknmgmdmjmnmaaGreatDoorUTA
import Derived.Deep.RegionHeld3
import Derived.Test.YteknmgmdmjmnmaaGreatDoorRows
import Derived.Test.YteknmgmdmjmnmaaGreatDoorUA
import Derived.ProofKit
import Derived.OpenShut
import Derived.LaidMore
import Derived.LaidHandle
import Derived.Lay
import Derived.Stop.Joined





namespace Go.Proofs.YteknmgmdmjmnmaaGreatDoor
open Go.RowKit

/-- a variable that holds a node -/
def NdBox (W : World) (g : Nat) (n : Nd) (A : Option Addr) (c : Nat) (K : Option Addr) (k : Nat) : Prop := Whole W g 51 #[hv n.t, .slice A n.v.length c, .slice K n.ks.length k]
section
variable {W W2 : World} {g : Nat} {n : Nd} {A K : Option Addr} {c k : Nat}
theorem NdBox.c0 (h : NdBox W g n A c K k) : W.cell? ⟨g, 0, none⟩ = some (hv n.t) := by rw [Whole.cell h]; rfl
theorem NdBox.c1 (h : NdBox W g n A c K k) : W.cell? ⟨g, 1, none⟩ = some (.slice A n.v.length c) := by rw [Whole.cell h]; rfl
theorem NdBox.c2 (h : NdBox W g n A c K k) : W.cell? ⟨g, 2, none⟩ = some (.slice K n.ks.length k) := by rw [Whole.cell h]; rfl
theorem NdBox.below (h : NdBox W g n A c K k) (hb : Below W.heap.size W W2) : NdBox W2 g n A c K k := Whole.below h hb (Whole.lt h)
end
section
variable (w : World)
end

end Go.Proofs.YteknmgmdmjmnmaaGreatDoor











namespace Go.Proofs.YteknmgmdmjmnmaaGreatDoor
open Go.ChangeShapes Go.WideShapes Go.ChangeAt Go.RowKit

abbrev laidL : List (String × DataW Unit) := [("errors.errorType", Rows.laid_errors_errorType)]
theorem oneRow : ((List.range Tryz.prog.types.size).filter fun t => Tryz.prog.rowNamed t [101, 114, 114, 111, 114]) = [120] := by kernel_rfl
theorem rtRow : (Tryz.prog.cutTypes.find? (·.1 == "internal/reflectlite.rtype")).map (·.2) = some 301 := by kernel_rfl
theorem door_met (os : Os) (args : Array Value) : laidMetH Tryz.prog laidL ((World.doorLaid Tryz.prog 200 os).forCall (fun _ _ => 0) ⟨#[], args, []⟩).memory :=
  laidMetH_of_parts3 (fuel := 8) (laidMet_of_run' 8 (by kernel_rfl) (by kernel_rfl)) (by kernel_rfl) (by kernel_rfl)
end Go.Proofs.YteknmgmdmjmnmaaGreatDoor


