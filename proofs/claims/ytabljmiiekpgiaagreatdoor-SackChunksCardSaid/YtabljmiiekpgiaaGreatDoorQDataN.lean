/- Layer 13: slices.Chunk of bytes, as an iterator whose rounds may stop it. It writes nothing that was there. -/
import Derived.Test.YtabljmiiekpgiaaGreatDoorQDE
import Derived.Test.YtabljmiiekpgiaaGreatDoorQTC
import Derived.Test.YtabljmiiekpgiaaGreatDoorQNW
import Derived.Test.YtabljmiiekpgiaaGreatDoorQEL
import Derived.WalkMore
import Derived.Deep.RegionHeld3






namespace Go.Proofs.YtabljmiiekpgiaaGreatDoor
open Go.RowKit Go.Shelf

attribute [local go_sem] Oper.semAt_some
set_option linter.unusedSimpArgs false
/-- the element at an offset -/
def encCh (A : Option Addr) (k m : Nat) (x : Nat) : Array Value := #[.slice (A.map (·.add x)) (min k (m - x)) (min k (m - x))]
def RowCh (k m : Nat) (pre : List Nat) (x : Nat) : Prop := x = pre.length * k ∧ x < m
def FinCh (k m : Nat) (xs : List Nat) : Prop := m ≤ xs.length * k
end Go.Proofs.YtabljmiiekpgiaaGreatDoor


