/- Layer 13: a description as data, how it lies in memory; typeOf, Most, isDescription, isWhole, the law's few, the reference's Right. They write nothing that was there. -/
/- Layer 13: flagsOf. They write nothing that was there. -/
import Derived.Test.YteknmgmdmjmnmaaGreatDoorUW
import Derived.Test.YteknmgmdmjmnmaaGreatDoorUCA
import Derived.BigGuard
import Derived.Deep.QuietTactic
import Derived.BigQuiet
import Derived.Deep.RegionHeld3
import Derived.Deep.Cut






namespace Go.Proofs.YteknmgmdmjmnmaaGreatDoor
open Go.RowKit

set_option linter.unusedSimpArgs false
structure Pt where
  inter : Bool
  tsn : UInt32
  st : UInt16
  sq : UInt32
  pr : UInt32
  bg : Bool
  en : Bool
  un : Bool
  nw : Bool
  us : List UInt8
abbrev ptCells (p : Pt) (A : Option Addr) (c : Nat) : Array Value := #[.bool p.inter, uv p.tsn, hv p.st, uv p.sq, uv p.pr, .bool p.bg, .bool p.en, .bool p.un, .bool p.nw, .slice A p.us.length c]
/-- what User reads as -/
structure PtL (w : World) (B : Nat) (A : Option Addr) (c : Nat) (p : Pt) : Prop where
  data : Lies w B A (p.us.map bv)
  dc : p.us.length ≤ c
  dm : c ≤ maxLen
theorem PtL.below {w w' : World} {B c : Nat} {A : Option Addr} {p : Pt} (h : PtL w B A c p) (hb : Below B w w') : PtL w' B A c p := ⟨h.data.below hb, h.dc, h.dm⟩
theorem PtL.more {w : World} {B B' c : Nat} {A : Option Addr} {p : Pt} (h : PtL w B A c p) (hB : B ≤ B') : PtL w B' A c p := ⟨h.data.more hB, h.dc, h.dm⟩
theorem PtL.on {w w' : World} {c : Nat} {A : Option Addr} {p : Pt} (h : PtL w w.heap.size A c p) (hb : Below w.heap.size w w') : PtL w' w'.heap.size A c p := (h.below hb).more hb.size
/-! ### isDescription -/
end Go.Proofs.YteknmgmdmjmnmaaGreatDoor





namespace Go.Proofs.YteknmgmdmjmnmaaGreatDoor
open Go.RowKit

set_option linter.unusedSimpArgs false
theorem below_undrew13 {B : Nat} {w w' : World} (h : Below B w.drew w') : Below B w w' := ⟨h.os, h.tape, h.output, h.size, h.block⟩
end Go.Proofs.YteknmgmdmjmnmaaGreatDoor


