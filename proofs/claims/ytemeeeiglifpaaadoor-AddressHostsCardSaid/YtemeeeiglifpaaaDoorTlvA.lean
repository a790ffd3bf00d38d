/- Layer 6, package tlv: length, Same, Put, for whatever frames. They write nothing that was there. -/
import Derived.Deep.RegionHeld3
import Derived.Test.YtemeeeiglifpaaaDoorWireD
import Derived.Test.YtemeeeiglifpaaaDoorPadD



namespace Go.Proofs.YtemeeeiglifpaaaDoor
open Go.RowKit

/-- a frame: its type and its value -/
structure Fr where
  t : UInt16
  v : List UInt8
def frL (f : Fr) : Nat := 4 + f.v.length
def u32of (n : Nat) : UInt32 := UInt32.ofNat n
def headB (t : UInt16) (n : Nat) : List UInt8 := puts 2 [u32of t.toNat, u32of (4 + n)]
def frB (f : Fr) : List UInt8 := headB f.t f.v.length ++ f.v
theorem headB_len (t : UInt16) (n : Nat) : (headB t n).length = 4 := by unfold headB; rw [puts_len]; rfl
theorem frB_len (f : Fr) : (frB f).length = frL f := by unfold frB frL; rw [List.length_append, headB_len]

theorem below_drew {B : Nat} {a w : World} (h : Below B a w) : Below B a w.drew := ⟨h.os, h.tape, h.output, h.size, h.block⟩
end Go.Proofs.YtemeeeiglifpaaaDoor

