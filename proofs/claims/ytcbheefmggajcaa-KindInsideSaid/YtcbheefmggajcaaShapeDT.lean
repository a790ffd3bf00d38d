/- Layer 7, package shape: Types. It writes nothing that was there. -/
import Derived.Test.YtcbheefmggajcaaShapeC

namespace Go.Proofs.Ytcbheefmggajcaa
open Go.RowKit

theorem lies_new2 (w : World) (o : Obj) (u : Value) (t : TypeId) : Lies ((w.alloc o).alloc (.cells #[u] t)) (w.heap.size + 1 + 1) (some ⟨w.heap.size + 1, 0, none⟩) [u] := by
  have := Lies.new1 (w.alloc o) u t
  rwa [World.size_alloc] at this
end Go.Proofs.Ytcbheefmggajcaa

