/- Layer 7, package shape: Types. It writes nothing that was there. -/
import Derived.Test.YtdnilbebdgohnaaShapeC

namespace Go.Proofs.Ytdnilbebdgohnaa
open Go.RowKit

theorem u16info : (Try.prog.info? 22).map (fun i => (i.zero, i.size, i.bytes)) = some (some (.int .u16 0), 1, 2) := by kernel_rfl
theorem lies_new2 (w : World) (o : Obj) (u : Value) (t : TypeId) : Lies ((w.alloc o).alloc (.cells #[u] t)) (w.heap.size + 1 + 1) (some ⟨w.heap.size + 1, 0, none⟩) [u] := by
  have := Lies.new1 (w.alloc o) u t
  rwa [World.size_alloc] at this
end Go.Proofs.Ytdnilbebdgohnaa

