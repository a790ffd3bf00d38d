/- Layer 7, package shape: Types. It writes nothing that was there. -/
import Derived.Test.YtdnilbebdgohnaaShapeC

namespace Go.Proofs.Ytdnilbebdgohnaa
open Go.RowKit

theorem u16info : (Try.prog.info? 22).map (fun i => (i.zero, i.size, i.bytes)) = some (some (.int .u16 0), 1, 2) := by kernel_rfl
end Go.Proofs.Ytdnilbebdgohnaa

