/- errors.As at the errors of api (no wrapping), for whatever seat that holds them. No condition of its own. -/
import Derived.Test.YtdnilbebdgohnaaProg
import Derived.Test.YtdnilbebdgohnaaBase
import Derived.LaidEql
import Derived.Stop.Asserts
import Derived.RowKitTokens
import Derived.Recover
import Derived.Defers
import Derived.Laws.Pointers

namespace Go.Proofs.Ytdnilbebdgohnaa
open Go.RowKit Go.Extern.Stop Go.Stop Go.Extern

/-! ### the errors of this layer as values -/
def codeV (c : Int) : Value := .iface 99 (.int .i64 c)
/-! ### one store below, the rest new -/
end Go.Proofs.Ytdnilbebdgohnaa

