/- Layer 2: closed facts on the model's entries for internal/reflectlite, on type assertions and on methods, at the types of errors of api. No condition of its own. -/
import Derived.Test.YtemeeeiglifpaaaDoorProg
import Derived.Test.YtemeeeiglifpaaaDoorBase
import Derived.LaidEql
import Derived.Stop.Asserts
import Derived.RowKitTokens
import Derived.Recover
import Derived.Defers
import Derived.Laws.Pointers








namespace Go.Proofs.YtemeeeiglifpaaaDoor
open Go.RowKit Go.Extern.Stop Go.Stop Go.Extern

abbrev hnd (t : TypeId) : Value := .pointer (some ⟨9, t, none⟩)
/-! ### the target's type: *api.Code -/
/-! ### the target's type: *api.Fault -/
/-! ### the entries by the number of their function -/

end Go.Proofs.YtemeeeiglifpaaaDoor

