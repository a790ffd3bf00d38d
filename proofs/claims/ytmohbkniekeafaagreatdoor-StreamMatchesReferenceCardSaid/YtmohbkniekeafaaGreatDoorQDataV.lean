/- Layer 13: the reference's Of. It writes nothing that was there. -/
import Derived.Test.YtmohbkniekeafaaGreatDoorQDJ
import Derived.Test.YtmohbkniekeafaaGreatDoorQW
import Derived.Test.YtmohbkniekeafaaGreatDoorQTC
import Derived.Test.YtmohbkniekeafaaGreatDoorQNF
import Derived.Test.YtmohbkniekeafaaGreatDoorQCL
import Derived.Test.YtmohbkniekeafaaGreatDoorQCI
import Derived.Test.YtmohbkniekeafaaGreatDoorQCR
import Derived.Test.YtmohbkniekeafaaGreatDoorQNW
import Derived.Test.YtmohbkniekeafaaGreatDoorQHX
import Derived.Test.YtmohbkniekeafaaGreatDoorQCT
import Derived.Test.YtmohbkniekeafaaGreatDoorQNS
import Derived.Test.YtmohbkniekeafaaGreatDoorQA
import Derived.Test.YtmohbkniekeafaaGreatDoorQNodeUO
import Derived.Test.YtmohbkniekeafaaGreatDoorQCA
import Derived.ProofKit
import Derived.OpenShut
import Derived.LaidMore
import Derived.LaidHandle
import Derived.Lay
import Derived.Stop.Joined
import Derived.Test.YtmohbkniekeafaaGreatDoorQChunkF
import Derived.Test.YtmohbkniekeafaaGreatDoorQE
import Derived.Test.YtmohbkniekeafaaGreatDoorQNodeNO
import Derived.Test.YtmohbkniekeafaaGreatDoorQNA
import Derived.Test.YtmohbkniekeafaaGreatDoorQTA
import Derived.BigGuard
import Derived.Test.YtmohbkniekeafaaGreatDoorQCG
import Derived.Test.YtmohbkniekeafaaGreatDoorQChunkQ
import Derived.Test.YtmohbkniekeafaaGreatDoorQNodeRAC
import Derived.Test.YtmohbkniekeafaaGreatDoorQNodePX
import Derived.Deep.RegionHeld3
import Derived.Deep.Cut
import Derived.Test.YtmohbkniekeafaaGreatDoorQK
import Derived.Laws.Tables
import Derived.Test.YtmohbkniekeafaaGreatDoorQDP
import Derived.Test.YtmohbkniekeafaaGreatDoorQRefNS
import Derived.Test.YtmohbkniekeafaaGreatDoorQDA






namespace Go.Proofs.YtmohbkniekeafaaGreatDoor
open Go.RowKit

set_option linter.unusedSimpArgs false
theorem results_row13 {P : Program} {fn : Func} {p : Tmp} {ty : TypeId} (h : fn.results = #[.cell p ty]) (tmps : Array Value) (w : World) (g : Nat) (t : TypeId) (cs : Array Value) (d : TypeDesc)
    (hp : tmps.getD p undef = .pointer (some ⟨g, 0, none⟩)) (hg : Whole w g t cs)
    (hu : P.underlying ty = some d) (hd : (match d with | .struct _ | .array _ _ => true | _ => false) = true) (hi : (P.info? ty).map (·.size) = some cs.size) :
    (results fn tmps).run P w = .ok (.agg cs) w := by
  have hp' : tmps[p]?.getD undef = .pointer (some ⟨g, 0, none⟩) := by simpa using hp
  simp only [results, h]
  simp [hp', asAddr, run_loadVar_row w g t ty cs (0, 0) d hg hu hd hi]
end Go.Proofs.YtmohbkniekeafaaGreatDoor


