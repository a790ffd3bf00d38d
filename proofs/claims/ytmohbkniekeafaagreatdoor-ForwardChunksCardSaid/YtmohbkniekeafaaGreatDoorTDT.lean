/- Layer 13: Split. It writes nothing that was there. -/
/- Layer 13: the reference's Of. It writes nothing that was there. -/
import Derived.Test.YtmohbkniekeafaaGreatDoorTDP
import Derived.Test.YtmohbkniekeafaaGreatDoorTDK
import Derived.Test.YtmohbkniekeafaaGreatDoorTNF
import Derived.Test.YtmohbkniekeafaaGreatDoorTW
import Derived.Deep.RegionHeld3
import Derived.Deep.Cut
import Derived.Laws.Tables
import Derived.BigGuard
import Derived.Test.YtmohbkniekeafaaGreatDoorTRefNS
import Derived.Test.YtmohbkniekeafaaGreatDoorTDA
import Derived.Test.YtmohbkniekeafaaGreatDoorTA


namespace Go.Proofs.YtmohbkniekeafaaGreatDoor
open Go.RowKit Go.Shelf

attribute [local go_sem] Oper.semAt_some
set_option linter.unusedSimpArgs false
theorem whole_row_ne13 {W : World} {g : Nat} {t e : TypeId} {cs : Array Value} {z : Nat × Nat} (h : W.heap[g]? = some (.cells cs t z)) (hte : t ≠ e) {base size n : Nat} {v : Value} {xs : List Value} (hr : W.ownsRow base e size v n xs) : v.ownBlock ≠ some g := by
  rcases hr.2 with ⟨rfl, _⟩ | ⟨q, cap, cur, rfl, _, hq, _⟩
  · simp [Value.ownBlock]
  · intro he
    simp only [Value.ownBlock, Option.some.injEq] at he
    subst he
    rw [h] at hq
    simp only [Option.some.injEq, Obj.cells.injEq] at hq
    exact hte hq.2.1
end Go.Proofs.YtmohbkniekeafaaGreatDoor








namespace Go.Proofs.YtmohbkniekeafaaGreatDoor
open Go.RowKit

set_option linter.unusedSimpArgs false
theorem results_row13 {P : Program} {fn : Func} {p : Tmp} {ty : TypeId} (h : fn.results = #[.cell p ty]) (tmps : Array Value) (w : World) (g : Nat) (t : TypeId) (cs : Array Value) (d : TypeDesc)
    (hp : tmps.getD p undef = .pointer (some ⟨g, 0, none⟩)) (hg : Whole w g t cs)
    (hu : P.underlying ty = some d) (hd : (match d with | .struct _ | .array _ _ => true | _ => false) = true) (hi : (P.info? ty).map (·.size) = some cs.size) :
    (results fn tmps).run P w = .ok (.agg cs) w := by
  have hp' : tmps[p]?.getD undef = .pointer (some ⟨g, 0, none⟩) := by simpa using hp
  simp only [results, h]
  simp [hp', asAddr, run_loadVar_row w g t ty cs (0, 0) d hg hu hd hi]
end Go.Proofs.YtmohbkniekeafaaGreatDoor


