/- Layer 13: the reference's Of. It writes nothing that was there. -/
import Derived.Test.YtabljmiiekpgiaaGreatDoorQDataM
import Derived.Test.YtabljmiiekpgiaaGreatDoorQDP
import Derived.Test.YtabljmiiekpgiaaGreatDoorQNF
import Derived.Test.YtabljmiiekpgiaaGreatDoorQW
import Derived.Deep.RegionHeld3
import Derived.Deep.Cut
import Derived.Laws.Tables
import Derived.BigGuard
import Derived.Test.YtabljmiiekpgiaaGreatDoorQRefNS
import Derived.Test.YtabljmiiekpgiaaGreatDoorQDA
import Derived.Test.YtabljmiiekpgiaaGreatDoorQA






namespace Go.Proofs.YtabljmiiekpgiaaGreatDoor
open Go.RowKit

set_option linter.unusedSimpArgs false
theorem results_row13 {P : Program} {fn : Func} {p : Tmp} {ty : TypeId} (h : fn.results = #[.cell p ty]) (tmps : Array Value) (w : World) (g : Nat) (t : TypeId) (cs : Array Value) (d : TypeDesc)
    (hp : tmps.getD p undef = .pointer (some ⟨g, 0, none⟩)) (hg : Whole w g t cs)
    (hu : P.underlying ty = some d) (hd : (match d with | .struct _ | .array _ _ => true | _ => false) = true) (hi : (P.info? ty).map (·.size) = some cs.size) :
    (results fn tmps).run P w = .ok (.agg cs) w := by
  have hp' : tmps[p]?.getD undef = .pointer (some ⟨g, 0, none⟩) := by simpa using hp
  simp only [results, h]
  simp [hp', asAddr, run_loadVar_row w g t ty cs (0, 0) d hg hu hd hi]
theorem num13 (A : Option Addr) (c : Nat) (d : List UInt8) (p k : Nat) (w : World) (h : Lies w w.heap.size A (d.map bv)) (hm : d.length ≤ 1000000) (hw : widthB k = true) (hk : p + k ≤ d.length) :
    Calls Tryz.prog 73 #[.slice A d.length c, .int .i64 (p : Int), .int .i64 (k : Int)] w fun e w' => e = .returned (.tuple #[uv (nrd d p k), .bool true]) ∧ w = w' := by
  have h1 := rnumber_yes A c w.heap.size d p k w h (by omega) hw hk
  rw [← nrd_toNat] at h1
  exact h1
end Go.Proofs.YtabljmiiekpgiaaGreatDoor


