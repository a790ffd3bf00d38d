/- Layer 7: the tables that the program and the reference lay in new memory. No condition of its own. -/
import Derived.Test.YtofpckmanihknaaGreatDoorShapeA
namespace Go.Proofs.YtofpckmanihknaaGreatDoor
open Go.RowKit

set_option maxRecDepth 100000 in
set_option maxHeartbeats 4000000 in
theorem causes_any (w : World) : Calls Tryz.prog 85 #[] w fun e w' => e = .returned (.slice (some ⟨w.heap.size, 0, none⟩) 19 19) ∧ w' = w.alloc (.cells (flat cT).toArray 91) := by
  go_enter Tryz.func85, Tryz.ntmps85
  go_wp2_with (first | (refine wpList_form rfl ?_) | (refine Go.Great.wpList_buildSliceTo rfl 123 91 19 _ rfl w.heap.size rfl _ rfl Tryz.underlying123 (flat cT).toArray (by kernel_rfl) ?_))
  go_ret
  exact ⟨rfl, rfl⟩
set_option maxRecDepth 100000 in
set_option maxHeartbeats 4000000 in
theorem params_any (w : World) : Calls Tryz.prog 84 #[] w fun e w' => e = .returned (.slice (some ⟨w.heap.size, 0, none⟩) 27 27) ∧ w' = w.alloc (.cells (flat pT).toArray 91) := by
  go_enter Tryz.func84, Tryz.ntmps84
  go_wp2_with (first | (refine wpList_form rfl ?_) | (refine Go.Great.wpList_buildSliceTo rfl 123 91 27 _ rfl w.heap.size rfl _ rfl Tryz.underlying123 (flat pT).toArray (by kernel_rfl) ?_))
  go_ret
  exact ⟨rfl, rfl⟩
end Go.Proofs.YtofpckmanihknaaGreatDoor
