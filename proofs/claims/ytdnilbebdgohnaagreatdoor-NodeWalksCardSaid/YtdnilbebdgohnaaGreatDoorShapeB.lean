/- Layer 7: the tables that the program and the reference lay in new memory. No condition of its own. -/
import Derived.Test.YtdnilbebdgohnaaGreatDoorShapeA

namespace Go.Proofs.YtdnilbebdgohnaaGreatDoor
open Go.RowKit

set_option maxRecDepth 100000 in
set_option maxHeartbeats 4000000 in
theorem causes_any (w : World) : Calls Tryz.prog 72 #[] w fun e w' => e = .returned (.slice (some ⟨w.heap.size, 0, none⟩) 19 19) ∧ w' = w.alloc (.cells (flat cT).toArray 87) := by
  go_enter Tryz.func72, Tryz.ntmps72
  go_wp2_with (first | (refine wpList_form rfl ?_) | (refine Go.Great.wpList_buildSliceTo rfl 106 87 19 _ rfl w.heap.size rfl _ rfl Tryz.underlying106 (flat cT).toArray (by kernel_rfl) ?_))
  go_ret
  exact ⟨rfl, rfl⟩
set_option maxRecDepth 100000 in
set_option maxHeartbeats 4000000 in
theorem params_any (w : World) : Calls Tryz.prog 71 #[] w fun e w' => e = .returned (.slice (some ⟨w.heap.size, 0, none⟩) 27 27) ∧ w' = w.alloc (.cells (flat pT).toArray 87) := by
  go_enter Tryz.func71, Tryz.ntmps71
  go_wp2_with (first | (refine wpList_form rfl ?_) | (refine Go.Great.wpList_buildSliceTo rfl 106 87 27 _ rfl w.heap.size rfl _ rfl Tryz.underlying106 (flat pT).toArray (by kernel_rfl) ?_))
  go_ret
  exact ⟨rfl, rfl⟩
end Go.Proofs.YtdnilbebdgohnaaGreatDoor

