/- Layer 7: the tables that the program and the reference lay in new memory. No condition of its own. -/
import Derived.Test.YtofpckmanihknaaDoorShapeA
namespace Go.Proofs.YtofpckmanihknaaDoor
open Go.RowKit

set_option maxRecDepth 100000 in
set_option maxHeartbeats 4000000 in
theorem causes_any (w : World) : Calls Tryd.prog 121 #[] w fun e w' => e = .returned (.slice (some ⟨w.heap.size, 0, none⟩) 19 19) ∧ w' = w.alloc (.cells (flat cT).toArray 118) := by
  go_enter Tryd.func121, Tryd.ntmps121
  go_wp2_with (first | (refine wpList_form rfl ?_) | (refine Go.Great.wpList_buildSliceTo rfl 150 118 19 _ rfl w.heap.size rfl _ rfl Tryd.underlying150 (flat cT).toArray (by kernel_rfl) ?_))
  go_ret
  exact ⟨rfl, rfl⟩
set_option maxRecDepth 100000 in
set_option maxHeartbeats 4000000 in
theorem params_any (w : World) : Calls Tryd.prog 120 #[] w fun e w' => e = .returned (.slice (some ⟨w.heap.size, 0, none⟩) 27 27) ∧ w' = w.alloc (.cells (flat pT).toArray 118) := by
  go_enter Tryd.func120, Tryd.ntmps120
  go_wp2_with (first | (refine wpList_form rfl ?_) | (refine Go.Great.wpList_buildSliceTo rfl 150 118 27 _ rfl w.heap.size rfl _ rfl Tryd.underlying150 (flat pT).toArray (by kernel_rfl) ?_))
  go_ret
  exact ⟨rfl, rfl⟩
end Go.Proofs.YtofpckmanihknaaDoor
