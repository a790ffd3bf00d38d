/- Layer 7: the tables that the program and the reference lay in new memory. No condition of its own. -/
import Derived.Test.YtdnilbebdgohnaaShapeA

namespace Go.Proofs.Ytdnilbebdgohnaa
open Go.RowKit

set_option maxRecDepth 100000 in
set_option maxHeartbeats 4000000 in
theorem causes_any (w : World) : Calls Try.prog 71 #[] w fun e w' => e = .returned (.slice (some ⟨w.heap.size, 0, none⟩) 19 19) ∧ w' = w.alloc (.cells (flat cT).toArray 96) := by
  go_enter Try.func71, Try.ntmps71
  go_wp2_with (first | (refine wpList_form rfl ?_) | (refine Go.Great.wpList_buildSliceTo rfl 106 96 19 _ rfl w.heap.size rfl _ rfl Try.underlying106 (flat cT).toArray (by kernel_rfl) ?_))
  go_ret
  exact ⟨rfl, rfl⟩
set_option maxRecDepth 100000 in
set_option maxHeartbeats 4000000 in
theorem params_any (w : World) : Calls Try.prog 70 #[] w fun e w' => e = .returned (.slice (some ⟨w.heap.size, 0, none⟩) 27 27) ∧ w' = w.alloc (.cells (flat pT).toArray 96) := by
  go_enter Try.func70, Try.ntmps70
  go_wp2_with (first | (refine wpList_form rfl ?_) | (refine Go.Great.wpList_buildSliceTo rfl 106 96 27 _ rfl w.heap.size rfl _ rfl Try.underlying106 (flat pT).toArray (by kernel_rfl) ?_))
  go_ret
  exact ⟨rfl, rfl⟩
end Go.Proofs.Ytdnilbebdgohnaa

