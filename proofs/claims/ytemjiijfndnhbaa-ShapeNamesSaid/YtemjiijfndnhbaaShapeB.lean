/- Layer 7: the tables that the program and the reference lay in new memory. No condition of its own. -/
import Derived.Test.YtemjiijfndnhbaaShapeA
namespace Go.Proofs.Ytemjiijfndnhbaa
open Go.RowKit

set_option maxRecDepth 100000 in
set_option maxHeartbeats 4000000 in
theorem causes_any (w : World) : Calls Try.prog 28 #[] w fun e w' => e = .returned (.slice (some ⟨w.heap.size, 0, none⟩) 19 19) ∧ w' = w.alloc (.cells (flat cT).toArray 25) := by
  go_enter Try.func28, Try.ntmps28
  go_wp2_with (first | (refine wpList_form rfl ?_) | (refine Go.Great.wpList_buildSliceTo rfl 46 25 19 _ rfl w.heap.size rfl _ rfl Try.underlying46 (flat cT).toArray (by kernel_rfl) ?_))
  go_ret
  exact ⟨rfl, rfl⟩
set_option maxRecDepth 100000 in
set_option maxHeartbeats 4000000 in
theorem params_any (w : World) : Calls Try.prog 27 #[] w fun e w' => e = .returned (.slice (some ⟨w.heap.size, 0, none⟩) 27 27) ∧ w' = w.alloc (.cells (flat pT).toArray 25) := by
  go_enter Try.func27, Try.ntmps27
  go_wp2_with (first | (refine wpList_form rfl ?_) | (refine Go.Great.wpList_buildSliceTo rfl 46 25 27 _ rfl w.heap.size rfl _ rfl Try.underlying46 (flat pT).toArray (by kernel_rfl) ?_))
  go_ret
  exact ⟨rfl, rfl⟩
set_option maxRecDepth 100000 in
set_option maxHeartbeats 4000000 in
theorem rtable_any (w : World) : Calls Try.prog 13 #[] w fun e w' => e = .returned (.slice (some ⟨w.heap.size, 0, none⟩) 46 46) ∧ w' = w.alloc (.cells (flat (pT ++ cT)).toArray 28) := by
  go_enter Try.func13, Try.ntmps13
  go_wp2_with (first | (refine wpList_rform rfl ?_) | (refine Go.Great.wpList_buildSliceTo rfl 32 28 46 _ rfl w.heap.size rfl _ rfl Try.underlying32 (flat (pT ++ cT)).toArray (by kernel_rfl) ?_))
  go_ret
  exact ⟨rfl, rfl⟩

end Go.Proofs.Ytemjiijfndnhbaa
