/- Code, At, New at the errors of api. No condition of its own. -/
import Derived.Test.YtdnilbebdgohnaaGreatDoorErrC

namespace Go.Proofs.YtdnilbebdgohnaaGreatDoor
open Go.RowKit Go.Extern.Stop Go.Stop Go.Extern

/-! ### Code and At -/
theorem Code_any (f : Bool) (c a : Int) (w : World) (hh : Handle w) :
    Calls Tryz.prog 29 #[baseV f c a] w fun e w' => e = .returned (.tuple #[.int .i64 c, .bool true]) ∧ Below w.heap.size w w' := by
  go_enter Tryz.func29, Tryz.ntmps29
  go_wp2_with fail
  refine (find_code f c a ⟨w.heap.size, 0, none⟩ (.int .i64 0) _ (hh.alloc _) (by simp) (by simp)).mono ?_
  rintro e w1 ⟨rfl, b1⟩
  have hw1 : Whole w1 w.heap.size 59 #[.int .i64 c] := ((Whole.new w 59 #[.int .i64 0]).set_ 0 (.int .i64 c)).below b1 (by simp)
  have g0 := hw1.cell 0
  go_wp2_with fail
  go_ret2
  exact ⟨rfl, (((Below.refl _ _).alloc (Nat.le_refl _) _).setCell (by simp) _).trans (b1.mono (by simp))⟩
def offOf (f : Bool) (a : Int) : Int := if f then a else 0
theorem At_code (c a : Int) (w : World) (hh : Handle w) :
    Calls Tryz.prog 30 #[baseV false c a] w fun e w' => e = .returned (.tuple #[.int .i64 0, .bool false]) ∧ Below w.heap.size w w' := by
  go_enter Tryz.func30, Tryz.ntmps30
  go_wp2_with fail
  refine (find_fault false c a w.heap.size (.int .i64 0) (.int .i64 0) _ (hh.alloc _) (by simp) (by simp) (by simp) (by simp)).mono ?_
  rintro e w1 ⟨rfl, b1⟩
  go_wp2_with fail
  go_ret2
  exact ⟨rfl, ((Below.refl _ _).alloc (Nat.le_refl _) _).trans (b1.mono (by simp))⟩
theorem At_fault (c a : Int) (w : World) (hh : Handle w) :
    Calls Tryz.prog 30 #[baseV true c a] w fun e w' => e = .returned (.tuple #[.int .i64 a, .bool true]) ∧ Below w.heap.size w w' := by
  go_enter Tryz.func30, Tryz.ntmps30
  go_wp2_with fail
  refine (find_fault true c a w.heap.size (.int .i64 0) (.int .i64 0) _ (hh.alloc _) (by simp) (by simp) (by simp) (by simp)).mono ?_
  rintro e w1 ⟨rfl, b1⟩
  have hw1 : Whole w1 w.heap.size 84 #[.int .i64 c, .int .i64 a] := Whole.below (((Whole.new w 84 #[.int .i64 0, .int .i64 0]).set_ 0 (.int .i64 c)).set_ 1 (.int .i64 a)) b1 (by simp)
  have g1 := hw1.cell 1
  go_wp2_with fail
  go_ret2
  exact ⟨rfl, (((((Below.refl _ _).alloc (Nat.le_refl _) _).setCell (p := ⟨w.heap.size, 0, none⟩) (by simp) (.int .i64 c)).setCell (p := ⟨w.heap.size, 1, none⟩) (by simp) (.int .i64 a))).trans (b1.mono (by simp))⟩
theorem At_any (f : Bool) (c a : Int) (w : World) (hh : Handle w) :
    Calls Tryz.prog 30 #[baseV f c a] w fun e w' => e = .returned (.tuple #[.int .i64 (offOf f a), .bool f]) ∧ Below w.heap.size w w' := by
  cases f
  · exact At_code c a w hh
  · exact At_fault c a w hh

/-! ### New, In, Shift -/
theorem New_any (c a : Int) (w : World) :
    Calls Tryz.prog 53 #[.int .i64 c, .int .i64 a] w fun e w' => e = .returned (faultV c a) ∧ w = w' := by
  go_enter Tryz.func53, Tryz.ntmps53
  go_wp2
  go_ret
  exact ⟨rfl, rfl⟩
end Go.Proofs.YtdnilbebdgohnaaGreatDoor

