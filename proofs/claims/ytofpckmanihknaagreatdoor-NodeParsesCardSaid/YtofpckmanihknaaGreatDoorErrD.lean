/- Code, At, New at the errors of api. No condition of its own. -/
import Derived.Test.YtofpckmanihknaaGreatDoorErrC
namespace Go.Proofs.YtofpckmanihknaaGreatDoor
open Go.RowKit Go.Extern.Stop Go.Stop Go.Extern

theorem find_nil (T : Nat) (t : Value) (w : World) :
    Calls Tryz.prog 65 #[.nilIface, .iface T t] w fun e w' => e = .returned (.bool false) ∧ Below w.heap.size w w' := by
  have hmf : ∀ (fn : Fn) (first cap : Array Value) (w : World), (Instr.makeFunc fn first cap).run Tryz.prog w = .ok (.func fn first cap) w := fun _ _ _ _ => rfl
  go_enter_defers Tryz.func65, Tryz.ntmps65
  go_wp2_with fail
  refine (as_nil _ _).mono ?_
  rintro e w1 ⟨rfl, rfl⟩
  go_wp2_with fail
  refine leaves_cons (f := 82) (args := #[.pointer (some ⟨w.heap.size, 0, none⟩)]) (by simp) (by simp [go_sem]) ?_
  refine (find_defer ⟨w.heap.size, 0, none⟩ _).mono ?_
  rintro e u' w'' ⟨rfl, rfl, rfl⟩
  simp [Leaves, settle, results, Tryz.results65, go_sem]
  exact (Below.refl _ _).alloc (Nat.le_refl _) _

/-! ### Code and At -/
theorem Code_nil (w : World) :
    Calls Tryz.prog 41 #[.nilIface] w fun e w' => e = .returned (.tuple #[.int .i64 0, .bool false]) ∧ Below w.heap.size w w' := by
  go_enter Tryz.func41, Tryz.ntmps41
  go_wp2_with fail
  refine (find_nil _ _ _).mono ?_
  rintro e w1 ⟨rfl, b1⟩
  go_wp2_with fail
  go_ret2
  exact ⟨rfl, ((Below.refl _ _).alloc (Nat.le_refl _) _).trans (b1.mono (by simp))⟩
theorem Code_any (f : Bool) (c a : Int) (w : World) (hh : Handle w) :
    Calls Tryz.prog 41 #[baseV f c a] w fun e w' => e = .returned (.tuple #[.int .i64 c, .bool true]) ∧ Below w.heap.size w w' := by
  go_enter Tryz.func41, Tryz.ntmps41
  go_wp2_with fail
  refine (find_code f c a ⟨w.heap.size, 0, none⟩ (.int .i64 0) _ (hh.alloc _) (by simp) (by simp)).mono ?_
  rintro e w1 ⟨rfl, b1⟩
  have hw1 : Whole w1 w.heap.size 63 #[.int .i64 c] := ((Whole.new w 63 #[.int .i64 0]).set_ 0 (.int .i64 c)).below b1 (by simp)
  have g0 := hw1.cell 0
  go_wp2_with fail
  go_ret2
  exact ⟨rfl, (((Below.refl _ _).alloc (Nat.le_refl _) _).setCell (by simp) _).trans (b1.mono (by simp))⟩
theorem At_nil (w : World) :
    Calls Tryz.prog 42 #[.nilIface] w fun e w' => e = .returned (.tuple #[.int .i64 0, .bool false]) ∧ Below w.heap.size w w' := by
  go_enter Tryz.func42, Tryz.ntmps42
  go_wp2_with fail
  refine (find_nil _ _ _).mono ?_
  rintro e w1 ⟨rfl, b1⟩
  go_wp2_with fail
  go_ret2
  exact ⟨rfl, ((Below.refl _ _).alloc (Nat.le_refl _) _).trans (b1.mono (by simp))⟩
def offOf (f : Bool) (a : Int) : Int := if f then a else 0
theorem At_code (c a : Int) (w : World) (hh : Handle w) :
    Calls Tryz.prog 42 #[baseV false c a] w fun e w' => e = .returned (.tuple #[.int .i64 0, .bool false]) ∧ Below w.heap.size w w' := by
  go_enter Tryz.func42, Tryz.ntmps42
  go_wp2_with fail
  refine (find_fault false c a w.heap.size (.int .i64 0) (.int .i64 0) _ (hh.alloc _) (by simp) (by simp) (by simp) (by simp)).mono ?_
  rintro e w1 ⟨rfl, b1⟩
  go_wp2_with fail
  go_ret2
  exact ⟨rfl, ((Below.refl _ _).alloc (Nat.le_refl _) _).trans (b1.mono (by simp))⟩
theorem At_fault (c a : Int) (w : World) (hh : Handle w) :
    Calls Tryz.prog 42 #[baseV true c a] w fun e w' => e = .returned (.tuple #[.int .i64 a, .bool true]) ∧ Below w.heap.size w w' := by
  go_enter Tryz.func42, Tryz.ntmps42
  go_wp2_with fail
  refine (find_fault true c a w.heap.size (.int .i64 0) (.int .i64 0) _ (hh.alloc _) (by simp) (by simp) (by simp) (by simp)).mono ?_
  rintro e w1 ⟨rfl, b1⟩
  have hw1 : Whole w1 w.heap.size 120 #[.int .i64 c, .int .i64 a] := Whole.below (((Whole.new w 120 #[.int .i64 0, .int .i64 0]).set_ 0 (.int .i64 c)).set_ 1 (.int .i64 a)) b1 (by simp)
  have g1 := hw1.cell 1
  go_wp2_with fail
  go_ret2
  exact ⟨rfl, (((((Below.refl _ _).alloc (Nat.le_refl _) _).setCell (p := ⟨w.heap.size, 0, none⟩) (by simp) (.int .i64 c)).setCell (p := ⟨w.heap.size, 1, none⟩) (by simp) (.int .i64 a))).trans (b1.mono (by simp))⟩
theorem At_any (f : Bool) (c a : Int) (w : World) (hh : Handle w) :
    Calls Tryz.prog 42 #[baseV f c a] w fun e w' => e = .returned (.tuple #[.int .i64 (offOf f a), .bool f]) ∧ Below w.heap.size w w' := by
  cases f
  · exact At_code c a w hh
  · exact At_fault c a w hh

/-! ### New, In, Shift -/
theorem New_any (c a : Int) (w : World) :
    Calls Tryz.prog 81 #[.int .i64 c, .int .i64 a] w fun e w' => e = .returned (faultV c a) ∧ w = w' := by
  go_enter Tryz.func81, Tryz.ntmps81
  go_wp2
  go_ret
  exact ⟨rfl, rfl⟩
end Go.Proofs.YtofpckmanihknaaGreatDoor
