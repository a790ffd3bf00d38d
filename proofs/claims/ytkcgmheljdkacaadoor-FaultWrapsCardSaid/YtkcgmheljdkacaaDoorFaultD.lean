/- Layer 2: Code, At, Shift, New, In at errors of this layer. No condition of its own. -/
import Derived.Test.YtkcgmheljdkacaaDoorFaultC
namespace Go.Proofs.YtkcgmheljdkacaaDoor
open Go.RowKit Go.Extern.Stop Go.Stop Go.Extern

theorem find_nil (T : Nat) (t : Value) (w : World) :
    Calls Tryd.prog 20 #[.nilIface, .iface T t] w fun e w' => e = .returned (.bool false) ∧ Below w.heap.size w w' := by
  have hmf : ∀ (fn : Fn) (first cap : Array Value) (w : World), (Instr.makeFunc fn first cap).run Tryd.prog w = .ok (.func fn first cap) w := fun _ _ _ _ => rfl
  go_enter_defers Tryd.func20, Tryd.ntmps20
  go_wp2_with fail
  refine (as_nil _ _).mono ?_
  rintro e w1 ⟨rfl, rfl⟩
  go_wp2_with fail
  refine leaves_cons (f := 24) (args := #[.pointer (some ⟨w.heap.size, 0, none⟩)]) (by simp) (by simp [go_sem]) ?_
  refine (find_defer ⟨w.heap.size, 0, none⟩ _).mono ?_
  rintro e u' w'' ⟨rfl, rfl, rfl⟩
  simp [Leaves, settle, results, Tryd.results20, go_sem]
  exact (Below.refl _ _).alloc (Nat.le_refl _) _

/-! ### Code and At -/
theorem Code_nil (w : World) :
    Calls Tryd.prog 10 #[.nilIface] w fun e w' => e = .returned (.tuple #[.int .i64 0, .bool false]) ∧ Below w.heap.size w w' := by
  go_enter Tryd.func10, Tryd.ntmps10
  go_wp2_with fail
  refine (find_nil _ _ _).mono ?_
  rintro e w1 ⟨rfl, b1⟩
  go_wp2_with fail
  go_ret2
  exact ⟨rfl, ((Below.refl _ _).alloc (Nat.le_refl _) _).trans (b1.mono (by simp))⟩
theorem Code_any (f : Bool) (c a : Int) (ps : List ByteArray) (w : World) (hh : Handle w) :
    Calls Tryd.prog 10 #[wraps ps (baseV f c a)] w fun e w' => e = .returned (.tuple #[.int .i64 c, .bool true]) ∧ Below w.heap.size w w' := by
  go_enter Tryd.func10, Tryd.ntmps10
  go_wp2_with fail
  refine (find_code f c a ps ⟨w.heap.size, 0, none⟩ (.int .i64 0) _ (hh.alloc _) (by simp) (by simp)).mono ?_
  rintro e w1 ⟨rfl, b1⟩
  have hw1 : Whole w1 w.heap.size 30 #[.int .i64 c] := ((Whole.new w 30 #[.int .i64 0]).set_ 0 (.int .i64 c)).below b1 (by simp)
  have g0 := hw1.cell 0
  go_wp2_with fail
  go_ret2
  exact ⟨rfl, (((Below.refl _ _).alloc (Nat.le_refl _) _).setCell (by simp) _).trans (b1.mono (by simp))⟩
theorem At_nil (w : World) :
    Calls Tryd.prog 11 #[.nilIface] w fun e w' => e = .returned (.tuple #[.int .i64 0, .bool false]) ∧ Below w.heap.size w w' := by
  go_enter Tryd.func11, Tryd.ntmps11
  go_wp2_with fail
  refine (find_nil _ _ _).mono ?_
  rintro e w1 ⟨rfl, b1⟩
  go_wp2_with fail
  go_ret2
  exact ⟨rfl, ((Below.refl _ _).alloc (Nat.le_refl _) _).trans (b1.mono (by simp))⟩
def offOf (f : Bool) (a : Int) : Int := if f then a else 0
theorem At_code (c a : Int) (ps : List ByteArray) (w : World) (hh : Handle w) :
    Calls Tryd.prog 11 #[wraps ps (baseV false c a)] w fun e w' => e = .returned (.tuple #[.int .i64 0, .bool false]) ∧ Below w.heap.size w w' := by
  go_enter Tryd.func11, Tryd.ntmps11
  go_wp2_with fail
  refine (find_fault false c a ps w.heap.size (.int .i64 0) (.int .i64 0) _ (hh.alloc _) (by simp) (by simp) (by simp) (by simp)).mono ?_
  rintro e w1 ⟨rfl, b1⟩
  go_wp2_with fail
  go_ret2
  exact ⟨rfl, ((Below.refl _ _).alloc (Nat.le_refl _) _).trans (b1.mono (by simp))⟩
theorem At_fault (c a : Int) (ps : List ByteArray) (w : World) (hh : Handle w) :
    Calls Tryd.prog 11 #[wraps ps (baseV true c a)] w fun e w' => e = .returned (.tuple #[.int .i64 a, .bool true]) ∧ Below w.heap.size w w' := by
  go_enter Tryd.func11, Tryd.ntmps11
  go_wp2_with fail
  refine (find_fault true c a ps w.heap.size (.int .i64 0) (.int .i64 0) _ (hh.alloc _) (by simp) (by simp) (by simp) (by simp)).mono ?_
  rintro e w1 ⟨rfl, b1⟩
  have hw1 : Whole w1 w.heap.size 48 #[.int .i64 c, .int .i64 a] := Whole.below (((Whole.new w 48 #[.int .i64 0, .int .i64 0]).set_ 0 (.int .i64 c)).set_ 1 (.int .i64 a)) b1 (by simp)
  have g1 := hw1.cell 1
  go_wp2_with fail
  go_ret2
  exact ⟨rfl, (((((Below.refl _ _).alloc (Nat.le_refl _) _).setCell (p := ⟨w.heap.size, 0, none⟩) (by simp) (.int .i64 c)).setCell (p := ⟨w.heap.size, 1, none⟩) (by simp) (.int .i64 a))).trans (b1.mono (by simp))⟩
theorem At_any (f : Bool) (c a : Int) (ps : List ByteArray) (w : World) (hh : Handle w) :
    Calls Tryd.prog 11 #[wraps ps (baseV f c a)] w fun e w' => e = .returned (.tuple #[.int .i64 (offOf f a), .bool f]) ∧ Below w.heap.size w w' := by
  cases f
  · exact At_code c a ps w hh
  · exact At_fault c a ps w hh

/-! ### New, In, Shift -/
theorem New_any (c a : Int) (w : World) :
    Calls Tryd.prog 19 #[.int .i64 c, .int .i64 a] w fun e w' => e = .returned (faultV c a) ∧ w = w' := by
  go_enter Tryd.func19, Tryd.ntmps19
  go_wp2
  go_ret
  exact ⟨rfl, rfl⟩
theorem In_nil (p : ByteArray) (w : World) :
    Calls Tryd.prog 14 #[.string p, .nilIface] w fun e w' => e = .returned .nilIface ∧ w = w' := by
  go_enter Tryd.func14, Tryd.ntmps14
  go_wp2
  go_ret
  exact ⟨rfl, rfl⟩
theorem In_any (p : ByteArray) (T : Nat) (x : Value) (w : World) :
    Calls Tryd.prog 14 #[.string p, .iface T x] w fun e w' => e = .returned (wrapV p (.iface T x)) ∧ w = w' := by
  go_enter Tryd.func14, Tryd.ntmps14
  go_wp2
  go_ret
  exact ⟨rfl, rfl⟩
theorem Shift_nil (n : Int) (w : World) :
    Calls Tryd.prog 13 #[.nilIface, .int .i64 n] w fun e w' => e = .returned .nilIface ∧ Below w.heap.size w w' := by
  go_enter Tryd.func13, Tryd.ntmps13
  go_wp2_with fail
  refine (Code_nil _).mono ?_
  rintro e w1 ⟨rfl, b1⟩
  go_wp2_with fail
  go_ret
  exact ⟨rfl, b1⟩
theorem Shift_any (f : Bool) (c a n : Int) (ps : List ByteArray) (w : World) (hh : Handle w) :
    Calls Tryd.prog 13 #[wraps ps (baseV f c a), .int .i64 n] w fun e w' => e = .returned (faultV c (wrap64 (offOf f a + n))) ∧ Below w.heap.size w w' := by
  go_enter Tryd.func13, Tryd.ntmps13
  go_wp2_with fail
  refine (Code_any f c a ps _ hh).mono ?_
  rintro e w1 ⟨rfl, b1⟩
  go_wp2_with fail
  refine (At_any f c a ps _ (hh.below b1 hh.lt)).mono ?_
  rintro e w2 ⟨rfl, b2⟩
  go_wp2_with fail
  refine (New_any c _ _).mono ?_
  rintro e w3 ⟨rfl, rfl⟩
  go_wp2_with fail
  go_ret
  exact ⟨rfl, b1.trans (b2.mono b1.size)⟩
end Go.Proofs.YtkcgmheljdkacaaDoor
