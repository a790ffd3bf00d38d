/- errors.As and find at the errors of api. No condition of its own. -/
import Derived.Test.YtdnilbebdgohnaaGreatDoorErrB

namespace Go.Proofs.YtdnilbebdgohnaaGreatDoor
open Go.RowKit Go.Extern.Stop Go.Stop Go.Extern

def Handle (w : World) : Prop := w.cell? ⟨0, 0, none⟩ = some (.iface 142 (.agg #[.pointer (some ⟨1, 42, none⟩)]))
theorem Handle.lt {w : World} (h : Handle w) : 0 < w.heap.size := World.block_lt_of_cell? w _ h
theorem Handle.below {B : Nat} {w w' : World} (h : Handle w) (hb : Below B w w') (hB : 0 < B) : Handle w' := (hb.cell (p := ⟨0, 0, none⟩) hB).trans h
theorem Handle.alloc {w : World} (h : Handle w) (o : Obj) : Handle (w.alloc o) := (World.cell?_alloc_lt w o ⟨0, 0, none⟩ h.lt).trans h

set_option maxHeartbeats 4000000 in
theorem As_code (f : Bool) (c a : Int) (t : Addr) (old : Value) (w : World) (hh : Handle w)
    (ht : w.cell? t = some old) (hf : w.frozen? t = false) :
    Calls Tryz.prog 55 #[baseV f c a, .iface 82 (.pointer (some t))] w fun e w' => e = .returned (.bool true) ∧ Below w.heap.size (w.setCell t (.int .i64 c)) w' := by
  have h26 := @run_callFunc_extern Tryz.prog 67 _ (fun args => ReflectliteValue.unpack (args.getD 0 (.tuple #[]))) Tryz.func67 (by kernel_rfl) (by kernel_rfl) (by kernel_rfl) (by kernel_rfl)
  have h27 := @run_callFunc_extern Tryz.prog 68 _ (ReflectliteValue.methodAny (ReflectliteValue.valueError "reflectlite.Value.Type" 0) (fun t _ _ _ => ReflectliteType.toType t)) Tryz.func68 (by kernel_rfl) (by kernel_rfl) (by kernel_rfl) (by kernel_rfl)
  have h28 := @run_callFunc_extern Tryz.prog 69 _ (ReflectliteValue.method (ReflectliteValue.valueError "reflectlite.Value.IsNil" 0) ReflectliteValue.isNil) Tryz.func69 (by kernel_rfl) (by kernel_rfl) (by kernel_rfl) (by kernel_rfl)
  have h46 := @run_callFunc_extern Tryz.prog 101 _ (ReflectliteType.abiMethod fun t => do pure (.int .u8 (← Rtype.kind t))) Tryz.func101 (by kernel_rfl) (by kernel_rfl) (by kernel_rfl) (by kernel_rfl)
  have h71 := @run_callFunc_extern Tryz.prog 114 _ (ReflectliteType.method ReflectliteType.elem) Tryz.func114 (by kernel_rfl) (by kernel_rfl) (by kernel_rfl) (by kernel_rfl)
  have h72 := @run_callFunc_extern Tryz.prog 115 _ (ReflectliteType.relation "Implements" ReflectliteType.implements_) Tryz.func115 (by kernel_rfl) (by kernel_rfl) (by kernel_rfl) (by kernel_rfl)
  have f1 := valueOf_pc
  have f2 := type_pc
  have f3 := mKind
  have f4 := kind_pc
  have f5 := kind_c
  have f6 := mElem
  have f7 := elem_pc
  have f8 := mImplements
  have f9 := implements_c
  have hbt : t.block < w.heap.size := World.block_lt_of_cell? w _ ht
  have hb : Below w.heap.size w ((w.alloc (.cells #[.pointer (some t)] 82)).alloc (.cells #[.pointer (some ⟨1, 82, none⟩), .pointer (some ⟨w.heap.size, 0, none⟩), .int .u64 150] 125)) := ((Below.refl _ _).alloc (Nat.le_refl _) _).alloc (by simp) _
  have f10 := isNil_pc ⟨w.heap.size, 0, none⟩ t ((w.alloc (.cells #[.pointer (some t)] 82)).alloc (.cells #[.pointer (some ⟨1, 82, none⟩), .pointer (some ⟨w.heap.size, 0, none⟩), .int .u64 150] 125)) (by simp)
  have f11 : ((w.alloc (.cells #[.pointer (some t)] 82)).alloc (.cells #[.pointer (some ⟨1, 82, none⟩), .pointer (some ⟨w.heap.size, 0, none⟩), .int .u64 150] 125)).cell? ⟨0, 0, none⟩ = some (.iface 142 (.agg #[.pointer (some ⟨1, 42, none⟩)])) := (hh.alloc _).alloc _
  obtain ⟨T, x, hx⟩ := baseV_iface f c a
  have X := Lib.hid hx
  rw [hx]
  clear hx
  go_enter Tryz.func55, Tryz.ntmps55
  go_wp2_with fail
  rw [← X.out]
  refine (as_code f c a ⟨w.heap.size, 0, none⟩ t old _ ?_ ?_ ?_ ?_ _).mono ?_
  · simp
  · simp; omega
  · rw [World.cell?_alloc_lt _ _ t (by simp; omega), World.cell?_alloc_lt _ _ t hbt]; exact ht
  · rw [World.frozen?_alloc_old _ _ t (by simp; omega), World.frozen?_alloc_old _ _ t (Nat.ne_of_lt hbt)]; exact hf
  rintro e w1 ⟨rfl, b1⟩
  go_wp2_with fail
  go_ret
  refine ⟨rfl, ?_⟩
  exact (below_put hb _).trans (b1.mono (by simp; omega))

set_option maxHeartbeats 4000000 in
theorem As_fault (f : Bool) (c a : Int) (tb : Nat) (o0 o1 : Value) (w : World) (hh : Handle w)
    (ht : w.cell? ⟨tb, 0, none⟩ = some o0) (ht1 : w.cell? ⟨tb, 1, none⟩ = some o1) (hf : w.frozen? ⟨tb, 0, none⟩ = false) (hf1 : w.frozen? ⟨tb, 1, none⟩ = false) :
    Calls Tryz.prog 55 #[baseV f c a, .iface 85 (.pointer (some ⟨tb, 0, none⟩))] w fun e w' => e = .returned (.bool f) ∧ Below w.heap.size (putF f c a w tb) w' := by
  have h26 := @run_callFunc_extern Tryz.prog 67 _ (fun args => ReflectliteValue.unpack (args.getD 0 (.tuple #[]))) Tryz.func67 (by kernel_rfl) (by kernel_rfl) (by kernel_rfl) (by kernel_rfl)
  have h27 := @run_callFunc_extern Tryz.prog 68 _ (ReflectliteValue.methodAny (ReflectliteValue.valueError "reflectlite.Value.Type" 0) (fun t _ _ _ => ReflectliteType.toType t)) Tryz.func68 (by kernel_rfl) (by kernel_rfl) (by kernel_rfl) (by kernel_rfl)
  have h28 := @run_callFunc_extern Tryz.prog 69 _ (ReflectliteValue.method (ReflectliteValue.valueError "reflectlite.Value.IsNil" 0) ReflectliteValue.isNil) Tryz.func69 (by kernel_rfl) (by kernel_rfl) (by kernel_rfl) (by kernel_rfl)
  have h46 := @run_callFunc_extern Tryz.prog 101 _ (ReflectliteType.abiMethod fun t => do pure (.int .u8 (← Rtype.kind t))) Tryz.func101 (by kernel_rfl) (by kernel_rfl) (by kernel_rfl) (by kernel_rfl)
  have h71 := @run_callFunc_extern Tryz.prog 114 _ (ReflectliteType.method ReflectliteType.elem) Tryz.func114 (by kernel_rfl) (by kernel_rfl) (by kernel_rfl) (by kernel_rfl)
  have h72 := @run_callFunc_extern Tryz.prog 115 _ (ReflectliteType.relation "Implements" ReflectliteType.implements_) Tryz.func115 (by kernel_rfl) (by kernel_rfl) (by kernel_rfl) (by kernel_rfl)
  have f1 := valueOf_pf
  have f2 := type_pf
  have f3 := mKind
  have f4 := kind_pf
  have f5 := kind_f
  have f6 := mElem
  have f7 := elem_pf
  have f8 := mImplements
  have f9 := implements_f
  have hbt : tb < w.heap.size := World.block_lt_of_cell? w _ ht
  have hb : Below w.heap.size w ((w.alloc (.cells #[.pointer (some ⟨tb, 0, none⟩)] 85)).alloc (.cells #[.pointer (some ⟨1, 85, none⟩), .pointer (some ⟨w.heap.size, 0, none⟩), .int .u64 150] 125)) := ((Below.refl _ _).alloc (Nat.le_refl _) _).alloc (by simp) _
  have f10 := isNil_pf ⟨w.heap.size, 0, none⟩ ⟨tb, 0, none⟩ ((w.alloc (.cells #[.pointer (some ⟨tb, 0, none⟩)] 85)).alloc (.cells #[.pointer (some ⟨1, 85, none⟩), .pointer (some ⟨w.heap.size, 0, none⟩), .int .u64 150] 125)) (by simp)
  have f11 : ((w.alloc (.cells #[.pointer (some ⟨tb, 0, none⟩)] 85)).alloc (.cells #[.pointer (some ⟨1, 85, none⟩), .pointer (some ⟨w.heap.size, 0, none⟩), .int .u64 150] 125)).cell? ⟨0, 0, none⟩ = some (.iface 142 (.agg #[.pointer (some ⟨1, 42, none⟩)])) := (hh.alloc _).alloc _
  obtain ⟨T, x, hx⟩ := baseV_iface f c a
  have X := Lib.hid hx
  rw [hx]
  clear hx
  go_enter Tryz.func55, Tryz.ntmps55
  go_wp2_with fail
  rw [← X.out]
  refine (as_fault f c a ⟨w.heap.size, 0, none⟩ tb o0 o1 _ ?_ ?_ ?_ ?_ ?_ ?_ _).mono ?_
  · simp
  · simp; omega
  · rw [World.cell?_alloc_lt _ _ ⟨tb, 0, none⟩ (by simp; omega), World.cell?_alloc_lt _ _ ⟨tb, 0, none⟩ hbt]; exact ht
  · rw [World.cell?_alloc_lt _ _ ⟨tb, 1, none⟩ (by simp; omega), World.cell?_alloc_lt _ _ ⟨tb, 1, none⟩ hbt]; exact ht1
  · rw [World.frozen?_alloc_old _ _ ⟨tb, 0, none⟩ (by simp; omega), World.frozen?_alloc_old _ _ ⟨tb, 0, none⟩ (Nat.ne_of_lt hbt)]; exact hf
  · rw [World.frozen?_alloc_old _ _ ⟨tb, 1, none⟩ (by simp; omega), World.frozen?_alloc_old _ _ ⟨tb, 1, none⟩ (Nat.ne_of_lt hbt)]; exact hf1
  rintro e w1 ⟨rfl, b1⟩
  go_wp2_with fail
  go_ret
  refine ⟨rfl, ?_⟩
  refine Below.trans ?_ (b1.mono (by simp; omega))
  cases f
  · exact hb
  · exact below_put (below_put hb _) _


/-! ### find -/
theorem find_defer (p : Addr) (w : World) :
    CallsD Tryz.prog 54 #[.pointer (some p)] .returning w fun e u' w' => e = .returned (.tuple #[]) ∧ u' = .returning ∧ w' = w := by
  refine callsD_of_wpS Tryz.func54 rfl fun c₀ cs hu => ?_
  apply wpS_seq
  apply wpS_region
  simp [wpOpsS, go_sem, recoverD, hu, Tryz.ntmps54, Exit.thenS]
  refine wpS_cond (t := false) (by simp [Act.eval, Array.replicate]) ?_
  simp only [Bool.false_eq_true, if_false]
  refine wpS_of_wp (wp_skip ?_)
  cases c₀
  simp_all [bodyPostS, results, Tryz.results54]


set_option maxHeartbeats 4000000 in
theorem find_code (f : Bool) (c a : Int) (t : Addr) (old : Value) (w : World) (hh : Handle w)
    (ht : w.cell? t = some old) (hf : w.frozen? t = false) :
    Calls Tryz.prog 41 #[baseV f c a, .iface 82 (.pointer (some t))] w fun e w' => e = .returned (.bool true) ∧ Below w.heap.size (w.setCell t (.int .i64 c)) w' := by
  have hmf : ∀ (fn : Fn) (first cap : Array Value) (w : World), (Instr.makeFunc fn first cap).run Tryz.prog w = .ok (.func fn first cap) w := fun _ _ _ _ => rfl
  have hbt : t.block < w.heap.size := World.block_lt_of_cell? w _ ht
  go_enter_defers Tryz.func41, Tryz.ntmps41
  go_wp2_with fail
  refine (As_code f c a t old _ ?_ ?_ ?_).mono ?_
  · exact hh.alloc _
  · rw [World.cell?_alloc_lt _ _ t hbt]; exact ht
  · rw [World.frozen?_alloc_old _ _ t (Nat.ne_of_lt hbt)]; exact hf
  rintro e w1 ⟨rfl, b1⟩
  have hw1 : Whole w1 w.heap.size 4 #[.bool false] := ((Whole.new w 4 #[.bool false]).far (p := t) (Ne.symm (Nat.ne_of_lt hbt)) _).below b1 (by simp)
  have hb1 : Below w.heap.size (w.setCell t (.int .i64 c)) w1 := (below_put ((Below.refl _ _).alloc (Nat.le_refl _) _) _).trans (b1.mono (by simp))
  have g0 := hw1.cell 0
  have g1 := hw1.frozen 0
  go_wp2_with fail
  refine leaves_cons (f := 54) (args := #[.pointer (some ⟨w.heap.size, 0, none⟩)]) (by simp) (by simp [go_sem]) ?_
  refine (find_defer ⟨w.heap.size, 0, none⟩ _).mono ?_
  rintro e u' w'' ⟨rfl, rfl, rfl⟩
  have g2 := (hw1.set_ 0 (.bool true)).cell 0
  simp [Leaves, settle, results, Tryz.results41, go_sem, g2]
  exact hb1.setCell (by simp) _

set_option maxHeartbeats 4000000 in
theorem find_fault (f : Bool) (c a : Int) (tb : Nat) (o0 o1 : Value) (w : World) (hh : Handle w)
    (ht : w.cell? ⟨tb, 0, none⟩ = some o0) (ht1 : w.cell? ⟨tb, 1, none⟩ = some o1) (hf : w.frozen? ⟨tb, 0, none⟩ = false) (hf1 : w.frozen? ⟨tb, 1, none⟩ = false) :
    Calls Tryz.prog 41 #[baseV f c a, .iface 85 (.pointer (some ⟨tb, 0, none⟩))] w fun e w' => e = .returned (.bool f) ∧ Below w.heap.size (putF f c a w tb) w' := by
  have hmf : ∀ (fn : Fn) (first cap : Array Value) (w : World), (Instr.makeFunc fn first cap).run Tryz.prog w = .ok (.func fn first cap) w := fun _ _ _ _ => rfl
  have hbt : tb < w.heap.size := World.block_lt_of_cell? w _ ht
  go_enter_defers Tryz.func41, Tryz.ntmps41
  go_wp2_with fail
  refine (As_fault f c a tb o0 o1 _ ?_ ?_ ?_ ?_ ?_).mono ?_
  · exact hh.alloc _
  · rw [World.cell?_alloc_lt _ _ ⟨tb, 0, none⟩ hbt]; exact ht
  · rw [World.cell?_alloc_lt _ _ ⟨tb, 1, none⟩ hbt]; exact ht1
  · rw [World.frozen?_alloc_old _ _ ⟨tb, 0, none⟩ (Nat.ne_of_lt hbt)]; exact hf
  · rw [World.frozen?_alloc_old _ _ ⟨tb, 1, none⟩ (Nat.ne_of_lt hbt)]; exact hf1
  rintro e w1 ⟨rfl, b1⟩
  have hw1 : Whole w1 w.heap.size 4 #[.bool false] := by
    refine Whole.below ?_ b1 (by simp)
    unfold putF
    split
    · exact ((Whole.new w 4 #[.bool false]).far (p := ⟨tb, 0, none⟩) (Ne.symm (Nat.ne_of_lt hbt)) _).far (p := ⟨tb, 1, none⟩) (Ne.symm (Nat.ne_of_lt hbt)) _
    · exact Whole.new w 4 #[.bool false]
  have hb1 : Below w.heap.size (putF f c a w tb) w1 := by
    refine Below.trans ?_ (b1.mono (by simp))
    unfold putF
    split
    · exact below_put (below_put ((Below.refl _ _).alloc (Nat.le_refl _) _) _) _
    · exact (Below.refl _ _).alloc (Nat.le_refl _) _
  have g0 := hw1.cell 0
  have g1 := hw1.frozen 0
  go_wp2_with fail
  refine leaves_cons (f := 54) (args := #[.pointer (some ⟨w.heap.size, 0, none⟩)]) (by simp) (by simp [go_sem]) ?_
  refine (find_defer ⟨w.heap.size, 0, none⟩ _).mono ?_
  rintro e u' w'' ⟨rfl, rfl, rfl⟩
  have g2 := (hw1.set_ 0 (.bool f)).cell 0
  simp [Leaves, settle, results, Tryz.results41, go_sem, g2]
  exact hb1.setCell (by simp) _

end Go.Proofs.YtdnilbebdgohnaaGreatDoor

