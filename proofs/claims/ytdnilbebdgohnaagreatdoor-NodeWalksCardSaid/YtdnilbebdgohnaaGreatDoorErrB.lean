/- errors.As at the errors of api (no wrapping), for whatever seat that holds them. No condition of its own. -/
import Derived.Test.YtdnilbebdgohnaaGreatDoorErrA

namespace Go.Proofs.YtdnilbebdgohnaaGreatDoor
open Go.RowKit Go.Extern.Stop Go.Stop Go.Extern

/-! ### the errors of this layer as values -/
def codeV (c : Int) : Value := .iface 59 (.int .i64 c)
def faultV (c a : Int) : Value := .iface 84 (.agg #[.int .i64 c, .int .i64 a])
def baseV (f : Bool) (c a : Int) : Value := if f then faultV c a else codeV c
noncomputable def msz (v : Value) : Nat := SizeOf.sizeOf v
theorem msz_fault (c a : Int) : msz (codeV c) < msz (faultV c a) := by
  unfold codeV faultV msz
  simp
  omega

theorem baseV_iface (f : Bool) (c a : Int) : ∃ T x, baseV f c a = .iface T x := by
  cases f <;> exact ⟨_, _, rfl⟩

/-! ### one store below, the rest new -/
theorem below_put {B : Nat} {w w' : World} {t : Addr} (h : Below B w w') (u : Value) : Below B (w.setCell t u) (w'.setCell t u) := by
  refine ⟨h.os, h.tape, h.output, by simpa [World.setCell] using h.size, fun k hk => ?_⟩
  by_cases e : t.block = k
  · subst e
    simp only [World.setCell, Array.getElem?_modify, if_pos]
    rw [h.block _ hk]
  · rw [Below.heap_setCell _ _ _ _ (Ne.symm e), Below.heap_setCell _ _ _ _ (Ne.symm e)]
    exact h.block k hk

theorem unwrap_f (c a : Int) (w : World) :
    Calls Tryz.prog 106 #[.agg #[.int .i64 c, .int .i64 a]] w fun e w' => e = .returned (codeV c) ∧ Below w.heap.size w w' := by
  go_enter Tryz.func106, Tryz.ntmps106
  go_wp2
  go_ret
  exact ⟨rfl, (Below.refl _ _).alloc (Nat.le_refl _) _⟩

abbrev valV (T : TypeId) (a : Addr) : Value := .agg #[.pointer (some ⟨1, T, none⟩), .pointer (some a), .int .u64 150]
abbrev tyV (T : TypeId) : Value := .iface 142 (.agg #[.pointer (some ⟨1, T, none⟩)])

theorem set_f (tb b : Nat) (c a : Int) (o0 o1 : Value) (W : World) (hb : W.cell? ⟨b, 0, none⟩ = some (.int .i64 c)) (hb1 : W.cell? ⟨b, 1, none⟩ = some (.int .i64 a)) (ht : W.cell? ⟨tb, 0, none⟩ = some o0) (ht1 : W.cell? ⟨tb, 1, none⟩ = some o1)
    (hf : W.frozen? ⟨tb, 0, none⟩ = false) (hf1 : W.frozen? ⟨tb, 1, none⟩ = false) :
    (ReflectliteValue.set #[.agg #[.pointer (some ⟨1, 84, none⟩), .pointer (some ⟨tb, 0, none⟩), .int .u64 409], .agg #[.pointer (some ⟨1, 84, none⟩), .pointer (some ⟨b, 0, none⟩), .int .u64 153]]).run Tryz.prog W
      = .ok (.tuple #[]) ((W.setCell ⟨tb, 0, none⟩ (.int .i64 c)).setCell ⟨tb, 1, none⟩ (.int .i64 a)) := by
  have hv : (loadVar 84 ⟨b, 0, none⟩).run Tryz.prog W = .ok (.agg #[.int .i64 c, .int .i64 a]) W := by
    simp [go_sem, hb, hb1]
  change Sem.run _ (ReflectliteValue.parts _ >>= _) _ = _
  simp only [Array.getLit, List.getElem_toArray, List.getElem_cons_zero, List.getElem_cons_succ, Sem.run_bind, parts_fa, parts_f, Result.andThen]
  simp [ReflectliteValue.flagAddr, hv, Result.andThen, direct_f, storeVar, Value.cells, storeCells, Addr.add]
  rw [run_store Tryz.prog W ⟨tb, 0, none⟩ _ _ (by rfl)]
  simp [ht, hf]
  rw [run_store Tryz.prog _ ⟨tb, 1, none⟩ _ _ (by rfl)]
  simp [ht1, hf1, World.cell?_setCell_other, World.frozen?_setCell]

def AsRel (f : Bool) (c a : Int) (w : World) (vs : Array Value) (v : Value) (wr : World) : Prop :=
  (v = codeV c ∧ f = false ∨ v = codeV c ∧ f = true ∨ v = faultV c a ∧ f = true) ∧ Below w.heap.size w wr ∧ Whole wr w.heap.size 125 vs
def AsRel' (f : Bool) (c a : Int) (w : World) (vs : Array Value) (v : Value) (wr : World) : Prop :=
  (v = codeV c ∧ f = false ∨ v = faultV c a ∧ f = true) ∧ Below w.heap.size w wr ∧ Whole wr w.heap.size 125 vs
theorem rel_start (f : Bool) (c a : Int) : baseV f c a = codeV c ∧ f = false ∨ baseV f c a = faultV c a ∧ f = true := by
  cases f <;> simp [baseV]
theorem rel_start' (f : Bool) (c a : Int) : baseV f c a = codeV c ∧ f = false ∨ baseV f c a = codeV c ∧ f = true ∨ baseV f c a = faultV c a ∧ f = true := by
  rcases rel_start f c a with h | h
  · exact .inl h
  · exact .inr (.inr h)

set_option maxRecDepth 100000 in
set_option maxHeartbeats 4000000 in
theorem as_code (f : Bool) (c a : Int) (va t : Addr) (old : Value) (w : World) (hva : w.cell? va = some (.pointer (some t))) (hvb : va.block < w.heap.size)
    (ht : w.cell? t = some old) (hf : w.frozen? t = false) (tv : Value) :
    Calls Tryz.prog 70 #[baseV f c a, tv, valV 82 va, tyV 59] w fun e w' => e = .returned (.bool true) ∧ Below w.heap.size (w.setCell t (.int .i64 c)) w' := by
  have h26 := @run_callFunc_extern Tryz.prog 67 _ (fun args => ReflectliteValue.unpack (args.getD 0 (.tuple #[]))) Tryz.func67 (by kernel_rfl) (by kernel_rfl) (by kernel_rfl) (by kernel_rfl)
  have h22 := @run_callFunc_extern Tryz.prog 78 _ ReflectliteType.typeOf Tryz.func78 (by kernel_rfl) (by kernel_rfl) (by kernel_rfl) (by kernel_rfl)
  have h69 := @run_callFunc_extern Tryz.prog 112 _ (ReflectliteType.relation "AssignableTo" ReflectliteType.assignableTo) Tryz.func112 (by kernel_rfl) (by kernel_rfl) (by kernel_rfl) (by kernel_rfl)
  have h30 := @run_callFunc_extern Tryz.prog 79 _ (ReflectliteValue.method (ReflectliteValue.valueError "reflectlite.Value.Elem" 0) ReflectliteValue.elem) Tryz.func79 (by kernel_rfl) (by kernel_rfl) (by kernel_rfl) (by kernel_rfl)
  have h31 := @run_callFunc_extern Tryz.prog 80 _ ReflectliteValue.set Tryz.func80 (by kernel_rfl) (by kernel_rfl) (by kernel_rfl) (by kernel_rfl)
  have mA := mAssignableTo
  have hbt : t.block < w.heap.size := World.block_lt_of_cell? w _ ht
  go_enter Tryz.func70, Tryz.ntmps70
  go_wp2
  go_loopw [0] (fun v wr => AsRel f c a w #[.pointer (some ⟨1, 82, none⟩), .pointer (some va), .int .u64 150] v wr) (fun v _ => msz v)
  case atStart =>
    exact ⟨rel_start' f c a, (Below.refl _ _).alloc (Nat.le_refl _) _, Whole.new _ _ _⟩
  case round =>
    obtain ⟨hv, hb, hw⟩ := hrel
    rcases hv with ⟨rfl, h0⟩ | ⟨rfl, h0⟩ | ⟨rfl, rfl⟩
    · clear h0
      simp only [codeV]
      have c1 := typeOf_c
      have c2 := assign_cc
      have c3 := valueOf_c
      have hva2 : wr.cell? va = some (.pointer (some t)) := (hb.cell hvb).trans hva
      have c4 := elemV_pc va t wr hva2
      have hbw : t.block < wr.heap.size := Nat.lt_of_lt_of_le hbt hb.size
      have c5 := set_c t ⟨wr.heap.size, 0, none⟩ c old (wr.alloc (.cells #[.int .i64 c] 59)) (by simp) (by rw [World.cell?_alloc_lt _ _ t hbw]; exact (hb.cell hbt).trans ht)
        (by rw [World.frozen?_alloc_old _ _ t (Nat.ne_of_lt hbw)]; exact (hb.frozen hbt).trans hf)
      clear hva2
      have g0 := hw.cell 0
      have g1 := hw.cell 1
      have g2 := hw.cell 2
      go_wp2_with fail
      go_ret
      exact ⟨rfl, below_put (hb.alloc hb.size _) _⟩
    · clear h0
      simp only [codeV]
      have c1 := typeOf_c
      have c2 := assign_cc
      have c3 := valueOf_c
      have hva2 : wr.cell? va = some (.pointer (some t)) := (hb.cell hvb).trans hva
      have c4 := elemV_pc va t wr hva2
      have hbw : t.block < wr.heap.size := Nat.lt_of_lt_of_le hbt hb.size
      have c5 := set_c t ⟨wr.heap.size, 0, none⟩ c old (wr.alloc (.cells #[.int .i64 c] 59)) (by simp) (by rw [World.cell?_alloc_lt _ _ t hbw]; exact (hb.cell hbt).trans ht)
        (by rw [World.frozen?_alloc_old _ _ t (Nat.ne_of_lt hbw)]; exact (hb.frozen hbt).trans hf)
      clear hva2
      have g0 := hw.cell 0
      have g1 := hw.cell 1
      have g2 := hw.cell 2
      go_wp2_with fail
      go_ret
      exact ⟨rfl, below_put (hb.alloc hb.size _) _⟩
    · simp only [faultV]
      have c1 := typeOf_f
      have c2 := assign_fc
      have c3 := noAs_f
      have c4 := hasUn_f
      have c5 := mUn_f
      go_wp2_with fail
      refine (unwrap_f c a _).mono ?_
      rintro e w1 ⟨rfl, b1⟩
      unfold codeV
      go_wp2_with fail
      go_roundw
      case rel => exact ⟨.inr (.inl ⟨rfl, rfl⟩), hb.trans (b1.mono hb.size), hw.below b1 hw.lt⟩
      case measure => exact msz_fault c a

/-- what a target of the type Fault holds behind the search -/
def putF (f : Bool) (c a : Int) (w : World) (tb : Nat) : World := if f then (w.setCell ⟨tb, 0, none⟩ (.int .i64 c)).setCell ⟨tb, 1, none⟩ (.int .i64 a) else w

set_option maxRecDepth 100000 in
set_option maxHeartbeats 4000000 in
theorem as_fault (f : Bool) (c a : Int) (va : Addr) (tb : Nat) (o0 o1 : Value) (w : World) (hva : w.cell? va = some (.pointer (some ⟨tb, 0, none⟩))) (hvb : va.block < w.heap.size)
    (ht : w.cell? ⟨tb, 0, none⟩ = some o0) (ht1 : w.cell? ⟨tb, 1, none⟩ = some o1) (hf : w.frozen? ⟨tb, 0, none⟩ = false) (hf1 : w.frozen? ⟨tb, 1, none⟩ = false) (tv : Value) :
    Calls Tryz.prog 70 #[baseV f c a, tv, valV 85 va, tyV 84] w fun e w' => e = .returned (.bool f) ∧ Below w.heap.size (putF f c a w tb) w' := by
  have h26 := @run_callFunc_extern Tryz.prog 67 _ (fun args => ReflectliteValue.unpack (args.getD 0 (.tuple #[]))) Tryz.func67 (by kernel_rfl) (by kernel_rfl) (by kernel_rfl) (by kernel_rfl)
  have h22 := @run_callFunc_extern Tryz.prog 78 _ ReflectliteType.typeOf Tryz.func78 (by kernel_rfl) (by kernel_rfl) (by kernel_rfl) (by kernel_rfl)
  have h69 := @run_callFunc_extern Tryz.prog 112 _ (ReflectliteType.relation "AssignableTo" ReflectliteType.assignableTo) Tryz.func112 (by kernel_rfl) (by kernel_rfl) (by kernel_rfl) (by kernel_rfl)
  have h30 := @run_callFunc_extern Tryz.prog 79 _ (ReflectliteValue.method (ReflectliteValue.valueError "reflectlite.Value.Elem" 0) ReflectliteValue.elem) Tryz.func79 (by kernel_rfl) (by kernel_rfl) (by kernel_rfl) (by kernel_rfl)
  have h31 := @run_callFunc_extern Tryz.prog 80 _ ReflectliteValue.set Tryz.func80 (by kernel_rfl) (by kernel_rfl) (by kernel_rfl) (by kernel_rfl)
  have mA := mAssignableTo
  have hbt : tb < w.heap.size := World.block_lt_of_cell? w _ ht
  go_enter Tryz.func70, Tryz.ntmps70
  go_wp2
  go_loopw [0] (fun v wr => AsRel' f c a w #[.pointer (some ⟨1, 85, none⟩), .pointer (some va), .int .u64 150] v wr) (fun v _ => msz v)
  case atStart =>
    exact ⟨rel_start f c a, (Below.refl _ _).alloc (Nat.le_refl _) _, Whole.new _ _ _⟩
  case round =>
    obtain ⟨hv, hb, hw⟩ := hrel
    rcases hv with ⟨rfl, rfl⟩ | ⟨rfl, rfl⟩
    · simp only [codeV]
      have c1 := typeOf_c
      have c2 := assign_cf
      have c3 := noAs_c
      have c4 := noUn_c
      have c5 := noMany_c
      go_wp2_with fail
      go_ret
      exact ⟨rfl, hb⟩
    · simp only [faultV]
      have c1 := typeOf_f
      have c2 := assign_ff
      have c3 := valueOf_f
      have hva2 : wr.cell? va = some (.pointer (some ⟨tb, 0, none⟩)) := (hb.cell hvb).trans hva
      have c4 := elemV_pf va ⟨tb, 0, none⟩ wr hva2
      have hbw : tb < wr.heap.size := Nat.lt_of_lt_of_le hbt hb.size
      have c5 := set_f tb wr.heap.size c a o0 o1 (wr.alloc (.cells #[.int .i64 c, .int .i64 a] 84)) (by simp) (by simp) (by rw [World.cell?_alloc_lt _ _ ⟨tb, 0, none⟩ hbw]; exact (hb.cell (p := ⟨tb, 0, none⟩) hbt).trans ht) (by rw [World.cell?_alloc_lt _ _ ⟨tb, 1, none⟩ hbw]; exact (hb.cell (p := ⟨tb, 1, none⟩) hbt).trans ht1)
        (by rw [World.frozen?_alloc_old _ _ ⟨tb, 0, none⟩ (Nat.ne_of_lt hbw)]; exact (hb.frozen (p := ⟨tb, 0, none⟩) hbt).trans hf) (by rw [World.frozen?_alloc_old _ _ ⟨tb, 1, none⟩ (Nat.ne_of_lt hbw)]; exact (hb.frozen (p := ⟨tb, 1, none⟩) hbt).trans hf1)
      clear hva2
      have g0 := hw.cell 0
      have g1 := hw.cell 1
      have g2 := hw.cell 2
      go_wp2_with fail
      go_ret
      exact ⟨rfl, (below_put (below_put hb _) _).alloc (by simpa [World.setCell] using hb.size) _⟩
end Go.Proofs.YtdnilbebdgohnaaGreatDoor

