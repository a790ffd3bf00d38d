/- Layer 2: closed facts on the model's entries for internal/reflectlite, on type assertions and on methods, at the types of errors of api. No condition of its own. -/
/- errors.As at the errors of api (no wrapping), for whatever seat that holds them. No condition of its own. -/
/- errors.As and find at the errors of api. No condition of its own. -/
/- Code, At, New at the errors of api. No condition of its own. -/
import Derived.Test.YteknmgmdmjmnmaaGreatDoorProg
import Derived.Test.YteknmgmdmjmnmaaGreatDoorUA
import Derived.LaidEql
import Derived.Stop.Asserts
import Derived.RowKitTokens
import Derived.Recover
import Derived.Defers
import Derived.Laws.Pointers








namespace Go.Proofs.YteknmgmdmjmnmaaGreatDoor
open Go.RowKit Go.Extern.Stop Go.Stop Go.Extern

abbrev hnd (t : TypeId) : Value := .pointer (some ⟨2, t, none⟩)
/-! ### the target's type: *api.Code -/
theorem valueOf_pc (t : Addr) (w : World) : (ReflectliteValue.unpack (.iface 231 (.pointer (some t)))).run Tryz.prog w
    = .ok (.agg #[.pointer (some ⟨2, 231, none⟩), .pointer (some ⟨w.heap.size, 0, none⟩), .int .u64 150]) (w.alloc (.cells #[.pointer (some t)] 231)) := by kernel_rfl
theorem type_pc (a : Addr) (w : World) : (ReflectliteValue.methodAny (ReflectliteValue.valueError "reflectlite.Value.Type" 0) (fun t _ _ _ => ReflectliteType.toType t) #[.agg #[.pointer (some ⟨2, 231, none⟩), .pointer (some a), .int .u64 150]]).run Tryz.prog w
    = .ok (.iface 301 (.agg #[.pointer (some ⟨2, 231, none⟩)])) w := by kernel_rfl
theorem kind_pc (w : World) : ((ReflectliteType.abiMethod fun t => (fun a : Nat => Value.int IntKind.u8 (a : Int)) <$> Rtype.kind t) #[.pointer (some ⟨2, 231, none⟩)]).run Tryz.prog w = .ok (.int .u8 22) w := by kernel_rfl
theorem kind_c (w : World) : ((ReflectliteType.abiMethod fun t => (fun a : Nat => Value.int IntKind.u8 (a : Int)) <$> Rtype.kind t) #[.pointer (some ⟨2, 190, none⟩)]).run Tryz.prog w = .ok (.int .u8 2) w := by kernel_rfl
theorem parts_pc (a : Addr) (w : World) : (ReflectliteValue.parts (.agg #[.pointer (some ⟨2, 231, none⟩), .pointer (some a), .int .u64 150])).run Tryz.prog w = .ok (some (231, a, 150)) w := by kernel_rfl
theorem isNil_pc (a p : Addr) (W : World) (ha : W.cell? a = some (.pointer (some p))) :
    (ReflectliteValue.method (ReflectliteValue.valueError "reflectlite.Value.IsNil" 0) ReflectliteValue.isNil #[.agg #[.pointer (some ⟨2, 231, none⟩), .pointer (some a), .int .u64 150]]).run Tryz.prog W = .ok (.bool false) W := by
  change Sem.run _ (ReflectliteValue.parts _ >>= _) _ = _
  simp only [Array.getLit, List.getElem_toArray, List.getElem_cons_zero, Sem.run_bind, parts_pc, Result.andThen]
  simp [ReflectliteValue.isNil, loadVar, isAgg, underlying, Tryz.underlying231, ha, Result.andThen]
theorem elem_pc (w : World) : (ReflectliteType.method ReflectliteType.elem #[.agg #[.pointer (some ⟨2, 231, none⟩)]]).run Tryz.prog w = .ok (.iface 301 (.agg #[.pointer (some ⟨2, 190, none⟩)])) w := by kernel_rfl
theorem implements_c (w : World) : (ReflectliteType.relation "Implements" ReflectliteType.implements_ #[.agg #[.pointer (some ⟨2, 190, none⟩)], .iface 301 (.agg #[.pointer (some ⟨2, 120, none⟩)])]).run Tryz.prog w = .ok (.bool true) w := by kernel_rfl
theorem elemOf_pc (w : World) : (Rtype.elem? 231).run Tryz.prog w = .ok (some 190) w := by kernel_rfl
theorem mk_c (p : Addr) (w : World) : (ReflectliteValue.mk 190 p ReflectliteValue.flagAddr).run Tryz.prog w = .ok (.agg #[.pointer (some ⟨2, 190, none⟩), .pointer (some p), .int .u64 386]) w := by kernel_rfl
theorem elemV_pc (a p : Addr) (W : World) (ha : W.cell? a = some (.pointer (some p))) :
    (ReflectliteValue.method (ReflectliteValue.valueError "reflectlite.Value.Elem" 0) ReflectliteValue.elem #[.agg #[.pointer (some ⟨2, 231, none⟩), .pointer (some a), .int .u64 150]]).run Tryz.prog W
      = .ok (.agg #[.pointer (some ⟨2, 190, none⟩), .pointer (some p), .int .u64 386]) W := by
  change Sem.run _ (ReflectliteValue.parts _ >>= _) _ = _
  simp only [Array.getLit, List.getElem_toArray, List.getElem_cons_zero, Sem.run_bind, parts_pc, Result.andThen]
  simp [ReflectliteValue.elem, loadVar, isAgg, underlying, Tryz.underlying231, ha, Result.andThen, elemOf_pc, mk_c]
theorem parts_ca (a : Addr) (w : World) : (ReflectliteValue.parts (.agg #[.pointer (some ⟨2, 190, none⟩), .pointer (some a), .int .u64 386])).run Tryz.prog w = .ok (some (190, a, 386)) w := by kernel_rfl
theorem parts_c (a : Addr) (w : World) : (ReflectliteValue.parts (.agg #[.pointer (some ⟨2, 190, none⟩), .pointer (some a), .int .u64 130])).run Tryz.prog w = .ok (some (190, a, 130)) w := by kernel_rfl
theorem direct_c (w : World) : (Rtype.directlyAssignable 190 190).run Tryz.prog w = .ok true w := by kernel_rfl
/-! ### the target's type: *api.Fault -/
theorem valueOf_c (c : Int) (w : World) : (ReflectliteValue.unpack (.iface 190 (.int .i64 c))).run Tryz.prog w
    = .ok (.agg #[.pointer (some ⟨2, 190, none⟩), .pointer (some ⟨w.heap.size, 0, none⟩), .int .u64 130]) (w.alloc (.cells #[.int .i64 c] 190)) := by kernel_rfl
theorem set_c (ta b : Addr) (c : Int) (old : Value) (W : World) (hb : W.cell? b = some (.int .i64 c)) (ht : W.cell? ta = some old) (hf : W.frozen? ta = false) :
    (ReflectliteValue.set #[.agg #[.pointer (some ⟨2, 190, none⟩), .pointer (some ta), .int .u64 386], .agg #[.pointer (some ⟨2, 190, none⟩), .pointer (some b), .int .u64 130]]).run Tryz.prog W
      = .ok (.tuple #[]) (W.setCell ta (.int .i64 c)) := by
  change Sem.run _ (ReflectliteValue.parts _ >>= _) _ = _
  simp only [Array.getLit, List.getElem_toArray, List.getElem_cons_zero, List.getElem_cons_succ, Sem.run_bind, parts_ca, parts_c, Result.andThen]
  simp [ReflectliteValue.flagAddr, loadVar, isAgg, underlying, Tryz.underlying190, hb, Result.andThen, direct_c, storeVar, Value.cells, storeCells, Addr.add]
  rw [run_store Tryz.prog W ta _ _ (by rfl)]
  simp [ht, hf]

theorem typeOf_c (v : Value) (w : World) : (ReflectliteType.typeOf #[.iface 190 v]).run Tryz.prog w = .ok (.iface 301 (.agg #[.pointer (some ⟨2, 190, none⟩)])) w := by kernel_rfl
theorem assign_cc (w : World) : (ReflectliteType.relation "AssignableTo" ReflectliteType.assignableTo #[.agg #[.pointer (some ⟨2, 190, none⟩)], .iface 301 (.agg #[.pointer (some ⟨2, 190, none⟩)])]).run Tryz.prog w = .ok (.bool true) w := by kernel_rfl
theorem typeOf_f (v : Value) (w : World) : (ReflectliteType.typeOf #[.iface 261 v]).run Tryz.prog w = .ok (.iface 301 (.agg #[.pointer (some ⟨2, 261, none⟩)])) w := by kernel_rfl
theorem assign_fc (w : World) : (ReflectliteType.relation "AssignableTo" ReflectliteType.assignableTo #[.agg #[.pointer (some ⟨2, 261, none⟩)], .iface 301 (.agg #[.pointer (some ⟨2, 190, none⟩)])]).run Tryz.prog w = .ok (.bool false) w := by kernel_rfl
theorem noAs_f (v : Value) (xT : TypeId) (w : World) : (Instr.typeAssert (.iface 261 v) xT 306 true).run Tryz.prog w = .ok (.tuple #[.nilIface, .bool false]) w :=
  run_typeAssert_lacksB Tryz.underlying306 (by kernel_rfl) (by kernel_rfl) v xT w
theorem hasUn_f (v : Value) (xT : TypeId) (w : World) : (Instr.typeAssert (.iface 261 v) xT 309 true).run Tryz.prog w = .ok (.tuple #[.iface 261 v, .bool true]) w :=
  run_typeAssert_hasB Tryz.underlying309 (by kernel_rfl) v xT w
theorem mUn_f (v : Value) (w : World) : (Go.method 442 261 v "Unwrap").run Tryz.prog w = .ok (256, v) w := by kernel_rfl
theorem mKind (h : Value) (w : World) : (Go.method 442 301 (.agg #[h]) "Kind").run Tryz.prog w = .ok (250, h) w := by kernel_rfl
theorem mElem (h : Value) (w : World) : (Go.method 442 301 (.agg #[h]) "Elem").run Tryz.prog w = .ok (263, .agg #[h]) w := by kernel_rfl
theorem mImplements (h : Value) (w : World) : (Go.method 442 301 (.agg #[h]) "Implements").run Tryz.prog w = .ok (264, .agg #[h]) w := by kernel_rfl
theorem mAssignableTo (h : Value) (w : World) : (Go.method 442 301 (.agg #[h]) "AssignableTo").run Tryz.prog w = .ok (261, .agg #[h]) w := by kernel_rfl
/-! ### the entries by the number of their function -/

end Go.Proofs.YteknmgmdmjmnmaaGreatDoor



namespace Go.Proofs.YteknmgmdmjmnmaaGreatDoor
open Go.RowKit Go.Extern.Stop Go.Stop Go.Extern

/-! ### the errors of this layer as values -/
def codeV (c : Int) : Value := .iface 190 (.int .i64 c)
def faultV (c a : Int) : Value := .iface 261 (.agg #[.int .i64 c, .int .i64 a])
def baseV (f : Bool) (c a : Int) : Value := if f then faultV c a else codeV c
noncomputable def msz (v : Value) : Nat := SizeOf.sizeOf v
theorem msz_fault (c a : Int) : msz (codeV c) < msz (faultV c a) := by
  unfold codeV faultV msz
  simp
  omega

theorem baseV_iface (f : Bool) (c a : Int) : ∃ T x, baseV f c a = .iface T x := by
  cases f <;> exact ⟨_, _, rfl⟩

/-! ### one store below, the rest new -/
theorem below_put {B : Nat} {w w' : World} {t : Addr} (h : Below B w w') (u : Value) : Below B (w.setCell t u) (w'.setCell t u) := by
  refine ⟨h.os, h.tape, h.output, by simpa [World.setCell] using h.size, fun k hk => ?_⟩
  by_cases e : t.block = k
  · subst e
    simp only [World.setCell, Array.getElem?_modify, if_pos]
    rw [h.block _ hk]
  · rw [Below.heap_setCell _ _ _ _ (Ne.symm e), Below.heap_setCell _ _ _ _ (Ne.symm e)]
    exact h.block k hk

theorem unwrap_f (c a : Int) (w : World) :
    Calls Tryz.prog 256 #[.agg #[.int .i64 c, .int .i64 a]] w fun e w' => e = .returned (codeV c) ∧ Below w.heap.size w w' := by
  go_enter Tryz.func256, Tryz.ntmps256
  go_wp2
  go_ret
  exact ⟨rfl, (Below.refl _ _).alloc (Nat.le_refl _) _⟩

abbrev valV (T : TypeId) (a : Addr) : Value := .agg #[.pointer (some ⟨2, T, none⟩), .pointer (some a), .int .u64 150]
abbrev tyV (T : TypeId) : Value := .iface 301 (.agg #[.pointer (some ⟨2, T, none⟩)])

def AsRel (f : Bool) (c a : Int) (w : World) (vs : Array Value) (v : Value) (wr : World) : Prop :=
  (v = codeV c ∧ f = false ∨ v = codeV c ∧ f = true ∨ v = faultV c a ∧ f = true) ∧ Below w.heap.size w wr ∧ Whole wr w.heap.size 284 vs
theorem rel_start (f : Bool) (c a : Int) : baseV f c a = codeV c ∧ f = false ∨ baseV f c a = faultV c a ∧ f = true := by
  cases f <;> simp [baseV]
theorem rel_start' (f : Bool) (c a : Int) : baseV f c a = codeV c ∧ f = false ∨ baseV f c a = codeV c ∧ f = true ∨ baseV f c a = faultV c a ∧ f = true := by
  rcases rel_start f c a with h | h
  · exact .inl h
  · exact .inr (.inr h)

set_option maxRecDepth 100000 in
set_option maxHeartbeats 4000000 in
theorem as_code (f : Bool) (c a : Int) (va t : Addr) (old : Value) (w : World) (hva : w.cell? va = some (.pointer (some t))) (hvb : va.block < w.heap.size)
    (ht : w.cell? t = some old) (hf : w.frozen? t = false) (tv : Value) :
    Calls Tryz.prog 222 #[baseV f c a, tv, valV 231 va, tyV 190] w fun e w' => e = .returned (.bool true) ∧ Below w.heap.size (w.setCell t (.int .i64 c)) w' := by
  have h26 := @run_callFunc_extern Tryz.prog 219 _ (fun args => ReflectliteValue.unpack (args.getD 0 (.tuple #[]))) Tryz.func219 (by kernel_rfl) (by kernel_rfl) (by kernel_rfl) (by kernel_rfl)
  have h22 := @run_callFunc_extern Tryz.prog 231 _ ReflectliteType.typeOf Tryz.func231 (by kernel_rfl) (by kernel_rfl) (by kernel_rfl) (by kernel_rfl)
  have h69 := @run_callFunc_extern Tryz.prog 261 _ (ReflectliteType.relation "AssignableTo" ReflectliteType.assignableTo) Tryz.func261 (by kernel_rfl) (by kernel_rfl) (by kernel_rfl) (by kernel_rfl)
  have h30 := @run_callFunc_extern Tryz.prog 232 _ (ReflectliteValue.method (ReflectliteValue.valueError "reflectlite.Value.Elem" 0) ReflectliteValue.elem) Tryz.func232 (by kernel_rfl) (by kernel_rfl) (by kernel_rfl) (by kernel_rfl)
  have h31 := @run_callFunc_extern Tryz.prog 233 _ ReflectliteValue.set Tryz.func233 (by kernel_rfl) (by kernel_rfl) (by kernel_rfl) (by kernel_rfl)
  have mA := mAssignableTo
  have hbt : t.block < w.heap.size := World.block_lt_of_cell? w _ ht
  go_enter Tryz.func222, Tryz.ntmps222
  go_wp2
  go_loopw [0] (fun v wr => AsRel f c a w #[.pointer (some ⟨2, 231, none⟩), .pointer (some va), .int .u64 150] v wr) (fun v _ => msz v)
  case atStart =>
    exact ⟨rel_start' f c a, (Below.refl _ _).alloc (Nat.le_refl _) _, Whole.new _ _ _⟩
  case round =>
    obtain ⟨hv, hb, hw⟩ := hrel
    rcases hv with ⟨rfl, h0⟩ | ⟨rfl, h0⟩ | ⟨rfl, rfl⟩
    · clear h0
      simp only [codeV]
      have c1 := typeOf_c
      have c2 := assign_cc
      have c3 := valueOf_c
      have hva2 : wr.cell? va = some (.pointer (some t)) := (hb.cell hvb).trans hva
      have c4 := elemV_pc va t wr hva2
      have hbw : t.block < wr.heap.size := Nat.lt_of_lt_of_le hbt hb.size
      have c5 := set_c t ⟨wr.heap.size, 0, none⟩ c old (wr.alloc (.cells #[.int .i64 c] 190)) (by simp) (by rw [World.cell?_alloc_lt _ _ t hbw]; exact (hb.cell hbt).trans ht)
        (by rw [World.frozen?_alloc_old _ _ t (Nat.ne_of_lt hbw)]; exact (hb.frozen hbt).trans hf)
      clear hva2
      have g0 := hw.cell 0
      have g1 := hw.cell 1
      have g2 := hw.cell 2
      go_wp2_with fail
      go_ret
      exact ⟨rfl, below_put (hb.alloc hb.size _) _⟩
    · clear h0
      simp only [codeV]
      have c1 := typeOf_c
      have c2 := assign_cc
      have c3 := valueOf_c
      have hva2 : wr.cell? va = some (.pointer (some t)) := (hb.cell hvb).trans hva
      have c4 := elemV_pc va t wr hva2
      have hbw : t.block < wr.heap.size := Nat.lt_of_lt_of_le hbt hb.size
      have c5 := set_c t ⟨wr.heap.size, 0, none⟩ c old (wr.alloc (.cells #[.int .i64 c] 190)) (by simp) (by rw [World.cell?_alloc_lt _ _ t hbw]; exact (hb.cell hbt).trans ht)
        (by rw [World.frozen?_alloc_old _ _ t (Nat.ne_of_lt hbw)]; exact (hb.frozen hbt).trans hf)
      clear hva2
      have g0 := hw.cell 0
      have g1 := hw.cell 1
      have g2 := hw.cell 2
      go_wp2_with fail
      go_ret
      exact ⟨rfl, below_put (hb.alloc hb.size _) _⟩
    · simp only [faultV]
      have c1 := typeOf_f
      have c2 := assign_fc
      have c3 := noAs_f
      have c4 := hasUn_f
      have c5 := mUn_f
      go_wp2_with fail
      refine (unwrap_f c a _).mono ?_
      rintro e w1 ⟨rfl, b1⟩
      unfold codeV
      go_wp2_with fail
      go_roundw
      case rel => exact ⟨.inr (.inl ⟨rfl, rfl⟩), hb.trans (b1.mono hb.size), hw.below b1 hw.lt⟩
      case measure => exact msz_fault c a

end Go.Proofs.YteknmgmdmjmnmaaGreatDoor



namespace Go.Proofs.YteknmgmdmjmnmaaGreatDoor
open Go.RowKit Go.Extern.Stop Go.Stop Go.Extern

def Handle (w : World) : Prop := w.cell? ⟨1, 0, none⟩ = some (.iface 301 (.agg #[.pointer (some ⟨2, 120, none⟩)]))
theorem Handle.lt {w : World} (h : Handle w) : 1 < w.heap.size := World.block_lt_of_cell? w _ h
theorem Handle.below {B : Nat} {w w' : World} (h : Handle w) (hb : Below B w w') (hB : 1 < B) : Handle w' := (hb.cell (p := ⟨1, 0, none⟩) hB).trans h
theorem Handle.alloc {w : World} (h : Handle w) (o : Obj) : Handle (w.alloc o) := (World.cell?_alloc_lt w o ⟨1, 0, none⟩ h.lt).trans h

theorem as_nil (t : Value) (w : World) :
    Calls Tryz.prog 198 #[.nilIface, t] w fun e w' => e = .returned (.bool false) ∧ w = w' := by
  go_enter Tryz.func198, Tryz.ntmps198
  go_wp2
  go_ret
  exact ⟨rfl, rfl⟩

set_option maxHeartbeats 4000000 in
theorem As_code (f : Bool) (c a : Int) (t : Addr) (old : Value) (w : World) (hh : Handle w)
    (ht : w.cell? t = some old) (hf : w.frozen? t = false) :
    Calls Tryz.prog 198 #[baseV f c a, .iface 231 (.pointer (some t))] w fun e w' => e = .returned (.bool true) ∧ Below w.heap.size (w.setCell t (.int .i64 c)) w' := by
  have h26 := @run_callFunc_extern Tryz.prog 219 _ (fun args => ReflectliteValue.unpack (args.getD 0 (.tuple #[]))) Tryz.func219 (by kernel_rfl) (by kernel_rfl) (by kernel_rfl) (by kernel_rfl)
  have h27 := @run_callFunc_extern Tryz.prog 220 _ (ReflectliteValue.methodAny (ReflectliteValue.valueError "reflectlite.Value.Type" 0) (fun t _ _ _ => ReflectliteType.toType t)) Tryz.func220 (by kernel_rfl) (by kernel_rfl) (by kernel_rfl) (by kernel_rfl)
  have h28 := @run_callFunc_extern Tryz.prog 221 _ (ReflectliteValue.method (ReflectliteValue.valueError "reflectlite.Value.IsNil" 0) ReflectliteValue.isNil) Tryz.func221 (by kernel_rfl) (by kernel_rfl) (by kernel_rfl) (by kernel_rfl)
  have h46 := @run_callFunc_extern Tryz.prog 250 _ (ReflectliteType.abiMethod fun t => do pure (.int .u8 (← Rtype.kind t))) Tryz.func250 (by kernel_rfl) (by kernel_rfl) (by kernel_rfl) (by kernel_rfl)
  have h71 := @run_callFunc_extern Tryz.prog 263 _ (ReflectliteType.method ReflectliteType.elem) Tryz.func263 (by kernel_rfl) (by kernel_rfl) (by kernel_rfl) (by kernel_rfl)
  have h72 := @run_callFunc_extern Tryz.prog 264 _ (ReflectliteType.relation "Implements" ReflectliteType.implements_) Tryz.func264 (by kernel_rfl) (by kernel_rfl) (by kernel_rfl) (by kernel_rfl)
  have f1 := valueOf_pc
  have f2 := type_pc
  have f3 := mKind
  have f4 := kind_pc
  have f5 := kind_c
  have f6 := mElem
  have f7 := elem_pc
  have f8 := mImplements
  have f9 := implements_c
  have hbt : t.block < w.heap.size := World.block_lt_of_cell? w _ ht
  have hb : Below w.heap.size w ((w.alloc (.cells #[.pointer (some t)] 231)).alloc (.cells #[.pointer (some ⟨2, 231, none⟩), .pointer (some ⟨w.heap.size, 0, none⟩), .int .u64 150] 284)) := ((Below.refl _ _).alloc (Nat.le_refl _) _).alloc (by simp) _
  have f10 := isNil_pc ⟨w.heap.size, 0, none⟩ t ((w.alloc (.cells #[.pointer (some t)] 231)).alloc (.cells #[.pointer (some ⟨2, 231, none⟩), .pointer (some ⟨w.heap.size, 0, none⟩), .int .u64 150] 284)) (by simp)
  have f11 : ((w.alloc (.cells #[.pointer (some t)] 231)).alloc (.cells #[.pointer (some ⟨2, 231, none⟩), .pointer (some ⟨w.heap.size, 0, none⟩), .int .u64 150] 284)).cell? ⟨1, 0, none⟩ = some (.iface 301 (.agg #[.pointer (some ⟨2, 120, none⟩)])) := (hh.alloc _).alloc _
  obtain ⟨T, x, hx⟩ := baseV_iface f c a
  have X := Lib.hid hx
  rw [hx]
  clear hx
  go_enter Tryz.func198, Tryz.ntmps198
  go_wp2_with fail
  rw [← X.out]
  refine (as_code f c a ⟨w.heap.size, 0, none⟩ t old _ ?_ ?_ ?_ ?_ _).mono ?_
  · simp
  · simp; omega
  · rw [World.cell?_alloc_lt _ _ t (by simp; omega), World.cell?_alloc_lt _ _ t hbt]; exact ht
  · rw [World.frozen?_alloc_old _ _ t (by simp; omega), World.frozen?_alloc_old _ _ t (Nat.ne_of_lt hbt)]; exact hf
  rintro e w1 ⟨rfl, b1⟩
  go_wp2_with fail
  go_ret
  refine ⟨rfl, ?_⟩
  exact (below_put hb _).trans (b1.mono (by simp; omega))

/-! ### find -/
theorem find_defer (p : Addr) (w : World) :
    CallsD Tryz.prog 197 #[.pointer (some p)] .returning w fun e u' w' => e = .returned (.tuple #[]) ∧ u' = .returning ∧ w' = w := by
  refine callsD_of_wpS Tryz.func197 rfl fun c₀ cs hu => ?_
  apply wpS_seq
  apply wpS_region
  simp [wpOpsS, go_sem, recoverD, hu, Tryz.ntmps197, Exit.thenS]
  refine wpS_cond (t := false) (by simp [Act.eval, Array.replicate]) ?_
  simp only [Bool.false_eq_true, if_false]
  refine wpS_of_wp (wp_skip ?_)
  cases c₀
  simp_all [bodyPostS, results, Tryz.results197]


set_option maxHeartbeats 4000000 in
theorem find_code (f : Bool) (c a : Int) (t : Addr) (old : Value) (w : World) (hh : Handle w)
    (ht : w.cell? t = some old) (hf : w.frozen? t = false) :
    Calls Tryz.prog 169 #[baseV f c a, .iface 231 (.pointer (some t))] w fun e w' => e = .returned (.bool true) ∧ Below w.heap.size (w.setCell t (.int .i64 c)) w' := by
  have hmf : ∀ (fn : Fn) (first cap : Array Value) (w : World), (Instr.makeFunc fn first cap).run Tryz.prog w = .ok (.func fn first cap) w := fun _ _ _ _ => rfl
  have hbt : t.block < w.heap.size := World.block_lt_of_cell? w _ ht
  go_enter_defers Tryz.func169, Tryz.ntmps169
  go_wp2_with fail
  refine (As_code f c a t old _ ?_ ?_ ?_).mono ?_
  · exact hh.alloc _
  · rw [World.cell?_alloc_lt _ _ t hbt]; exact ht
  · rw [World.frozen?_alloc_old _ _ t (Nat.ne_of_lt hbt)]; exact hf
  rintro e w1 ⟨rfl, b1⟩
  have hw1 : Whole w1 w.heap.size 4 #[.bool false] := ((Whole.new w 4 #[.bool false]).far (p := t) (Ne.symm (Nat.ne_of_lt hbt)) _).below b1 (by simp)
  have hb1 : Below w.heap.size (w.setCell t (.int .i64 c)) w1 := (below_put ((Below.refl _ _).alloc (Nat.le_refl _) _) _).trans (b1.mono (by simp))
  have g0 := hw1.cell 0
  have g1 := hw1.frozen 0
  go_wp2_with fail
  refine leaves_cons (f := 197) (args := #[.pointer (some ⟨w.heap.size, 0, none⟩)]) (by simp) (by simp [go_sem]) ?_
  refine (find_defer ⟨w.heap.size, 0, none⟩ _).mono ?_
  rintro e u' w'' ⟨rfl, rfl, rfl⟩
  have g2 := (hw1.set_ 0 (.bool true)).cell 0
  simp [Leaves, settle, results, Tryz.results169, go_sem, g2]
  exact hb1.setCell (by simp) _

end Go.Proofs.YteknmgmdmjmnmaaGreatDoor



namespace Go.Proofs.YteknmgmdmjmnmaaGreatDoor
open Go.RowKit Go.Extern.Stop Go.Stop Go.Extern

theorem find_nil (T : Nat) (t : Value) (w : World) :
    Calls Tryz.prog 169 #[.nilIface, .iface T t] w fun e w' => e = .returned (.bool false) ∧ Below w.heap.size w w' := by
  have hmf : ∀ (fn : Fn) (first cap : Array Value) (w : World), (Instr.makeFunc fn first cap).run Tryz.prog w = .ok (.func fn first cap) w := fun _ _ _ _ => rfl
  go_enter_defers Tryz.func169, Tryz.ntmps169
  go_wp2_with fail
  refine (as_nil _ _).mono ?_
  rintro e w1 ⟨rfl, rfl⟩
  go_wp2_with fail
  refine leaves_cons (f := 197) (args := #[.pointer (some ⟨w.heap.size, 0, none⟩)]) (by simp) (by simp [go_sem]) ?_
  refine (find_defer ⟨w.heap.size, 0, none⟩ _).mono ?_
  rintro e u' w'' ⟨rfl, rfl, rfl⟩
  simp [Leaves, settle, results, Tryz.results169, go_sem]
  exact (Below.refl _ _).alloc (Nat.le_refl _) _

/-! ### Code and At -/
theorem Code_nil (w : World) :
    Calls Tryz.prog 132 #[.nilIface] w fun e w' => e = .returned (.tuple #[.int .i64 0, .bool false]) ∧ Below w.heap.size w w' := by
  go_enter Tryz.func132, Tryz.ntmps132
  go_wp2_with fail
  refine (find_nil _ _ _).mono ?_
  rintro e w1 ⟨rfl, b1⟩
  go_wp2_with fail
  go_ret2
  exact ⟨rfl, ((Below.refl _ _).alloc (Nat.le_refl _) _).trans (b1.mono (by simp))⟩
theorem Code_any (f : Bool) (c a : Int) (w : World) (hh : Handle w) :
    Calls Tryz.prog 132 #[baseV f c a] w fun e w' => e = .returned (.tuple #[.int .i64 c, .bool true]) ∧ Below w.heap.size w w' := by
  go_enter Tryz.func132, Tryz.ntmps132
  go_wp2_with fail
  refine (find_code f c a ⟨w.heap.size, 0, none⟩ (.int .i64 0) _ (hh.alloc _) (by simp) (by simp)).mono ?_
  rintro e w1 ⟨rfl, b1⟩
  have hw1 : Whole w1 w.heap.size 190 #[.int .i64 c] := ((Whole.new w 190 #[.int .i64 0]).set_ 0 (.int .i64 c)).below b1 (by simp)
  have g0 := hw1.cell 0
  go_wp2_with fail
  go_ret2
  exact ⟨rfl, (((Below.refl _ _).alloc (Nat.le_refl _) _).setCell (by simp) _).trans (b1.mono (by simp))⟩
/-! ### New, In, Shift -/
theorem New_any (c a : Int) (w : World) :
    Calls Tryz.prog 161 #[.int .i64 c, .int .i64 a] w fun e w' => e = .returned (faultV c a) ∧ w = w' := by
  go_enter Tryz.func161, Tryz.ntmps161
  go_wp2
  go_ret
  exact ⟨rfl, rfl⟩
end Go.Proofs.YteknmgmdmjmnmaaGreatDoor


