/- Layer 2: closed facts on the model's entries for internal/reflectlite, on type assertions and on methods, at the types of errors of api. No condition of its own. -/
/- errors.As at the errors of api (no wrapping), for whatever seat that holds them. No condition of its own. -/
/- errors.As and find at the errors of api. No condition of its own. -/
/- Code, At, New at the errors of api. No condition of its own. -/
/- Shift at the errors of api. No condition of its own. -/
import Derived.Test.YthkbcpbgoefanaaGreatDoorProg
import Derived.Test.YthkbcpbgoefanaaGreatDoorQA
import Derived.LaidEql
import Derived.Stop.Asserts
import Derived.RowKitTokens
import Derived.Recover
import Derived.Defers
import Derived.Laws.Pointers








namespace Go.Proofs.YthkbcpbgoefanaaGreatDoor
open Go.RowKit Go.Extern.Stop Go.Stop Go.Extern

/-! ### the target's type: *api.Code -/
theorem valueOf_pc (t : Addr) (w : World) : (ReflectliteValue.unpack (.iface 157 (.pointer (some t)))).run Tryz.prog w
    = .ok (.agg #[.pointer (some ⟨1, 157, none⟩), .pointer (some ⟨w.heap.size, 0, none⟩), .int .u64 150]) (w.alloc (.cells #[.pointer (some t)] 157)) := by kernel_rfl
theorem type_pc (a : Addr) (w : World) : (ReflectliteValue.methodAny (ReflectliteValue.valueError "reflectlite.Value.Type" 0) (fun t _ _ _ => ReflectliteType.toType t) #[.agg #[.pointer (some ⟨1, 157, none⟩), .pointer (some a), .int .u64 150]]).run Tryz.prog w
    = .ok (.iface 237 (.agg #[.pointer (some ⟨1, 157, none⟩)])) w := by kernel_rfl
theorem kind_pc (w : World) : ((ReflectliteType.abiMethod fun t => (fun a : Nat => Value.int IntKind.u8 (a : Int)) <$> Rtype.kind t) #[.pointer (some ⟨1, 157, none⟩)]).run Tryz.prog w = .ok (.int .u8 22) w := by kernel_rfl
theorem kind_c (w : World) : ((ReflectliteType.abiMethod fun t => (fun a : Nat => Value.int IntKind.u8 (a : Int)) <$> Rtype.kind t) #[.pointer (some ⟨1, 97, none⟩)]).run Tryz.prog w = .ok (.int .u8 2) w := by kernel_rfl
theorem parts_pc (a : Addr) (w : World) : (ReflectliteValue.parts (.agg #[.pointer (some ⟨1, 157, none⟩), .pointer (some a), .int .u64 150])).run Tryz.prog w = .ok (some (157, a, 150)) w := by kernel_rfl
theorem isNil_pc (a p : Addr) (W : World) (ha : W.cell? a = some (.pointer (some p))) :
    (ReflectliteValue.method (ReflectliteValue.valueError "reflectlite.Value.IsNil" 0) ReflectliteValue.isNil #[.agg #[.pointer (some ⟨1, 157, none⟩), .pointer (some a), .int .u64 150]]).run Tryz.prog W = .ok (.bool false) W := by
  change Sem.run _ (ReflectliteValue.parts _ >>= _) _ = _
  simp only [Array.getLit, List.getElem_toArray, List.getElem_cons_zero, Sem.run_bind, parts_pc, Result.andThen]
  simp [ReflectliteValue.isNil, loadVar, isAgg, underlying, Tryz.underlying157, ha, Result.andThen]
theorem elem_pc (w : World) : (ReflectliteType.method ReflectliteType.elem #[.agg #[.pointer (some ⟨1, 157, none⟩)]]).run Tryz.prog w = .ok (.iface 237 (.agg #[.pointer (some ⟨1, 97, none⟩)])) w := by kernel_rfl
theorem implements_c (w : World) : (ReflectliteType.relation "Implements" ReflectliteType.implements_ #[.agg #[.pointer (some ⟨1, 97, none⟩)], .iface 237 (.agg #[.pointer (some ⟨1, 30, none⟩)])]).run Tryz.prog w = .ok (.bool true) w := by kernel_rfl
theorem elemOf_pc (w : World) : (Rtype.elem? 157).run Tryz.prog w = .ok (some 97) w := by kernel_rfl
theorem mk_c (p : Addr) (w : World) : (ReflectliteValue.mk 97 p ReflectliteValue.flagAddr).run Tryz.prog w = .ok (.agg #[.pointer (some ⟨1, 97, none⟩), .pointer (some p), .int .u64 386]) w := by kernel_rfl
theorem elemV_pc (a p : Addr) (W : World) (ha : W.cell? a = some (.pointer (some p))) :
    (ReflectliteValue.method (ReflectliteValue.valueError "reflectlite.Value.Elem" 0) ReflectliteValue.elem #[.agg #[.pointer (some ⟨1, 157, none⟩), .pointer (some a), .int .u64 150]]).run Tryz.prog W
      = .ok (.agg #[.pointer (some ⟨1, 97, none⟩), .pointer (some p), .int .u64 386]) W := by
  change Sem.run _ (ReflectliteValue.parts _ >>= _) _ = _
  simp only [Array.getLit, List.getElem_toArray, List.getElem_cons_zero, Sem.run_bind, parts_pc, Result.andThen]
  simp [ReflectliteValue.elem, loadVar, isAgg, underlying, Tryz.underlying157, ha, Result.andThen, elemOf_pc, mk_c]
theorem parts_ca (a : Addr) (w : World) : (ReflectliteValue.parts (.agg #[.pointer (some ⟨1, 97, none⟩), .pointer (some a), .int .u64 386])).run Tryz.prog w = .ok (some (97, a, 386)) w := by kernel_rfl
theorem parts_c (a : Addr) (w : World) : (ReflectliteValue.parts (.agg #[.pointer (some ⟨1, 97, none⟩), .pointer (some a), .int .u64 130])).run Tryz.prog w = .ok (some (97, a, 130)) w := by kernel_rfl
theorem direct_c (w : World) : (Rtype.directlyAssignable 97 97).run Tryz.prog w = .ok true w := by kernel_rfl
/-! ### the target's type: *api.Fault -/
theorem valueOf_pf (t : Addr) (w : World) : (ReflectliteValue.unpack (.iface 174 (.pointer (some t)))).run Tryz.prog w
    = .ok (.agg #[.pointer (some ⟨1, 174, none⟩), .pointer (some ⟨w.heap.size, 0, none⟩), .int .u64 150]) (w.alloc (.cells #[.pointer (some t)] 174)) := by kernel_rfl
theorem type_pf (a : Addr) (w : World) : (ReflectliteValue.methodAny (ReflectliteValue.valueError "reflectlite.Value.Type" 0) (fun t _ _ _ => ReflectliteType.toType t) #[.agg #[.pointer (some ⟨1, 174, none⟩), .pointer (some a), .int .u64 150]]).run Tryz.prog w
    = .ok (.iface 237 (.agg #[.pointer (some ⟨1, 174, none⟩)])) w := by kernel_rfl
theorem kind_pf (w : World) : ((ReflectliteType.abiMethod fun t => (fun a : Nat => Value.int IntKind.u8 (a : Int)) <$> Rtype.kind t) #[.pointer (some ⟨1, 174, none⟩)]).run Tryz.prog w = .ok (.int .u8 22) w := by kernel_rfl
theorem kind_f (w : World) : ((ReflectliteType.abiMethod fun t => (fun a : Nat => Value.int IntKind.u8 (a : Int)) <$> Rtype.kind t) #[.pointer (some ⟨1, 161, none⟩)]).run Tryz.prog w = .ok (.int .u8 25) w := by kernel_rfl
theorem parts_pf (a : Addr) (w : World) : (ReflectliteValue.parts (.agg #[.pointer (some ⟨1, 174, none⟩), .pointer (some a), .int .u64 150])).run Tryz.prog w = .ok (some (174, a, 150)) w := by kernel_rfl
theorem isNil_pf (a p : Addr) (W : World) (ha : W.cell? a = some (.pointer (some p))) :
    (ReflectliteValue.method (ReflectliteValue.valueError "reflectlite.Value.IsNil" 0) ReflectliteValue.isNil #[.agg #[.pointer (some ⟨1, 174, none⟩), .pointer (some a), .int .u64 150]]).run Tryz.prog W = .ok (.bool false) W := by
  change Sem.run _ (ReflectliteValue.parts _ >>= _) _ = _
  simp only [Array.getLit, List.getElem_toArray, List.getElem_cons_zero, Sem.run_bind, parts_pf, Result.andThen]
  simp [ReflectliteValue.isNil, loadVar, isAgg, underlying, Tryz.underlying174, ha, Result.andThen]
theorem elem_pf (w : World) : (ReflectliteType.method ReflectliteType.elem #[.agg #[.pointer (some ⟨1, 174, none⟩)]]).run Tryz.prog w = .ok (.iface 237 (.agg #[.pointer (some ⟨1, 161, none⟩)])) w := by kernel_rfl
theorem implements_f (w : World) : (ReflectliteType.relation "Implements" ReflectliteType.implements_ #[.agg #[.pointer (some ⟨1, 161, none⟩)], .iface 237 (.agg #[.pointer (some ⟨1, 30, none⟩)])]).run Tryz.prog w = .ok (.bool true) w := by kernel_rfl
theorem elemOf_pf (w : World) : (Rtype.elem? 174).run Tryz.prog w = .ok (some 161) w := by kernel_rfl
theorem mk_f (p : Addr) (w : World) : (ReflectliteValue.mk 161 p ReflectliteValue.flagAddr).run Tryz.prog w = .ok (.agg #[.pointer (some ⟨1, 161, none⟩), .pointer (some p), .int .u64 409]) w := by kernel_rfl
theorem elemV_pf (a p : Addr) (W : World) (ha : W.cell? a = some (.pointer (some p))) :
    (ReflectliteValue.method (ReflectliteValue.valueError "reflectlite.Value.Elem" 0) ReflectliteValue.elem #[.agg #[.pointer (some ⟨1, 174, none⟩), .pointer (some a), .int .u64 150]]).run Tryz.prog W
      = .ok (.agg #[.pointer (some ⟨1, 161, none⟩), .pointer (some p), .int .u64 409]) W := by
  change Sem.run _ (ReflectliteValue.parts _ >>= _) _ = _
  simp only [Array.getLit, List.getElem_toArray, List.getElem_cons_zero, Sem.run_bind, parts_pf, Result.andThen]
  simp [ReflectliteValue.elem, loadVar, isAgg, underlying, Tryz.underlying174, ha, Result.andThen, elemOf_pf, mk_f]
theorem parts_fa (a : Addr) (w : World) : (ReflectliteValue.parts (.agg #[.pointer (some ⟨1, 161, none⟩), .pointer (some a), .int .u64 409])).run Tryz.prog w = .ok (some (161, a, 409)) w := by kernel_rfl
theorem parts_f (a : Addr) (w : World) : (ReflectliteValue.parts (.agg #[.pointer (some ⟨1, 161, none⟩), .pointer (some a), .int .u64 153])).run Tryz.prog w = .ok (some (161, a, 153)) w := by kernel_rfl
theorem direct_f (w : World) : (Rtype.directlyAssignable 161 161).run Tryz.prog w = .ok true w := by kernel_rfl
theorem valueOf_c (c : Int) (w : World) : (ReflectliteValue.unpack (.iface 97 (.int .i64 c))).run Tryz.prog w
    = .ok (.agg #[.pointer (some ⟨1, 97, none⟩), .pointer (some ⟨w.heap.size, 0, none⟩), .int .u64 130]) (w.alloc (.cells #[.int .i64 c] 97)) := by kernel_rfl
theorem valueOf_f (c a : Int) (w : World) : (ReflectliteValue.unpack (.iface 161 (.agg #[.int .i64 c, .int .i64 a]))).run Tryz.prog w
    = .ok (.agg #[.pointer (some ⟨1, 161, none⟩), .pointer (some ⟨w.heap.size, 0, none⟩), .int .u64 153]) (w.alloc (.cells #[.int .i64 c, .int .i64 a] 161)) := by kernel_rfl
theorem set_c (ta b : Addr) (c : Int) (old : Value) (W : World) (hb : W.cell? b = some (.int .i64 c)) (ht : W.cell? ta = some old) (hf : W.frozen? ta = false) :
    (ReflectliteValue.set #[.agg #[.pointer (some ⟨1, 97, none⟩), .pointer (some ta), .int .u64 386], .agg #[.pointer (some ⟨1, 97, none⟩), .pointer (some b), .int .u64 130]]).run Tryz.prog W
      = .ok (.tuple #[]) (W.setCell ta (.int .i64 c)) := by
  change Sem.run _ (ReflectliteValue.parts _ >>= _) _ = _
  simp only [Array.getLit, List.getElem_toArray, List.getElem_cons_zero, List.getElem_cons_succ, Sem.run_bind, parts_ca, parts_c, Result.andThen]
  simp [ReflectliteValue.flagAddr, loadVar, isAgg, underlying, Tryz.underlying97, hb, Result.andThen, direct_c, storeVar, Value.cells, storeCells, Addr.add]
  rw [run_store Tryz.prog W ta _ _ (by rfl)]
  simp [ht, hf]

theorem typeOf_c (v : Value) (w : World) : (ReflectliteType.typeOf #[.iface 97 v]).run Tryz.prog w = .ok (.iface 237 (.agg #[.pointer (some ⟨1, 97, none⟩)])) w := by kernel_rfl
theorem assign_cc (w : World) : (ReflectliteType.relation "AssignableTo" ReflectliteType.assignableTo #[.agg #[.pointer (some ⟨1, 97, none⟩)], .iface 237 (.agg #[.pointer (some ⟨1, 97, none⟩)])]).run Tryz.prog w = .ok (.bool true) w := by kernel_rfl
theorem assign_cf (w : World) : (ReflectliteType.relation "AssignableTo" ReflectliteType.assignableTo #[.agg #[.pointer (some ⟨1, 97, none⟩)], .iface 237 (.agg #[.pointer (some ⟨1, 161, none⟩)])]).run Tryz.prog w = .ok (.bool false) w := by kernel_rfl
theorem noAs_c (v : Value) (xT : TypeId) (w : World) : (Instr.typeAssert (.iface 97 v) xT 242 true).run Tryz.prog w = .ok (.tuple #[.nilIface, .bool false]) w :=
  run_typeAssert_lacksB Tryz.underlying242 (by kernel_rfl) (by kernel_rfl) v xT w
theorem noMany_c (v : Value) (xT : TypeId) (w : World) : (Instr.typeAssert (.iface 97 v) xT 247 true).run Tryz.prog w = .ok (.tuple #[.nilIface, .bool false]) w :=
  run_typeAssert_lacksB Tryz.underlying247 (by kernel_rfl) (by kernel_rfl) v xT w
theorem noUn_c (v : Value) (xT : TypeId) (w : World) : (Instr.typeAssert (.iface 97 v) xT 245 true).run Tryz.prog w = .ok (.tuple #[.nilIface, .bool false]) w :=
  run_typeAssert_lacksB Tryz.underlying245 (by kernel_rfl) (by kernel_rfl) v xT w
theorem typeOf_f (v : Value) (w : World) : (ReflectliteType.typeOf #[.iface 161 v]).run Tryz.prog w = .ok (.iface 237 (.agg #[.pointer (some ⟨1, 161, none⟩)])) w := by kernel_rfl
theorem assign_fc (w : World) : (ReflectliteType.relation "AssignableTo" ReflectliteType.assignableTo #[.agg #[.pointer (some ⟨1, 161, none⟩)], .iface 237 (.agg #[.pointer (some ⟨1, 97, none⟩)])]).run Tryz.prog w = .ok (.bool false) w := by kernel_rfl
theorem assign_ff (w : World) : (ReflectliteType.relation "AssignableTo" ReflectliteType.assignableTo #[.agg #[.pointer (some ⟨1, 161, none⟩)], .iface 237 (.agg #[.pointer (some ⟨1, 161, none⟩)])]).run Tryz.prog w = .ok (.bool true) w := by kernel_rfl
theorem noAs_f (v : Value) (xT : TypeId) (w : World) : (Instr.typeAssert (.iface 161 v) xT 242 true).run Tryz.prog w = .ok (.tuple #[.nilIface, .bool false]) w :=
  run_typeAssert_lacksB Tryz.underlying242 (by kernel_rfl) (by kernel_rfl) v xT w
theorem hasUn_f (v : Value) (xT : TypeId) (w : World) : (Instr.typeAssert (.iface 161 v) xT 245 true).run Tryz.prog w = .ok (.tuple #[.iface 161 v, .bool true]) w :=
  run_typeAssert_hasB Tryz.underlying245 (by kernel_rfl) v xT w
theorem mUn_f (v : Value) (w : World) : (Go.method 382 161 v "Unwrap").run Tryz.prog w = .ok (200, v) w := by kernel_rfl
theorem mKind (h : Value) (w : World) : (Go.method 382 237 (.agg #[h]) "Kind").run Tryz.prog w = .ok (194, h) w := by kernel_rfl
theorem mElem (h : Value) (w : World) : (Go.method 382 237 (.agg #[h]) "Elem").run Tryz.prog w = .ok (207, .agg #[h]) w := by kernel_rfl
theorem mImplements (h : Value) (w : World) : (Go.method 382 237 (.agg #[h]) "Implements").run Tryz.prog w = .ok (208, .agg #[h]) w := by kernel_rfl
theorem mAssignableTo (h : Value) (w : World) : (Go.method 382 237 (.agg #[h]) "AssignableTo").run Tryz.prog w = .ok (205, .agg #[h]) w := by kernel_rfl
/-! ### the entries by the number of their function -/

end Go.Proofs.YthkbcpbgoefanaaGreatDoor



namespace Go.Proofs.YthkbcpbgoefanaaGreatDoor
open Go.RowKit Go.Extern.Stop Go.Stop Go.Extern

/-! ### the errors of this layer as values -/
def codeV (c : Int) : Value := .iface 97 (.int .i64 c)
def faultV (c a : Int) : Value := .iface 161 (.agg #[.int .i64 c, .int .i64 a])
def baseV (f : Bool) (c a : Int) : Value := if f then faultV c a else codeV c
noncomputable def msz (v : Value) : Nat := SizeOf.sizeOf v
theorem msz_fault (c a : Int) : msz (codeV c) < msz (faultV c a) := by
  unfold codeV faultV msz
  simp
  omega

theorem baseV_iface (f : Bool) (c a : Int) : ∃ T x, baseV f c a = .iface T x := by
  cases f <;> exact ⟨_, _, rfl⟩

/-! ### one store below, the rest new -/
theorem below_put {B : Nat} {w w' : World} {t : Addr} (h : Below B w w') (u : Value) : Below B (w.setCell t u) (w'.setCell t u) := by
  refine ⟨h.os, h.tape, h.output, by simpa [World.setCell] using h.size, fun k hk => ?_⟩
  by_cases e : t.block = k
  · subst e
    simp only [World.setCell, Array.getElem?_modify, if_pos]
    rw [h.block _ hk]
  · rw [Below.heap_setCell _ _ _ _ (Ne.symm e), Below.heap_setCell _ _ _ _ (Ne.symm e)]
    exact h.block k hk

theorem unwrap_f (c a : Int) (w : World) :
    Calls Tryz.prog 200 #[.agg #[.int .i64 c, .int .i64 a]] w fun e w' => e = .returned (codeV c) ∧ Below w.heap.size w w' := by
  go_enter Tryz.func200, Tryz.ntmps200
  go_wp2
  go_ret
  exact ⟨rfl, (Below.refl _ _).alloc (Nat.le_refl _) _⟩

abbrev valV (T : TypeId) (a : Addr) : Value := .agg #[.pointer (some ⟨1, T, none⟩), .pointer (some a), .int .u64 150]
abbrev tyV (T : TypeId) : Value := .iface 237 (.agg #[.pointer (some ⟨1, T, none⟩)])

theorem set_f (tb b : Nat) (c a : Int) (o0 o1 : Value) (W : World) (hb : W.cell? ⟨b, 0, none⟩ = some (.int .i64 c)) (hb1 : W.cell? ⟨b, 1, none⟩ = some (.int .i64 a)) (ht : W.cell? ⟨tb, 0, none⟩ = some o0) (ht1 : W.cell? ⟨tb, 1, none⟩ = some o1)
    (hf : W.frozen? ⟨tb, 0, none⟩ = false) (hf1 : W.frozen? ⟨tb, 1, none⟩ = false) :
    (ReflectliteValue.set #[.agg #[.pointer (some ⟨1, 161, none⟩), .pointer (some ⟨tb, 0, none⟩), .int .u64 409], .agg #[.pointer (some ⟨1, 161, none⟩), .pointer (some ⟨b, 0, none⟩), .int .u64 153]]).run Tryz.prog W
      = .ok (.tuple #[]) ((W.setCell ⟨tb, 0, none⟩ (.int .i64 c)).setCell ⟨tb, 1, none⟩ (.int .i64 a)) := by
  have hv : (loadVar 161 ⟨b, 0, none⟩).run Tryz.prog W = .ok (.agg #[.int .i64 c, .int .i64 a]) W := by
    simp [go_sem, hb, hb1]
  change Sem.run _ (ReflectliteValue.parts _ >>= _) _ = _
  simp only [Array.getLit, List.getElem_toArray, List.getElem_cons_zero, List.getElem_cons_succ, Sem.run_bind, parts_fa, parts_f, Result.andThen]
  simp [ReflectliteValue.flagAddr, hv, Result.andThen, direct_f, storeVar, Value.cells, storeCells, Addr.add]
  rw [run_store Tryz.prog W ⟨tb, 0, none⟩ _ _ (by rfl)]
  simp [ht, hf]
  rw [run_store Tryz.prog _ ⟨tb, 1, none⟩ _ _ (by rfl)]
  simp [ht1, hf1, World.cell?_setCell_other, World.frozen?_setCell]

def AsRel (f : Bool) (c a : Int) (w : World) (vs : Array Value) (v : Value) (wr : World) : Prop :=
  (v = codeV c ∧ f = false ∨ v = codeV c ∧ f = true ∨ v = faultV c a ∧ f = true) ∧ Below w.heap.size w wr ∧ Whole wr w.heap.size 216 vs
def AsRel' (f : Bool) (c a : Int) (w : World) (vs : Array Value) (v : Value) (wr : World) : Prop :=
  (v = codeV c ∧ f = false ∨ v = faultV c a ∧ f = true) ∧ Below w.heap.size w wr ∧ Whole wr w.heap.size 216 vs
theorem rel_start (f : Bool) (c a : Int) : baseV f c a = codeV c ∧ f = false ∨ baseV f c a = faultV c a ∧ f = true := by
  cases f <;> simp [baseV]
theorem rel_start' (f : Bool) (c a : Int) : baseV f c a = codeV c ∧ f = false ∨ baseV f c a = codeV c ∧ f = true ∨ baseV f c a = faultV c a ∧ f = true := by
  rcases rel_start f c a with h | h
  · exact .inl h
  · exact .inr (.inr h)

set_option maxRecDepth 100000 in
set_option maxHeartbeats 4000000 in
theorem as_code (f : Bool) (c a : Int) (va t : Addr) (old : Value) (w : World) (hva : w.cell? va = some (.pointer (some t))) (hvb : va.block < w.heap.size)
    (ht : w.cell? t = some old) (hf : w.frozen? t = false) (tv : Value) :
    Calls Tryz.prog 161 #[baseV f c a, tv, valV 157 va, tyV 97] w fun e w' => e = .returned (.bool true) ∧ Below w.heap.size (w.setCell t (.int .i64 c)) w' := by
  have h26 := @run_callFunc_extern Tryz.prog 158 _ (fun args => ReflectliteValue.unpack (args.getD 0 (.tuple #[]))) Tryz.func158 (by kernel_rfl) (by kernel_rfl) (by kernel_rfl) (by kernel_rfl)
  have h22 := @run_callFunc_extern Tryz.prog 169 _ ReflectliteType.typeOf Tryz.func169 (by kernel_rfl) (by kernel_rfl) (by kernel_rfl) (by kernel_rfl)
  have h69 := @run_callFunc_extern Tryz.prog 205 _ (ReflectliteType.relation "AssignableTo" ReflectliteType.assignableTo) Tryz.func205 (by kernel_rfl) (by kernel_rfl) (by kernel_rfl) (by kernel_rfl)
  have h30 := @run_callFunc_extern Tryz.prog 170 _ (ReflectliteValue.method (ReflectliteValue.valueError "reflectlite.Value.Elem" 0) ReflectliteValue.elem) Tryz.func170 (by kernel_rfl) (by kernel_rfl) (by kernel_rfl) (by kernel_rfl)
  have h31 := @run_callFunc_extern Tryz.prog 171 _ ReflectliteValue.set Tryz.func171 (by kernel_rfl) (by kernel_rfl) (by kernel_rfl) (by kernel_rfl)
  have mA := mAssignableTo
  have hbt : t.block < w.heap.size := World.block_lt_of_cell? w _ ht
  go_enter Tryz.func161, Tryz.ntmps161
  go_wp2
  go_loopw [0] (fun v wr => AsRel f c a w #[.pointer (some ⟨1, 157, none⟩), .pointer (some va), .int .u64 150] v wr) (fun v _ => msz v)
  case atStart =>
    exact ⟨rel_start' f c a, (Below.refl _ _).alloc (Nat.le_refl _) _, Whole.new _ _ _⟩
  case round =>
    obtain ⟨hv, hb, hw⟩ := hrel
    rcases hv with ⟨rfl, h0⟩ | ⟨rfl, h0⟩ | ⟨rfl, rfl⟩
    · clear h0
      simp only [codeV]
      have c1 := typeOf_c
      have c2 := assign_cc
      have c3 := valueOf_c
      have hva2 : wr.cell? va = some (.pointer (some t)) := (hb.cell hvb).trans hva
      have c4 := elemV_pc va t wr hva2
      have hbw : t.block < wr.heap.size := Nat.lt_of_lt_of_le hbt hb.size
      have c5 := set_c t ⟨wr.heap.size, 0, none⟩ c old (wr.alloc (.cells #[.int .i64 c] 97)) (by simp) (by rw [World.cell?_alloc_lt _ _ t hbw]; exact (hb.cell hbt).trans ht)
        (by rw [World.frozen?_alloc_old _ _ t (Nat.ne_of_lt hbw)]; exact (hb.frozen hbt).trans hf)
      clear hva2
      have g0 := hw.cell 0
      have g1 := hw.cell 1
      have g2 := hw.cell 2
      go_wp2_with fail
      go_ret
      exact ⟨rfl, below_put (hb.alloc hb.size _) _⟩
    · clear h0
      simp only [codeV]
      have c1 := typeOf_c
      have c2 := assign_cc
      have c3 := valueOf_c
      have hva2 : wr.cell? va = some (.pointer (some t)) := (hb.cell hvb).trans hva
      have c4 := elemV_pc va t wr hva2
      have hbw : t.block < wr.heap.size := Nat.lt_of_lt_of_le hbt hb.size
      have c5 := set_c t ⟨wr.heap.size, 0, none⟩ c old (wr.alloc (.cells #[.int .i64 c] 97)) (by simp) (by rw [World.cell?_alloc_lt _ _ t hbw]; exact (hb.cell hbt).trans ht)
        (by rw [World.frozen?_alloc_old _ _ t (Nat.ne_of_lt hbw)]; exact (hb.frozen hbt).trans hf)
      clear hva2
      have g0 := hw.cell 0
      have g1 := hw.cell 1
      have g2 := hw.cell 2
      go_wp2_with fail
      go_ret
      exact ⟨rfl, below_put (hb.alloc hb.size _) _⟩
    · simp only [faultV]
      have c1 := typeOf_f
      have c2 := assign_fc
      have c3 := noAs_f
      have c4 := hasUn_f
      have c5 := mUn_f
      go_wp2_with fail
      refine (unwrap_f c a _).mono ?_
      rintro e w1 ⟨rfl, b1⟩
      unfold codeV
      go_wp2_with fail
      go_roundw
      case rel => exact ⟨.inr (.inl ⟨rfl, rfl⟩), hb.trans (b1.mono hb.size), hw.below b1 hw.lt⟩
      case measure => exact msz_fault c a

/-- what a target of the type Fault holds behind the search -/
def putF (f : Bool) (c a : Int) (w : World) (tb : Nat) : World := if f then (w.setCell ⟨tb, 0, none⟩ (.int .i64 c)).setCell ⟨tb, 1, none⟩ (.int .i64 a) else w

set_option maxRecDepth 100000 in
set_option maxHeartbeats 4000000 in
theorem as_fault (f : Bool) (c a : Int) (va : Addr) (tb : Nat) (o0 o1 : Value) (w : World) (hva : w.cell? va = some (.pointer (some ⟨tb, 0, none⟩))) (hvb : va.block < w.heap.size)
    (ht : w.cell? ⟨tb, 0, none⟩ = some o0) (ht1 : w.cell? ⟨tb, 1, none⟩ = some o1) (hf : w.frozen? ⟨tb, 0, none⟩ = false) (hf1 : w.frozen? ⟨tb, 1, none⟩ = false) (tv : Value) :
    Calls Tryz.prog 161 #[baseV f c a, tv, valV 174 va, tyV 161] w fun e w' => e = .returned (.bool f) ∧ Below w.heap.size (putF f c a w tb) w' := by
  have h26 := @run_callFunc_extern Tryz.prog 158 _ (fun args => ReflectliteValue.unpack (args.getD 0 (.tuple #[]))) Tryz.func158 (by kernel_rfl) (by kernel_rfl) (by kernel_rfl) (by kernel_rfl)
  have h22 := @run_callFunc_extern Tryz.prog 169 _ ReflectliteType.typeOf Tryz.func169 (by kernel_rfl) (by kernel_rfl) (by kernel_rfl) (by kernel_rfl)
  have h69 := @run_callFunc_extern Tryz.prog 205 _ (ReflectliteType.relation "AssignableTo" ReflectliteType.assignableTo) Tryz.func205 (by kernel_rfl) (by kernel_rfl) (by kernel_rfl) (by kernel_rfl)
  have h30 := @run_callFunc_extern Tryz.prog 170 _ (ReflectliteValue.method (ReflectliteValue.valueError "reflectlite.Value.Elem" 0) ReflectliteValue.elem) Tryz.func170 (by kernel_rfl) (by kernel_rfl) (by kernel_rfl) (by kernel_rfl)
  have h31 := @run_callFunc_extern Tryz.prog 171 _ ReflectliteValue.set Tryz.func171 (by kernel_rfl) (by kernel_rfl) (by kernel_rfl) (by kernel_rfl)
  have mA := mAssignableTo
  have hbt : tb < w.heap.size := World.block_lt_of_cell? w _ ht
  go_enter Tryz.func161, Tryz.ntmps161
  go_wp2
  go_loopw [0] (fun v wr => AsRel' f c a w #[.pointer (some ⟨1, 174, none⟩), .pointer (some va), .int .u64 150] v wr) (fun v _ => msz v)
  case atStart =>
    exact ⟨rel_start f c a, (Below.refl _ _).alloc (Nat.le_refl _) _, Whole.new _ _ _⟩
  case round =>
    obtain ⟨hv, hb, hw⟩ := hrel
    rcases hv with ⟨rfl, rfl⟩ | ⟨rfl, rfl⟩
    · simp only [codeV]
      have c1 := typeOf_c
      have c2 := assign_cf
      have c3 := noAs_c
      have c4 := noUn_c
      have c5 := noMany_c
      go_wp2_with fail
      go_ret
      exact ⟨rfl, hb⟩
    · simp only [faultV]
      have c1 := typeOf_f
      have c2 := assign_ff
      have c3 := valueOf_f
      have hva2 : wr.cell? va = some (.pointer (some ⟨tb, 0, none⟩)) := (hb.cell hvb).trans hva
      have c4 := elemV_pf va ⟨tb, 0, none⟩ wr hva2
      have hbw : tb < wr.heap.size := Nat.lt_of_lt_of_le hbt hb.size
      have c5 := set_f tb wr.heap.size c a o0 o1 (wr.alloc (.cells #[.int .i64 c, .int .i64 a] 161)) (by simp) (by simp) (by rw [World.cell?_alloc_lt _ _ ⟨tb, 0, none⟩ hbw]; exact (hb.cell (p := ⟨tb, 0, none⟩) hbt).trans ht) (by rw [World.cell?_alloc_lt _ _ ⟨tb, 1, none⟩ hbw]; exact (hb.cell (p := ⟨tb, 1, none⟩) hbt).trans ht1)
        (by rw [World.frozen?_alloc_old _ _ ⟨tb, 0, none⟩ (Nat.ne_of_lt hbw)]; exact (hb.frozen (p := ⟨tb, 0, none⟩) hbt).trans hf) (by rw [World.frozen?_alloc_old _ _ ⟨tb, 1, none⟩ (Nat.ne_of_lt hbw)]; exact (hb.frozen (p := ⟨tb, 1, none⟩) hbt).trans hf1)
      clear hva2
      have g0 := hw.cell 0
      have g1 := hw.cell 1
      have g2 := hw.cell 2
      go_wp2_with fail
      go_ret
      exact ⟨rfl, (below_put (below_put hb _) _).alloc (by simpa [World.setCell] using hb.size) _⟩
end Go.Proofs.YthkbcpbgoefanaaGreatDoor



namespace Go.Proofs.YthkbcpbgoefanaaGreatDoor
open Go.RowKit Go.Extern.Stop Go.Stop Go.Extern

def Handle (w : World) : Prop := w.cell? ⟨0, 0, none⟩ = some (.iface 237 (.agg #[.pointer (some ⟨1, 30, none⟩)]))
theorem Handle.lt {w : World} (h : Handle w) : 0 < w.heap.size := World.block_lt_of_cell? w _ h
theorem Handle.below {B : Nat} {w w' : World} (h : Handle w) (hb : Below B w w') (hB : 0 < B) : Handle w' := (hb.cell (p := ⟨0, 0, none⟩) hB).trans h
theorem Handle.alloc {w : World} (h : Handle w) (o : Obj) : Handle (w.alloc o) := (World.cell?_alloc_lt w o ⟨0, 0, none⟩ h.lt).trans h

theorem as_nil (t : Value) (w : World) :
    Calls Tryz.prog 140 #[.nilIface, t] w fun e w' => e = .returned (.bool false) ∧ w = w' := by
  go_enter Tryz.func140, Tryz.ntmps140
  go_wp2
  go_ret
  exact ⟨rfl, rfl⟩

set_option maxHeartbeats 4000000 in
theorem As_code (f : Bool) (c a : Int) (t : Addr) (old : Value) (w : World) (hh : Handle w)
    (ht : w.cell? t = some old) (hf : w.frozen? t = false) :
    Calls Tryz.prog 140 #[baseV f c a, .iface 157 (.pointer (some t))] w fun e w' => e = .returned (.bool true) ∧ Below w.heap.size (w.setCell t (.int .i64 c)) w' := by
  have h26 := @run_callFunc_extern Tryz.prog 158 _ (fun args => ReflectliteValue.unpack (args.getD 0 (.tuple #[]))) Tryz.func158 (by kernel_rfl) (by kernel_rfl) (by kernel_rfl) (by kernel_rfl)
  have h27 := @run_callFunc_extern Tryz.prog 159 _ (ReflectliteValue.methodAny (ReflectliteValue.valueError "reflectlite.Value.Type" 0) (fun t _ _ _ => ReflectliteType.toType t)) Tryz.func159 (by kernel_rfl) (by kernel_rfl) (by kernel_rfl) (by kernel_rfl)
  have h28 := @run_callFunc_extern Tryz.prog 160 _ (ReflectliteValue.method (ReflectliteValue.valueError "reflectlite.Value.IsNil" 0) ReflectliteValue.isNil) Tryz.func160 (by kernel_rfl) (by kernel_rfl) (by kernel_rfl) (by kernel_rfl)
  have h46 := @run_callFunc_extern Tryz.prog 194 _ (ReflectliteType.abiMethod fun t => do pure (.int .u8 (← Rtype.kind t))) Tryz.func194 (by kernel_rfl) (by kernel_rfl) (by kernel_rfl) (by kernel_rfl)
  have h71 := @run_callFunc_extern Tryz.prog 207 _ (ReflectliteType.method ReflectliteType.elem) Tryz.func207 (by kernel_rfl) (by kernel_rfl) (by kernel_rfl) (by kernel_rfl)
  have h72 := @run_callFunc_extern Tryz.prog 208 _ (ReflectliteType.relation "Implements" ReflectliteType.implements_) Tryz.func208 (by kernel_rfl) (by kernel_rfl) (by kernel_rfl) (by kernel_rfl)
  have f1 := valueOf_pc
  have f2 := type_pc
  have f3 := mKind
  have f4 := kind_pc
  have f5 := kind_c
  have f6 := mElem
  have f7 := elem_pc
  have f8 := mImplements
  have f9 := implements_c
  have hbt : t.block < w.heap.size := World.block_lt_of_cell? w _ ht
  have hb : Below w.heap.size w ((w.alloc (.cells #[.pointer (some t)] 157)).alloc (.cells #[.pointer (some ⟨1, 157, none⟩), .pointer (some ⟨w.heap.size, 0, none⟩), .int .u64 150] 216)) := ((Below.refl _ _).alloc (Nat.le_refl _) _).alloc (by simp) _
  have f10 := isNil_pc ⟨w.heap.size, 0, none⟩ t ((w.alloc (.cells #[.pointer (some t)] 157)).alloc (.cells #[.pointer (some ⟨1, 157, none⟩), .pointer (some ⟨w.heap.size, 0, none⟩), .int .u64 150] 216)) (by simp)
  have f11 : ((w.alloc (.cells #[.pointer (some t)] 157)).alloc (.cells #[.pointer (some ⟨1, 157, none⟩), .pointer (some ⟨w.heap.size, 0, none⟩), .int .u64 150] 216)).cell? ⟨0, 0, none⟩ = some (.iface 237 (.agg #[.pointer (some ⟨1, 30, none⟩)])) := (hh.alloc _).alloc _
  obtain ⟨T, x, hx⟩ := baseV_iface f c a
  have X := Lib.hid hx
  rw [hx]
  clear hx
  go_enter Tryz.func140, Tryz.ntmps140
  go_wp2_with fail
  rw [← X.out]
  refine (as_code f c a ⟨w.heap.size, 0, none⟩ t old _ ?_ ?_ ?_ ?_ _).mono ?_
  · simp
  · simp; omega
  · rw [World.cell?_alloc_lt _ _ t (by simp; omega), World.cell?_alloc_lt _ _ t hbt]; exact ht
  · rw [World.frozen?_alloc_old _ _ t (by simp; omega), World.frozen?_alloc_old _ _ t (Nat.ne_of_lt hbt)]; exact hf
  rintro e w1 ⟨rfl, b1⟩
  go_wp2_with fail
  go_ret
  refine ⟨rfl, ?_⟩
  exact (below_put hb _).trans (b1.mono (by simp; omega))

set_option maxHeartbeats 4000000 in
theorem As_fault (f : Bool) (c a : Int) (tb : Nat) (o0 o1 : Value) (w : World) (hh : Handle w)
    (ht : w.cell? ⟨tb, 0, none⟩ = some o0) (ht1 : w.cell? ⟨tb, 1, none⟩ = some o1) (hf : w.frozen? ⟨tb, 0, none⟩ = false) (hf1 : w.frozen? ⟨tb, 1, none⟩ = false) :
    Calls Tryz.prog 140 #[baseV f c a, .iface 174 (.pointer (some ⟨tb, 0, none⟩))] w fun e w' => e = .returned (.bool f) ∧ Below w.heap.size (putF f c a w tb) w' := by
  have h26 := @run_callFunc_extern Tryz.prog 158 _ (fun args => ReflectliteValue.unpack (args.getD 0 (.tuple #[]))) Tryz.func158 (by kernel_rfl) (by kernel_rfl) (by kernel_rfl) (by kernel_rfl)
  have h27 := @run_callFunc_extern Tryz.prog 159 _ (ReflectliteValue.methodAny (ReflectliteValue.valueError "reflectlite.Value.Type" 0) (fun t _ _ _ => ReflectliteType.toType t)) Tryz.func159 (by kernel_rfl) (by kernel_rfl) (by kernel_rfl) (by kernel_rfl)
  have h28 := @run_callFunc_extern Tryz.prog 160 _ (ReflectliteValue.method (ReflectliteValue.valueError "reflectlite.Value.IsNil" 0) ReflectliteValue.isNil) Tryz.func160 (by kernel_rfl) (by kernel_rfl) (by kernel_rfl) (by kernel_rfl)
  have h46 := @run_callFunc_extern Tryz.prog 194 _ (ReflectliteType.abiMethod fun t => do pure (.int .u8 (← Rtype.kind t))) Tryz.func194 (by kernel_rfl) (by kernel_rfl) (by kernel_rfl) (by kernel_rfl)
  have h71 := @run_callFunc_extern Tryz.prog 207 _ (ReflectliteType.method ReflectliteType.elem) Tryz.func207 (by kernel_rfl) (by kernel_rfl) (by kernel_rfl) (by kernel_rfl)
  have h72 := @run_callFunc_extern Tryz.prog 208 _ (ReflectliteType.relation "Implements" ReflectliteType.implements_) Tryz.func208 (by kernel_rfl) (by kernel_rfl) (by kernel_rfl) (by kernel_rfl)
  have f1 := valueOf_pf
  have f2 := type_pf
  have f3 := mKind
  have f4 := kind_pf
  have f5 := kind_f
  have f6 := mElem
  have f7 := elem_pf
  have f8 := mImplements
  have f9 := implements_f
  have hbt : tb < w.heap.size := World.block_lt_of_cell? w _ ht
  have hb : Below w.heap.size w ((w.alloc (.cells #[.pointer (some ⟨tb, 0, none⟩)] 174)).alloc (.cells #[.pointer (some ⟨1, 174, none⟩), .pointer (some ⟨w.heap.size, 0, none⟩), .int .u64 150] 216)) := ((Below.refl _ _).alloc (Nat.le_refl _) _).alloc (by simp) _
  have f10 := isNil_pf ⟨w.heap.size, 0, none⟩ ⟨tb, 0, none⟩ ((w.alloc (.cells #[.pointer (some ⟨tb, 0, none⟩)] 174)).alloc (.cells #[.pointer (some ⟨1, 174, none⟩), .pointer (some ⟨w.heap.size, 0, none⟩), .int .u64 150] 216)) (by simp)
  have f11 : ((w.alloc (.cells #[.pointer (some ⟨tb, 0, none⟩)] 174)).alloc (.cells #[.pointer (some ⟨1, 174, none⟩), .pointer (some ⟨w.heap.size, 0, none⟩), .int .u64 150] 216)).cell? ⟨0, 0, none⟩ = some (.iface 237 (.agg #[.pointer (some ⟨1, 30, none⟩)])) := (hh.alloc _).alloc _
  obtain ⟨T, x, hx⟩ := baseV_iface f c a
  have X := Lib.hid hx
  rw [hx]
  clear hx
  go_enter Tryz.func140, Tryz.ntmps140
  go_wp2_with fail
  rw [← X.out]
  refine (as_fault f c a ⟨w.heap.size, 0, none⟩ tb o0 o1 _ ?_ ?_ ?_ ?_ ?_ ?_ _).mono ?_
  · simp
  · simp; omega
  · rw [World.cell?_alloc_lt _ _ ⟨tb, 0, none⟩ (by simp; omega), World.cell?_alloc_lt _ _ ⟨tb, 0, none⟩ hbt]; exact ht
  · rw [World.cell?_alloc_lt _ _ ⟨tb, 1, none⟩ (by simp; omega), World.cell?_alloc_lt _ _ ⟨tb, 1, none⟩ hbt]; exact ht1
  · rw [World.frozen?_alloc_old _ _ ⟨tb, 0, none⟩ (by simp; omega), World.frozen?_alloc_old _ _ ⟨tb, 0, none⟩ (Nat.ne_of_lt hbt)]; exact hf
  · rw [World.frozen?_alloc_old _ _ ⟨tb, 1, none⟩ (by simp; omega), World.frozen?_alloc_old _ _ ⟨tb, 1, none⟩ (Nat.ne_of_lt hbt)]; exact hf1
  rintro e w1 ⟨rfl, b1⟩
  go_wp2_with fail
  go_ret
  refine ⟨rfl, ?_⟩
  refine Below.trans ?_ (b1.mono (by simp; omega))
  cases f
  · exact hb
  · exact below_put (below_put hb _) _


/-! ### find -/
theorem find_defer (p : Addr) (w : World) :
    CallsD Tryz.prog 139 #[.pointer (some p)] .returning w fun e u' w' => e = .returned (.tuple #[]) ∧ u' = .returning ∧ w' = w := by
  refine callsD_of_wpS Tryz.func139 rfl fun c₀ cs hu => ?_
  apply wpS_seq
  apply wpS_region
  simp [wpOpsS, go_sem, recoverD, hu, Tryz.ntmps139, Exit.thenS]
  refine wpS_cond (t := false) (by simp [Act.eval, Array.replicate]) ?_
  simp only [Bool.false_eq_true, if_false]
  refine wpS_of_wp (wp_skip ?_)
  cases c₀
  simp_all [bodyPostS, results, Tryz.results139]


set_option maxHeartbeats 4000000 in
theorem find_code (f : Bool) (c a : Int) (t : Addr) (old : Value) (w : World) (hh : Handle w)
    (ht : w.cell? t = some old) (hf : w.frozen? t = false) :
    Calls Tryz.prog 113 #[baseV f c a, .iface 157 (.pointer (some t))] w fun e w' => e = .returned (.bool true) ∧ Below w.heap.size (w.setCell t (.int .i64 c)) w' := by
  have hmf : ∀ (fn : Fn) (first cap : Array Value) (w : World), (Instr.makeFunc fn first cap).run Tryz.prog w = .ok (.func fn first cap) w := fun _ _ _ _ => rfl
  have hbt : t.block < w.heap.size := World.block_lt_of_cell? w _ ht
  go_enter_defers Tryz.func113, Tryz.ntmps113
  go_wp2_with fail
  refine (As_code f c a t old _ ?_ ?_ ?_).mono ?_
  · exact hh.alloc _
  · rw [World.cell?_alloc_lt _ _ t hbt]; exact ht
  · rw [World.frozen?_alloc_old _ _ t (Nat.ne_of_lt hbt)]; exact hf
  rintro e w1 ⟨rfl, b1⟩
  have hw1 : Whole w1 w.heap.size 4 #[.bool false] := ((Whole.new w 4 #[.bool false]).far (p := t) (Ne.symm (Nat.ne_of_lt hbt)) _).below b1 (by simp)
  have hb1 : Below w.heap.size (w.setCell t (.int .i64 c)) w1 := (below_put ((Below.refl _ _).alloc (Nat.le_refl _) _) _).trans (b1.mono (by simp))
  have g0 := hw1.cell 0
  have g1 := hw1.frozen 0
  go_wp2_with fail
  refine leaves_cons (f := 139) (args := #[.pointer (some ⟨w.heap.size, 0, none⟩)]) (by simp) (by simp [go_sem]) ?_
  refine (find_defer ⟨w.heap.size, 0, none⟩ _).mono ?_
  rintro e u' w'' ⟨rfl, rfl, rfl⟩
  have g2 := (hw1.set_ 0 (.bool true)).cell 0
  simp [Leaves, settle, results, Tryz.results113, go_sem, g2]
  exact hb1.setCell (by simp) _

set_option maxHeartbeats 4000000 in
theorem find_fault (f : Bool) (c a : Int) (tb : Nat) (o0 o1 : Value) (w : World) (hh : Handle w)
    (ht : w.cell? ⟨tb, 0, none⟩ = some o0) (ht1 : w.cell? ⟨tb, 1, none⟩ = some o1) (hf : w.frozen? ⟨tb, 0, none⟩ = false) (hf1 : w.frozen? ⟨tb, 1, none⟩ = false) :
    Calls Tryz.prog 113 #[baseV f c a, .iface 174 (.pointer (some ⟨tb, 0, none⟩))] w fun e w' => e = .returned (.bool f) ∧ Below w.heap.size (putF f c a w tb) w' := by
  have hmf : ∀ (fn : Fn) (first cap : Array Value) (w : World), (Instr.makeFunc fn first cap).run Tryz.prog w = .ok (.func fn first cap) w := fun _ _ _ _ => rfl
  have hbt : tb < w.heap.size := World.block_lt_of_cell? w _ ht
  go_enter_defers Tryz.func113, Tryz.ntmps113
  go_wp2_with fail
  refine (As_fault f c a tb o0 o1 _ ?_ ?_ ?_ ?_ ?_).mono ?_
  · exact hh.alloc _
  · rw [World.cell?_alloc_lt _ _ ⟨tb, 0, none⟩ hbt]; exact ht
  · rw [World.cell?_alloc_lt _ _ ⟨tb, 1, none⟩ hbt]; exact ht1
  · rw [World.frozen?_alloc_old _ _ ⟨tb, 0, none⟩ (Nat.ne_of_lt hbt)]; exact hf
  · rw [World.frozen?_alloc_old _ _ ⟨tb, 1, none⟩ (Nat.ne_of_lt hbt)]; exact hf1
  rintro e w1 ⟨rfl, b1⟩
  have hw1 : Whole w1 w.heap.size 4 #[.bool false] := by
    refine Whole.below ?_ b1 (by simp)
    unfold putF
    split
    · exact ((Whole.new w 4 #[.bool false]).far (p := ⟨tb, 0, none⟩) (Ne.symm (Nat.ne_of_lt hbt)) _).far (p := ⟨tb, 1, none⟩) (Ne.symm (Nat.ne_of_lt hbt)) _
    · exact Whole.new w 4 #[.bool false]
  have hb1 : Below w.heap.size (putF f c a w tb) w1 := by
    refine Below.trans ?_ (b1.mono (by simp))
    unfold putF
    split
    · exact below_put (below_put ((Below.refl _ _).alloc (Nat.le_refl _) _) _) _
    · exact (Below.refl _ _).alloc (Nat.le_refl _) _
  have g0 := hw1.cell 0
  have g1 := hw1.frozen 0
  go_wp2_with fail
  refine leaves_cons (f := 139) (args := #[.pointer (some ⟨w.heap.size, 0, none⟩)]) (by simp) (by simp [go_sem]) ?_
  refine (find_defer ⟨w.heap.size, 0, none⟩ _).mono ?_
  rintro e u' w'' ⟨rfl, rfl, rfl⟩
  have g2 := (hw1.set_ 0 (.bool f)).cell 0
  simp [Leaves, settle, results, Tryz.results113, go_sem, g2]
  exact hb1.setCell (by simp) _

end Go.Proofs.YthkbcpbgoefanaaGreatDoor



namespace Go.Proofs.YthkbcpbgoefanaaGreatDoor
open Go.RowKit Go.Extern.Stop Go.Stop Go.Extern

theorem find_nil (T : Nat) (t : Value) (w : World) :
    Calls Tryz.prog 113 #[.nilIface, .iface T t] w fun e w' => e = .returned (.bool false) ∧ Below w.heap.size w w' := by
  have hmf : ∀ (fn : Fn) (first cap : Array Value) (w : World), (Instr.makeFunc fn first cap).run Tryz.prog w = .ok (.func fn first cap) w := fun _ _ _ _ => rfl
  go_enter_defers Tryz.func113, Tryz.ntmps113
  go_wp2_with fail
  refine (as_nil _ _).mono ?_
  rintro e w1 ⟨rfl, rfl⟩
  go_wp2_with fail
  refine leaves_cons (f := 139) (args := #[.pointer (some ⟨w.heap.size, 0, none⟩)]) (by simp) (by simp [go_sem]) ?_
  refine (find_defer ⟨w.heap.size, 0, none⟩ _).mono ?_
  rintro e u' w'' ⟨rfl, rfl, rfl⟩
  simp [Leaves, settle, results, Tryz.results113, go_sem]
  exact (Below.refl _ _).alloc (Nat.le_refl _) _

/-! ### Code and At -/
theorem Code_nil (w : World) :
    Calls Tryz.prog 66 #[.nilIface] w fun e w' => e = .returned (.tuple #[.int .i64 0, .bool false]) ∧ Below w.heap.size w w' := by
  go_enter Tryz.func66, Tryz.ntmps66
  go_wp2_with fail
  refine (find_nil _ _ _).mono ?_
  rintro e w1 ⟨rfl, b1⟩
  go_wp2_with fail
  go_ret2
  exact ⟨rfl, ((Below.refl _ _).alloc (Nat.le_refl _) _).trans (b1.mono (by simp))⟩
theorem Code_any (f : Bool) (c a : Int) (w : World) (hh : Handle w) :
    Calls Tryz.prog 66 #[baseV f c a] w fun e w' => e = .returned (.tuple #[.int .i64 c, .bool true]) ∧ Below w.heap.size w w' := by
  go_enter Tryz.func66, Tryz.ntmps66
  go_wp2_with fail
  refine (find_code f c a ⟨w.heap.size, 0, none⟩ (.int .i64 0) _ (hh.alloc _) (by simp) (by simp)).mono ?_
  rintro e w1 ⟨rfl, b1⟩
  have hw1 : Whole w1 w.heap.size 97 #[.int .i64 c] := ((Whole.new w 97 #[.int .i64 0]).set_ 0 (.int .i64 c)).below b1 (by simp)
  have g0 := hw1.cell 0
  go_wp2_with fail
  go_ret2
  exact ⟨rfl, (((Below.refl _ _).alloc (Nat.le_refl _) _).setCell (by simp) _).trans (b1.mono (by simp))⟩
def offOf (f : Bool) (a : Int) : Int := if f then a else 0
theorem At_code (c a : Int) (w : World) (hh : Handle w) :
    Calls Tryz.prog 77 #[baseV false c a] w fun e w' => e = .returned (.tuple #[.int .i64 0, .bool false]) ∧ Below w.heap.size w w' := by
  go_enter Tryz.func77, Tryz.ntmps77
  go_wp2_with fail
  refine (find_fault false c a w.heap.size (.int .i64 0) (.int .i64 0) _ (hh.alloc _) (by simp) (by simp) (by simp) (by simp)).mono ?_
  rintro e w1 ⟨rfl, b1⟩
  go_wp2_with fail
  go_ret2
  exact ⟨rfl, ((Below.refl _ _).alloc (Nat.le_refl _) _).trans (b1.mono (by simp))⟩
theorem At_fault (c a : Int) (w : World) (hh : Handle w) :
    Calls Tryz.prog 77 #[baseV true c a] w fun e w' => e = .returned (.tuple #[.int .i64 a, .bool true]) ∧ Below w.heap.size w w' := by
  go_enter Tryz.func77, Tryz.ntmps77
  go_wp2_with fail
  refine (find_fault true c a w.heap.size (.int .i64 0) (.int .i64 0) _ (hh.alloc _) (by simp) (by simp) (by simp) (by simp)).mono ?_
  rintro e w1 ⟨rfl, b1⟩
  have hw1 : Whole w1 w.heap.size 161 #[.int .i64 c, .int .i64 a] := Whole.below (((Whole.new w 161 #[.int .i64 0, .int .i64 0]).set_ 0 (.int .i64 c)).set_ 1 (.int .i64 a)) b1 (by simp)
  have g1 := hw1.cell 1
  go_wp2_with fail
  go_ret2
  exact ⟨rfl, (((((Below.refl _ _).alloc (Nat.le_refl _) _).setCell (p := ⟨w.heap.size, 0, none⟩) (by simp) (.int .i64 c)).setCell (p := ⟨w.heap.size, 1, none⟩) (by simp) (.int .i64 a))).trans (b1.mono (by simp))⟩
theorem At_any (f : Bool) (c a : Int) (w : World) (hh : Handle w) :
    Calls Tryz.prog 77 #[baseV f c a] w fun e w' => e = .returned (.tuple #[.int .i64 (offOf f a), .bool f]) ∧ Below w.heap.size w w' := by
  cases f
  · exact At_code c a w hh
  · exact At_fault c a w hh

/-! ### New, In, Shift -/
theorem New_any (c a : Int) (w : World) :
    Calls Tryz.prog 70 #[.int .i64 c, .int .i64 a] w fun e w' => e = .returned (faultV c a) ∧ w = w' := by
  go_enter Tryz.func70, Tryz.ntmps70
  go_wp2
  go_ret
  exact ⟨rfl, rfl⟩
end Go.Proofs.YthkbcpbgoefanaaGreatDoor



namespace Go.Proofs.YthkbcpbgoefanaaGreatDoor
open Go.RowKit Go.Extern.Stop Go.Stop Go.Extern

theorem Shift_nil (n : Int) (w : World) :
    Calls Tryz.prog 73 #[.nilIface, .int .i64 n] w fun e w' => e = .returned .nilIface ∧ Below w.heap.size w w' := by
  go_enter Tryz.func73, Tryz.ntmps73
  go_wp2_with fail
  refine (Code_nil _).mono ?_
  rintro e w1 ⟨rfl, b1⟩
  go_wp2_with fail
  go_ret
  exact ⟨rfl, b1⟩
theorem Shift_any (f : Bool) (c a n : Int) (w : World) (hh : Handle w) :
    Calls Tryz.prog 73 #[baseV f c a, .int .i64 n] w fun e w' => e = .returned (faultV c (wrap64 (offOf f a + n))) ∧ Below w.heap.size w w' := by
  go_enter Tryz.func73, Tryz.ntmps73
  go_wp2_with fail
  refine (Code_any f c a _ hh).mono ?_
  rintro e w1 ⟨rfl, b1⟩
  go_wp2_with fail
  refine (At_any f c a _ (hh.below b1 hh.lt)).mono ?_
  rintro e w2 ⟨rfl, b2⟩
  go_wp2_with fail
  refine (New_any c _ _).mono ?_
  rintro e w3 ⟨rfl, rfl⟩
  go_wp2_with fail
  go_ret
  exact ⟨rfl, b1.trans (b2.mono b1.size)⟩
/-- an error with an offset, moved -/
theorem Shift_fault (c : Int) (a n : Nat) (w : World) (hh : Handle w) (hs : a + n ≤ 9000000000000000000) :
    Calls Tryz.prog 73 #[faultV c (a : Int), .int .i64 (n : Int)] w fun e w' => e = .returned (faultV c ((a + n : Nat) : Int)) ∧ Below w.heap.size w w' := by
  have h := Shift_any true c a n w hh
  have e : wrap64 (offOf true (a : Int) + (n : Int)) = ((a + n : Nat) : Int) := by
    simp only [offOf, if_true]
    unfold wrap64
    omega
  rw [e] at h
  exact h
end Go.Proofs.YthkbcpbgoefanaaGreatDoor


