/- Layer 11: the forms of chunks as data; the tables that the program and the reference lay in new memory. No condition of its own. -/
/- Layer 11, package kind: the search, Of, ByName, Known, IsData. They write nothing that was there. -/
/- Layer 11, package kind: Types, Fits, Inside. They write nothing that was there. -/
/- Layer 11: the reference: Of, Fits, Number, Class. They write nothing that was there. -/
import Derived.Test.YteknmgmdmjmnmaaGreatDoorChecked
import Derived.Test.YteknmgmdmjmnmaaGreatDoorUS
import Derived.Great.Walk
import Derived.Great.BuildSlice
import Derived.Laws.Tables
import Derived.Laws.ResultCell
import Derived.Laws.CopyOwn
import Derived.Test.YteknmgmdmjmnmaaGreatDoorUA





namespace Go.Proofs.YteknmgmdmjmnmaaGreatDoor
open Go.RowKit

structure Kd where
  ty : UInt8
  nm : ByteArray
  ms : UInt8
  lo : Int
  hi : Int
  un : Int
  ki : Int

def Kd.cells (f : Kd) : List Value := [bv f.ty, .string f.nm, bv f.ms, .int .i64 f.lo, .int .i64 f.hi, .int .i64 f.un, .int .i64 f.ki]
def Kd.val (f : Kd) : Value := .agg #[bv f.ty, .string f.nm, bv f.ms, .int .i64 f.lo, .int .i64 f.hi, .int .i64 f.un, .int .i64 f.ki]
def kflat (L : List Kd) : List Value := L.flatMap Kd.cells

def kT : List Kd := [
  ⟨0, ⟨#[100, 97, 116, 97]⟩, 15, 13, 65531, 1, 0⟩,
  ⟨1, ⟨#[105, 110, 105, 116]⟩, 0, 16, 16, 1, 2⟩,
  ⟨2, ⟨#[105, 110, 105, 116, 45, 97, 99, 107]⟩, 0, 16, 16, 1, 2⟩,
  ⟨3, ⟨#[115, 97, 99, 107]⟩, 0, 12, 65531, 4, 0⟩,
  ⟨4, ⟨#[104, 101, 97, 114, 116, 98, 101, 97, 116]⟩, 0, 0, 0, 1, 1⟩,
  ⟨5, ⟨#[104, 101, 97, 114, 116, 98, 101, 97, 116, 45, 97, 99, 107]⟩, 0, 0, 0, 1, 1⟩,
  ⟨6, ⟨#[97, 98, 111, 114, 116]⟩, 1, 0, 0, 1, 3⟩,
  ⟨7, ⟨#[115, 104, 117, 116, 100, 111, 119, 110]⟩, 0, 4, 4, 1, 0⟩,
  ⟨8, ⟨#[115, 104, 117, 116, 100, 111, 119, 110, 45, 97, 99, 107]⟩, 0, 0, 0, 1, 0⟩,
  ⟨9, ⟨#[101, 114, 114, 111, 114]⟩, 0, 0, 0, 1, 4⟩,
  ⟨10, ⟨#[99, 111, 111, 107, 105, 101, 45, 101, 99, 104, 111]⟩, 0, 1, 65531, 1, 0⟩,
  ⟨11, ⟨#[99, 111, 111, 107, 105, 101, 45, 97, 99, 107]⟩, 0, 0, 0, 1, 0⟩,
  ⟨12, ⟨#[101, 99, 110, 101]⟩, 0, 4, 4, 1, 0⟩,
  ⟨13, ⟨#[99, 119, 114]⟩, 0, 4, 4, 1, 0⟩,
  ⟨14, ⟨#[115, 104, 117, 116, 100, 111, 119, 110, 45, 99, 111, 109, 112, 108, 101, 116, 101]⟩, 1, 0, 0, 1, 0⟩,
  ⟨15, ⟨#[97, 117, 116, 104]⟩, 0, 5, 65531, 1, 0⟩,
  ⟨64, ⟨#[105, 45, 100, 97, 116, 97]⟩, 15, 17, 65531, 1, 0⟩,
  ⟨128, ⟨#[97, 115, 99, 111, 110, 102, 45, 97, 99, 107]⟩, 0, 4, 4, 1, 2⟩,
  ⟨130, ⟨#[114, 101, 45, 99, 111, 110, 102, 105, 103]⟩, 0, 0, 0, 1, 5⟩,
  ⟨132, ⟨#[112, 97, 100]⟩, 0, 0, 65531, 1, 0⟩,
  ⟨192, ⟨#[102, 111, 114, 119, 97, 114, 100, 45, 116, 115, 110]⟩, 0, 4, 65531, 4, 0⟩,
  ⟨193, ⟨#[97, 115, 99, 111, 110, 102]⟩, 0, 4, 4, 1, 6⟩,
  ⟨194, ⟨#[105, 45, 102, 111, 114, 119, 97, 114, 100, 45, 116, 115, 110]⟩, 0, 4, 65531, 8, 0⟩]

theorem built_kd (ty : Int) (nm : ByteArray) (mk lo hi un ki : Int) :
    Tryz.prog.built 220 [(0, .int .u8 ty), (1, .string nm), (2, .int .u8 mk), (3, .int .i64 lo), (4, .int .i64 hi), (5, .int .i64 un), (6, .int .i64 ki)] = some #[.int .u8 ty, .string nm, .int .u8 mk, .int .i64 lo, .int .i64 hi, .int .i64 un, .int .i64 ki] := by kernel_rfl
theorem wpList_kd {ops : Array Oper} {rest : List Oper} {a : Act} {w : World} {Q : Exit → Act → World → Prop} {dst : Option Nat} {ot : TypeId} {pos : String} {after : Array Edge}
    {ty : Int} {nm : ByteArray} {mk lo hi un ki : Int}
    (h : wpList Tryz.prog ops Q rest (a.put dst (.agg #[.int .u8 ty, .string nm, .int .u8 mk, .int .i64 lo, .int .i64 hi, .int .i64 un, .int .i64 ki])) w) :
    wpList Tryz.prog ops Q (⟨dst, .build 220 #[(0, .const (.int .u8 ty)), (1, .const (.string nm)), (2, .const (.int .u8 mk)), (3, .const (.int .i64 lo)), (4, .const (.int .i64 hi)), (5, .const (.int .i64 un)), (6, .const (.int .i64 ki))], ot, pos, after, none⟩ :: rest) a w := by
  have hp : ((#[(0, .const (.int .u8 ty)), (1, .const (.string nm)), (2, .const (.int .u8 mk)), (3, .const (.int .i64 lo)), (4, .const (.int .i64 hi)), (5, .const (.int .i64 un)), (6, .const (.int .i64 ki))] : Array (Nat × Operand)).map fun (i, x) => (i, a.eval x)).toList =
      [(0, .int .u8 ty), (1, .string nm), (2, .int .u8 mk), (3, .int .i64 lo), (4, .int .i64 hi), (5, .int .i64 un), (6, .int .i64 ki)] := by
    simp only [List.map_toArray, List.map_cons, List.map_nil]
    rfl
  refine wpList_build rfl 220 _ rfl ?_ ?_
  · rw [hp, built_kd]; rfl
  · rw [hp, built_kd]; exact h

/-! ### a table in memory -/
theorem kflat_at (L : List Kd) : ∀ (k : Nat) (f : Kd), L[k]? = some f → ∀ (j : Nat) (u : Value), f.cells[j]? = some u → (kflat L)[k * 7 + j]? = some u := by
  induction L with
  | nil => intro k f h; simp at h
  | cons g L ih =>
    intro k f h j u hu
    have hg : g.cells.length = 7 := rfl
    match k, h with
    | 0, h =>
      simp only [List.getElem?_cons_zero, Option.some.injEq] at h
      subst h
      have hj : j < 7 := by rw [← hg]; exact (List.getElem?_eq_some_iff.1 hu).1
      rw [Nat.zero_mul, Nat.zero_add]
      show (g.cells ++ kflat L)[j]? = some u
      rw [List.getElem?_append_left (by omega)]
      exact hu
    | k + 1, h =>
      have := ih k f (by simpa using h) j u hu
      show (g.cells ++ kflat L)[(k + 1) * 7 + j]? = some u
      rw [List.getElem?_append_right (by omega), hg, show (k + 1) * 7 + j - 7 = k * 7 + j by omega]
      exact this
theorem kflat_cut (L : List Kd) : ∀ (k : Nat) (f : Kd), L[k]? = some f → ((kflat L).drop (k * 7)).take 7 = f.cells := by
  induction L with
  | nil => intro k f h; simp at h
  | cons g L ih =>
    intro k f h
    have hg : g.cells.length = 7 := rfl
    match k, h with
    | 0, h =>
      simp only [List.getElem?_cons_zero, Option.some.injEq] at h
      subst h
      show ((g.cells ++ kflat L).drop (0 * 7)).take 7 = g.cells
      rw [Nat.zero_mul, List.drop_zero, List.take_append_of_le_length (by omega), List.take_of_length_le (by omega)]
    | k + 1, h =>
      have := ih k f (by simpa using h)
      show ((g.cells ++ kflat L).drop ((k + 1) * 7)).take 7 = f.cells
      rw [List.drop_append, List.drop_eq_nil_of_le (by omega), List.nil_append, hg, show (k + 1) * 7 - 7 = k * 7 by omega]
      exact this
theorem Lies.kd {w : World} {B : Nat} {A : Option Addr} {L : List Kd} (h : Lies w B A (kflat L)) {k : Nat} (hk : k < L.length) :
    ∃ ad f, A = some ad ∧ ad.block < B ∧ Hid (L[k]? = some f) ∧ Hid (∀ (j : Nat) (u : Value), f.cells[j]? = some u → w.cell? ((ad.add (k * 7)).add j) = some u) ∧
      w.cell? (ad.add (k * 7)) = some (bv f.ty) ∧ w.cell? ⟨(ad.add (k * 7)).block, (ad.add (k * 7)).off + 1, none⟩ = some (.string f.nm) := by
  have hL : L[k]? = some L[k] := List.getElem?_eq_getElem hk
  have hf := kflat_at L k _ hL
  obtain ⟨ad, ha, hb, hc⟩ := h (fun e => by have := hf 0 _ rfl; rw [e] at this; simp at this)
  have h3 : ∀ (j : Nat) (u : Value), (L[k]).cells[j]? = some u → w.cell? ((ad.add (k * 7)).add j) = some u := fun j u hu => by
    rw [add_add']; exact hc _ _ (hf j u hu)
  have h0 := h3 0 _ rfl
  have h1 := h3 1 _ rfl
  exact ⟨ad, L[k], ha, hb, hL, h3, h0, h1⟩

/-! ### operations on whole structs -/
section
variable {P : Program}
theorem wpList_load_kd {ops : Array Oper} {rest : List Oper} {o : Oper} {a : Act} {w : World} {Q : Exit → Act → World → Prop} (hgd : o.guard = none) (T : TypeId) (x : Operand) (ho : o.op = .load T x)
    (ad : Addr) (hx : a.eval x = .pointer (some ad)) (f : Kd) (hc : Hid (∀ (j : Nat) (u : Value), f.cells[j]? = some u → w.cell? (ad.add j) = some u)) (d : TypeDesc)
    (hu : P.underlying T = some d) (hd : (match d with | .struct _ | .array _ _ => true | _ => false) = true) (hi : (P.info? T).map (·.size) = some 7)
    (h : wpList P ops Q rest (a.put o.dst (.agg #[bv f.ty, .string f.nm, bv f.ms, .int .i64 f.lo, .int .i64 f.hi, .int .i64 f.un, .int .i64 f.ki])) w) : wpList P ops Q (o :: rest) a w :=
  wpList_load_lies hgd T x ho ad hx f.cells hc.out d hu hd hi h
theorem wpList_store_kd {ops : Array Oper} {rest : List Oper} {o : Oper} {a : Act} {w : World} {Q : Exit → Act → World → Prop} (hgd : o.guard = none) (T : TypeId) (x y : Operand) (ho : o.op = .store T x y)
    (g : Nat) (hx : a.eval x = .pointer (some ⟨g, 0, none⟩)) {ty mk : Int} {nm : ByteArray} {lo hi un ki : Int} (hy : a.eval y = .agg #[.int .u8 ty, .string nm, .int .u8 mk, .int .i64 lo, .int .i64 hi, .int .i64 un, .int .i64 ki])
    (t : TypeId) (old : Array Value) (hg : w.heap[g]? = some (.cells old t (0, 0))) (hi7 : (P.info? T).map (·.size) = some 7) (hold : old.size = 7)
    (h : wpList P ops Q rest (a.put o.dst undef) (w.setRow g #[.int .u8 ty, .string nm, .int .u8 mk, .int .i64 lo, .int .i64 hi, .int .i64 un, .int .i64 ki])) : wpList P ops Q (o :: rest) a w :=
  wpList_store_row hgd T x y ho g _ hx hy t old hg hi7 hold (by simp [Value.oneCell']) h
theorem wpList_new_kd {ops : Array Oper} {rest : List Oper} {o : Oper} {a : Act} {w : World} {Q : Exit → Act → World → Prop} (hgd : o.guard = none) (T : TypeId) (x y : Operand) (ho : o.op = .store T x y)
    (w0 : World) (old : Array Value) (t : TypeId) (hw : w = w0.alloc (.cells old t)) (hx : a.eval x = .pointer (some ⟨w0.heap.size, 0, none⟩)) {ty mk : Int} {nm : ByteArray} {lo hi un ki : Int} (hy : a.eval y = .agg #[.int .u8 ty, .string nm, .int .u8 mk, .int .i64 lo, .int .i64 hi, .int .i64 un, .int .i64 ki])
    (hi7 : (P.info? T).map (·.size) = some 7) (hold : old.size = 7)
    (h : wpList P ops Q rest (a.put o.dst undef) (w0.alloc (.cells #[.int .u8 ty, .string nm, .int .u8 mk, .int .i64 lo, .int .i64 hi, .int .i64 un, .int .i64 ki] t))) : wpList P ops Q (o :: rest) a w :=
  wpList_store_new hgd T x y ho w0 old t hw _ hx hy hi7 hold (by simp [Value.oneCell']) h
theorem wpList_index_kd {ops : Array Oper} {rest : List Oper} {o : Oper} {a : Act} {w : World} {Q : Exit → Act → World → Prop} (hgd : o.guard = none) (T E : TypeId) (x y : Operand) (ho : o.op = .index T x y)
    (L : List Kd) (k : Nat) (f : Kd) (hx : a.eval x = .agg (kflat L).toArray) (hy : a.eval y = .int .i64 k) (hk : L[k]? = some f)
    (hu : P.underlying T = some (.array L.length E)) (d : TypeDesc) (hE : P.underlying E = some d) (hd : (match d with | .struct _ | .array _ _ => true | _ => false) = true) (hi : (P.info? E).map (·.size) = some 7)
    (h : wpList P ops Q rest (a.put o.dst (.agg #[bv f.ty, .string f.nm, bv f.ms, .int .i64 f.lo, .int .i64 f.hi, .int .i64 f.un, .int .i64 f.ki])) w) : wpList P ops Q (o :: rest) a w := by
  refine wpList_plain hgd fun _ hK => ?_
  have hlt : k < L.length := (List.getElem?_eq_some_iff.1 hk).1
  have hr : (Instr.index T (.agg (kflat L).toArray) (.int .i64 k)).run P w = .ok (.agg f.cells.toArray) w := by
    cases hq : P.info? E with
    | none => simp [hq] at hi
    | some i =>
      have hs : i.size = 7 := by simpa [hq] using hi
      have hagg : (isAgg E).run P w = .ok true w := by
        unfold isAgg
        rw [Sem.run_bind, run_underlying hE w]
        cases d <;> simp_all
      have hcut := kflat_cut L k f hk
      simp [Instr.index, asIntOf, Sem.run_bind, run_underlying hu w, part, hagg, sizeOf, typeInfo, hq, hs, hlt, hcut]
  unfold Oper.wp execOp
  simp only [ho, hx, hy, Sem.run_bind, hr, Result.andThen_ok]
  exact hK _ _ h
end

def kzero : Array Value := (kflat (List.replicate 23 ⟨0, ByteArray.empty, 0, 0, 0, 0, 0⟩)).toArray
set_option maxRecDepth 100000 in
set_option maxHeartbeats 4000000 in
theorem ktable_any (w : World) : Calls Tryz.prog 218 #[] w fun e w' => e = .returned (.agg (kflat kT).toArray) ∧ Below w.heap.size w w' := by
  obtain ⟨cs, hcs⟩ : ∃ cs, Hid (cs = (kflat kT).toArray) := ⟨_, rfl⟩
  go_enter Tryz.func218, Tryz.ntmps218
  have hW := Whole.new w 279 kzero
  go_wp2_with (first | (refine Go.Great.wpList_allocTo rfl (some 0) rfl (.pointer (some ⟨w.heap.size, 0, none⟩)) (.cells kzero 279) (by kernel_rfl) ?_) | (refine wpList_kd ?_) | (with_reducible show wpList _ _ _ (⟨some 24, _, _, _, _, _⟩ :: _) _ _; refine wpList_buildTo rfl 279 _ rfl (some 24) rfl cs (by rw [hcs.out]; kernel_rfl) ?_; refine wpList_store_rowTo rfl 279 _ _ rfl rfl w.heap.size cs (by kernel_rfl) (by kernel_rfl) 279 kzero (heap_alloc_new w _) (by rw [hcs.out]; kernel_rfl) (by rw [hcs.out]; kernel_rfl) (by rw [hcs.out]; kernel_rfl) ?_))
  (try simp only [Exit.inBlock, Exit.then])
  refine bodyPost_ret (results_cell_row rfl _ _ w.heap.size 279 _ (0, 0) _ (by kernel_rfl) (hW.setRow _) Tryz.underlying279 rfl (by rw [hcs.out]; kernel_rfl)) (by kernel_rfl) ?_
  exact ⟨by rw [hcs.out], below_setRow ((Below.refl _ w).alloc (Nat.le_refl _) _) (Nat.le_refl _) _⟩

theorem built_rkd (ty : Int) (nm : ByteArray) (mk lo hi un ki : Int) :
    Tryz.prog.built 177 [(0, .int .u8 ty), (1, .string nm), (2, .int .u8 mk), (3, .int .i64 lo), (4, .int .i64 hi), (5, .int .i64 un), (6, .int .i64 ki)] = some #[.int .u8 ty, .string nm, .int .u8 mk, .int .i64 lo, .int .i64 hi, .int .i64 un, .int .i64 ki] := by kernel_rfl
theorem wpList_rkd {ops : Array Oper} {rest : List Oper} {a : Act} {w : World} {Q : Exit → Act → World → Prop} {dst : Option Nat} {ot : TypeId} {pos : String} {after : Array Edge}
    {ty : Int} {nm : ByteArray} {mk lo hi un ki : Int} {x : Operand} (hx : a.eval x = .int .i64 hi)
    (h : wpList Tryz.prog ops Q rest (a.put dst (.agg #[.int .u8 ty, .string nm, .int .u8 mk, .int .i64 lo, .int .i64 hi, .int .i64 un, .int .i64 ki])) w) :
    wpList Tryz.prog ops Q (⟨dst, .build 177 #[(0, .const (.int .u8 ty)), (1, .const (.string nm)), (2, .const (.int .u8 mk)), (3, .const (.int .i64 lo)), (4, x), (5, .const (.int .i64 un)), (6, .const (.int .i64 ki))], ot, pos, after, none⟩ :: rest) a w := by
  have hp : ((#[(0, .const (.int .u8 ty)), (1, .const (.string nm)), (2, .const (.int .u8 mk)), (3, .const (.int .i64 lo)), (4, x), (5, .const (.int .i64 un)), (6, .const (.int .i64 ki))] : Array (Nat × Operand)).map fun (i, x) => (i, a.eval x)).toList =
      [(0, .int .u8 ty), (1, .string nm), (2, .int .u8 mk), (3, .int .i64 lo), (4, .int .i64 hi), (5, .int .i64 un), (6, .int .i64 ki)] := by
    simp only [List.map_toArray, List.map_cons, List.map_nil, hx]
    rfl
  refine wpList_build rfl 177 _ rfl ?_ ?_
  · rw [hp, built_rkd]; rfl
  · rw [hp, built_rkd]; exact h

set_option maxRecDepth 100000 in
set_option maxHeartbeats 4000000 in
theorem rktable_any (w : World) : Calls Tryz.prog 156 #[] w fun e w' => e = .returned (.slice (some ⟨w.heap.size, 0, none⟩) 23 23) ∧ w' = w.alloc (.cells (kflat kT).toArray 177) := by
  go_enter Tryz.func156, Tryz.ntmps156
  go_wp2_with (first | (refine wpList_rkd rfl ?_) | (refine Go.Great.wpList_buildSliceTo rfl 214 177 23 _ rfl w.heap.size rfl _ rfl Tryz.underlying214 (kflat kT).toArray (by kernel_rfl) ?_))
  go_ret
  exact ⟨rfl, rfl⟩
end Go.Proofs.YteknmgmdmjmnmaaGreatDoor





namespace Go.Proofs.YteknmgmdmjmnmaaGreatDoor
open Go.RowKit

abbrev zkd : Array Value := #[.int .u8 0, .string ByteArray.empty, .int .u8 0, .int .i64 0, .int .i64 0, .int .i64 0, .int .i64 0]
/-- what a search returns -/
def kV : Option Kd → Value
  | some f => .tuple #[f.val, .bool true]
  | none => .tuple #[.agg zkd, .bool false]
def KNo (p : Kd → Bool) (L : List Kd) (k : Nat) : Prop := ∀ (j : Nat) (f : Kd), j < k → L[j]? = some f → p f = false
theorem KNo.zero (p : Kd → Bool) (L : List Kd) : KNo p L 0 := fun j _ h => absurd h (by omega)
theorem KNo.next {p : Kd → Bool} {L : List Kd} {k : Nat} {f : Kd} (h : KNo p L k) (hf : L[k]? = some f) (hn : p f = false) : KNo p L (k + 1) := fun j g hj hg => by
  by_cases hk : j = k
  · subst hk; rw [hf] at hg; cases hg; exact hn
  · exact h j g (by omega) hg
theorem kfind_none {p : Kd → Bool} {L : List Kd} (h : KNo p L L.length) : L.find? p = none := by
  rw [List.find?_eq_none]
  intro f hf
  obtain ⟨j, hj, rfl⟩ := List.getElem_of_mem hf
  simpa using h j _ hj (List.getElem?_eq_getElem hj)
theorem kfind_some {p : Kd → Bool} {L : List Kd} {k : Nat} {f : Kd} (h : KNo p L k) (hf : L[k]? = some f) (ht : p f = true) : L.find? p = some f := by
  rw [List.find?_eq_some_iff_getElem]
  obtain ⟨hk, rfl⟩ := List.getElem?_eq_some_iff.1 hf
  refine ⟨by simpa using ht, k, hk, rfl, fun j hj => ?_⟩
  simpa using h j _ hj (List.getElem?_eq_getElem (by omega))
/-- the form of a type, or none; the form of a name, or none -/
def klook (t : UInt8) : Option Kd := kT.find? fun f => decide (f.ty = t)
theorem kof1_any (f : Kd) (t : UInt8) (g : Nat) (w : World) (hg : Whole w g 5 #[bv t]) :
    Calls Tryz.prog 195 #[f.val, .pointer (some ⟨g, 0, none⟩)] w fun e w' => e = .returned (.bool (decide (f.ty = t))) ∧ Below w.heap.size w w' := by
  have hW := hg.alloc (.cells #[bv f.ty, .string f.nm, bv f.ms, .int .i64 f.lo, .int .i64 f.hi, .int .i64 f.un, .int .i64 f.ki] 220)
  have hc := hW.cell 0
  simp only [List.getElem?_toArray, List.getElem?_cons_zero] at hc
  have hX := Whole.new w 220 #[bv f.ty, .string f.nm, bv f.ms, .int .i64 f.lo, .int .i64 f.hi, .int .i64 f.un, .int .i64 f.ki]
  have hx0 := hX.cell 0
  have hx1 := hX.cell 1
  simp only [List.getElem?_toArray, List.getElem?_cons_zero, List.getElem?_cons_succ] at hx0 hx1
  unfold Kd.val
  have hb : ((f.ty.toNat : Int) == (t.toNat : Int)) = decide (f.ty = t) := by
    by_cases h : f.ty = t
    · simp [h]
    · have h2 : ¬ (f.ty.toNat : Int) = (t.toNat : Int) := fun e => h (UInt8.toNat_inj.1 (by omega))
      simp only [h, decide_false, beq_eq_false_iff_ne, ne_eq, h2, not_false_eq_true]
  rw [← hb]
  clear hb hg hW hX
  go_enter Tryz.func195, Tryz.ntmps195
  go_wp2_with fail
  go_ret
  exact ⟨rfl, (Below.refl _ _).alloc (Nat.le_refl _) _⟩

set_option maxHeartbeats 1000000 in
theorem find_kof1 (t : UInt8) (g : Nat) (w : World) (hg : Whole w g 5 #[bv t]) :
    Calls Tryz.prog 194 #[.func (.func 195) #[] #[.pointer (some ⟨g, 0, none⟩)]] w fun e w' => e = .returned (kV ((kT.find? (fun f => decide (f.ty = t))))) ∧ Below w.heap.size w w' := by
  have hT := ktable_any
  have hlen : kT.length = 23 := rfl
  have HS : Hid (∀ (k : Nat) (f : Kd), KNo (fun f => decide (f.ty = t)) kT k → kT[k]? = some f → decide (f.ty = t) = true → (kT.find? (fun f => decide (f.ty = t))) = some f) := fun k f => kfind_some
  have HE : Hid (KNo (fun f => decide (f.ty = t)) kT 23 → (kT.find? (fun f => decide (f.ty = t))) = none) := kfind_none (L := kT)
  have hgw := hg.lt
  generalize (kT.find? (fun f => decide (f.ty = t))) = r at *
  generalize kT = L at *
  go_enter Tryz.func194, Tryz.ntmps194
  go_wp2_with fail
  refine (hT _).mono ?_
  rintro e w1 ⟨rfl, b1⟩
  have hW1 := (Whole.new w 220 zkd).below b1 (by simp)
  have hg1 := (hg.alloc (.cells zkd 220)).below b1 (by simp; omega)
  have hb1 : Below w.heap.size w w1 := ((Below.refl _ w).alloc (Nat.le_refl _) _).trans (b1.mono (by simp))
  clear b1 hT
  go_wp2_with fail
  go_loopw [7] (fun i wr => ∃ k : Nat, k ≤ 23 ∧ i = .int .i64 k ∧ Hid (KNo (fun f => decide (f.ty = t)) L k) ∧ Below w.heap.size w wr ∧ Hid (Whole wr w.heap.size 220 zkd) ∧ Hid (Whole wr g 5 #[bv t])) (fun i _ => 23 - (intOf i).toNat)
  case atStart => exact ⟨0, by omega, rfl, KNo.zero _ _, hb1, hW1, hg1⟩
  case round =>
    obtain ⟨k, hk, rfl, hno, hbel, hWr, hgr⟩ := hrel
    by_cases hlt : k < 23
    · obtain ⟨f, hf⟩ : ∃ f, Hid (L[k]? = some f) := ⟨_, List.getElem?_eq_getElem (by omega)⟩
      have hC := kof1_any f t g (wr.alloc (.cells #[bv f.ty, .string f.nm, bv f.ms, .int .i64 f.lo, .int .i64 f.hi, .int .i64 f.un, .int .i64 f.ki] 220)) (hgr.out.alloc _)
      unfold Kd.val at hC
      have hsz := hbel.size
      by_cases hft : f.ty = t
      · have hd : decide (f.ty = t) = true := by simpa using hft
        have HL := Lib.hid (HS.out k f hno.out hf.out hd)
        rw [hd] at hC
        clear hd hft
        go_wp2_with (first
          | (refine wpList_index_kd rfl 279 220 _ _ rfl L k f rfl rfl hf.out (by rw [hlen]; exact Tryz.underlying279) _ Tryz.underlying220 rfl (by kernel_rfl) ?_)
          | (refine wpList_new_kd rfl 220 _ _ rfl wr _ _ rfl rfl rfl (by kernel_rfl) rfl ?_)
          | (refine wpList_load_row rfl 220 _ rfl wr.heap.size rfl _ _ (0, 0) _ (heap_alloc_new wr _) Tryz.underlying220 rfl (by kernel_rfl) ?_))
        refine hC.mono ?_
        rintro e w2 ⟨rfl, b2⟩
        have hK2 := (Whole.new wr 220 #[bv f.ty, .string f.nm, bv f.ms, .int .i64 f.lo, .int .i64 f.hi, .int .i64 f.un, .int .i64 f.ki]).below b2 (by simp)
        have hW2 := (hWr.out.alloc (.cells #[bv f.ty, .string f.nm, bv f.ms, .int .i64 f.lo, .int .i64 f.hi, .int .i64 f.un, .int .i64 f.ki] 220)).below b2 (by simp; have := hWr.out.lt; omega)
        have hb2 := (hbel.alloc hsz (.cells #[bv f.ty, .string f.nm, bv f.ms, .int .i64 f.lo, .int .i64 f.hi, .int .i64 f.un, .int .i64 f.ki] 220)).trans (b2.mono (by simp; omega))
        clear b2 hC
        go_wp2_with (first
          | (refine wpList_load_row rfl 220 _ rfl wr.heap.size rfl _ _ (0, 0) _ hK2 Tryz.underlying220 rfl (by kernel_rfl) ?_)
          | (refine wpList_store_kd rfl 220 _ _ rfl w.heap.size rfl rfl _ _ hW2 (by kernel_rfl) rfl ?_))
        (try simp only [Exit.inBlock, Exit.then])
        refine bodyPost_ret (results_row_tmp rfl _ _ w.heap.size 220 _ _ rfl (hW2.setRow _) Tryz.underlying220 rfl (by kernel_rfl)) rfl ?_
        exact ⟨by rw [HL.out]; rfl, below_setRow hb2 (Nat.le_refl _) _⟩
      · have hd : decide (f.ty = t) = false := by simpa using hft
        have HN := Lib.hid (hno.out.next hf.out hd)
        rw [hd] at hC
        clear hd hft
        go_wp2_with (first
          | (refine wpList_index_kd rfl 279 220 _ _ rfl L k f rfl rfl hf.out (by rw [hlen]; exact Tryz.underlying279) _ Tryz.underlying220 rfl (by kernel_rfl) ?_)
          | (refine wpList_new_kd rfl 220 _ _ rfl wr _ _ rfl rfl rfl (by kernel_rfl) rfl ?_)
          | (refine wpList_load_row rfl 220 _ rfl wr.heap.size rfl _ _ (0, 0) _ (heap_alloc_new wr _) Tryz.underlying220 rfl (by kernel_rfl) ?_))
        refine hC.mono ?_
        rintro e w2 ⟨rfl, b2⟩
        have hW2 := Lib.hid ((hWr.out.alloc (.cells #[bv f.ty, .string f.nm, bv f.ms, .int .i64 f.lo, .int .i64 f.hi, .int .i64 f.un, .int .i64 f.ki] 220)).below b2 (by simp; have := hWr.out.lt; omega))
        have hg2 := Lib.hid ((hgr.out.alloc (.cells #[bv f.ty, .string f.nm, bv f.ms, .int .i64 f.lo, .int .i64 f.hi, .int .i64 f.un, .int .i64 f.ki] 220)).below b2 (by simp; have := hgr.out.lt; omega))
        have hb2 := (hbel.alloc hsz (.cells #[bv f.ty, .string f.nm, bv f.ms, .int .i64 f.lo, .int .i64 f.hi, .int .i64 f.un, .int .i64 f.ki] 220)).trans (b2.mono (by simp; omega))
        clear b2 hC
        go_wp2_with fail
        go_roundw
        case rel => exact ⟨k + 1, by omega, by go_num, HN, hb2, hW2, hg2⟩
        case measure => simp [intOf]; omega
    · obtain rfl : k = 23 := by omega
      have HL := Lib.hid (HE.out hno.out)
      go_wp2_with (first | (refine wpList_store_kd rfl 220 _ _ rfl w.heap.size rfl rfl _ _ hWr.out (by kernel_rfl) rfl ?_))
      (try simp only [Exit.inBlock, Exit.then])
      refine bodyPost_ret (results_row_tmp rfl _ _ w.heap.size 220 _ _ rfl (hWr.out.setRow _) Tryz.underlying220 rfl (by kernel_rfl)) rfl ?_
      exact ⟨by rw [HL.out]; rfl, below_setRow hbel (Nat.le_refl _) _⟩

set_option maxHeartbeats 1000000 in
theorem kof_any (t : UInt8) (w : World) : Calls Tryz.prog 160 #[bv t] w fun e w' => e = .returned (kV ((kT.find? (fun f => decide (f.ty = t))))) ∧ Below w.heap.size w w' := by
  have hF := find_kof1 t w.heap.size ((w.alloc (.cells #[bv t] 5)).alloc (.cells zkd 220)) ((Whole.new w _ _).alloc _)
  have hW := (Whole.new (w.alloc (.cells #[bv t] 5)) 220 zkd)
  simp only [World.size_alloc] at hF hW
  have hb : Below w.heap.size w ((w.alloc (.cells #[bv t] 5)).alloc (.cells zkd 220)) := ((Below.refl _ _).alloc (Nat.le_refl _) _).alloc (by simp) _
  generalize (kT.find? (fun f => decide (f.ty = t))) = r at *
  rcases r with _ | f
  all_goals
    unfold kV at hF ⊢
    (try unfold Kd.val at hF ⊢)
    go_enter Tryz.func160, Tryz.ntmps160
    go_wp2_with fail
    refine hF.mono ?_
    rintro e w1 ⟨rfl, b1⟩
    have hW1 := hW.below b1 (by omega)
    have hb1 := hb.trans (b1.mono (by omega))
    clear b1 hW hb hF
    go_wp2_with (first | (refine wpList_store_kd rfl 220 _ _ rfl (w.heap.size + 1) rfl rfl _ _ hW1 (by kernel_rfl) rfl ?_))
    (try simp only [Exit.inBlock, Exit.then])
    refine bodyPost_ret (results_row_tmp rfl _ _ (w.heap.size + 1) 220 _ _ rfl (hW1.setRow _) Tryz.underlying220 rfl (by kernel_rfl)) rfl ?_
    exact ⟨rfl, below_setRow hb1 (Nat.le_add_right _ _) _⟩

end Go.Proofs.YteknmgmdmjmnmaaGreatDoor




namespace Go.Proofs.YteknmgmdmjmnmaaGreatDoor
open Go.RowKit


/-! ### Fits -/
def kfitsB (f : Kd) (n : Int) : Bool := decide (f.lo ≤ n) && decide (n ≤ f.hi) && ((n - f.lo) % f.un == 0)
/-- what is in the table: small numbers, and a unit -/
structure KTame (f : Kd) : Prop where
  lo : 0 ≤ f.lo ∧ f.lo ≤ 17
  hi : 0 ≤ f.hi ∧ f.hi ≤ 65531
  un : 1 ≤ f.un ∧ f.un ≤ 8

theorem kfits_any (f : Kd) (hf : KTame f) (n : Int) (w : World) : Calls Tryz.prog 162 #[f.val, .int .i64 n] w fun e w' => e = .returned (.bool (kfitsB f n)) ∧ Below w.heap.size w w' := by
  obtain ⟨⟨h1, h2⟩, ⟨h3, h4⟩, h5, h6⟩ := hf
  unfold Kd.val kfitsB
  have h7 : 0 < f.un := by omega
  by_cases c1 : f.lo ≤ n
  · have hD1 : Hid (decide (f.lo ≤ n) = true) := decide_eq_true c1
    by_cases c2 : n ≤ f.hi
    · have hD2 : Hid (decide (n ≤ f.hi) = true) := decide_eq_true c2
      have hm : (n - f.lo).tmod f.un = (n - f.lo) % f.un := Int.tmod_eq_emod_of_nonneg (by omega)
      go_enter Tryz.func162, Tryz.ntmps162
      go_wp2_with fail
      go_ret
      exact ⟨ret_bool (by rw [hD1.out, hD2.out]; rfl), (Below.refl _ _).alloc (Nat.le_refl _) _⟩
    · have hD2 : Hid (decide (n ≤ f.hi) = false) := decide_eq_false c2
      go_enter Tryz.func162, Tryz.ntmps162
      go_wp2_with fail
      go_ret
      exact ⟨ret_bool (by first | (rw [hD1.out, hD2.out]; rfl) | (rw [hD2.out]; rfl)), (Below.refl _ _).alloc (Nat.le_refl _) _⟩
  · have hD1 : Hid (decide (f.lo ≤ n) = false) := decide_eq_false c1
    go_enter Tryz.func162, Tryz.ntmps162
    go_wp2_with fail
    go_ret
    exact ⟨ret_bool (by rw [hD1.out]; rfl), (Below.refl _ _).alloc (Nat.le_refl _) _⟩
/-! ### Inside -/
/-- the class, the least and the greatest number of nodes inside -/
def kins (k : Int) : Int × Int × Int := if k = 1 then (1, 1, 1) else if k = 2 then (1, 0, 16384) else if k = 3 then (2, 0, 16384) else if k = 4 then (2, 1, 16384) else if k = 5 then (1, 1, 2) else if k = 6 then (1, 2, 16384) else (0, 0, 0)
theorem kinside_any (k : Int) (w : World) : Calls Tryz.prog 163 #[.int .i64 k] w fun e w' => e = .returned (.tuple #[.int .i64 (kins k).1, .int .i64 (kins k).2.1, .int .i64 (kins k).2.2]) ∧ w = w' := by
  unfold kins
  by_cases h1 : k = 1
  · subst h1
    go_enter Tryz.func163, Tryz.ntmps163
    go_wp2_with fail
    go_ret3
    exact ⟨rfl, rfl⟩
  · skip
    by_cases h2 : k = 2
    · subst h2
      go_enter Tryz.func163, Tryz.ntmps163
      go_wp2_with fail
      go_ret3
      exact ⟨rfl, rfl⟩
    · skip
      by_cases h3 : k = 3
      · subst h3
        go_enter Tryz.func163, Tryz.ntmps163
        go_wp2_with fail
        go_ret3
        exact ⟨rfl, rfl⟩
      · skip
        by_cases h4 : k = 4
        · subst h4
          go_enter Tryz.func163, Tryz.ntmps163
          go_wp2_with fail
          go_ret3
          exact ⟨rfl, rfl⟩
        · skip
          by_cases h5 : k = 5
          · subst h5
            go_enter Tryz.func163, Tryz.ntmps163
            go_wp2_with fail
            go_ret3
            exact ⟨rfl, rfl⟩
          · skip
            by_cases h6 : k = 6
            · subst h6
              go_enter Tryz.func163, Tryz.ntmps163
              go_wp2_with fail
              go_ret3
              exact ⟨rfl, rfl⟩
            · rw [if_neg h1, if_neg h2, if_neg h3, if_neg h4, if_neg h5, if_neg h6]
              go_enter Tryz.func163, Tryz.ntmps163
              go_wp2_with fail
              go_ret3
              exact ⟨rfl, rfl⟩
end Go.Proofs.YteknmgmdmjmnmaaGreatDoor



namespace Go.Proofs.YteknmgmdmjmnmaaGreatDoor
open Go.RowKit


theorem rktab_any (w : World) : Calls Tryz.prog 156 #[] w fun e w' => ∃ ad : Addr, e = .returned (.slice (some ad) 23 23) ∧ w.heap.size ≤ ad.block ∧ Lies w' w'.heap.size (some ad) (kflat kT) ∧ Below w.heap.size w w' :=
  (rktable_any w).mono fun e w' ⟨h1, h2⟩ => by
    subst h2
    exact ⟨_, h1, Nat.le_refl _, (Lies.newN w (kflat kT) 177).more (by simp), (Below.refl _ _).alloc (Nat.le_refl _) _⟩

set_option maxHeartbeats 2000000 in
theorem rkof_any (t : UInt8) (w : World) : Calls Tryz.prog 114 #[bv t] w fun e w' => e = .returned (kV (klook t)) ∧ Below w.heap.size w w' := by
  unfold klook
  have hT := rktab_any
  have hlen : kT.length = 23 := rfl
  have HS : Hid (∀ (k : Nat) (f : Kd), KNo (fun f => decide (f.ty = t)) kT k → kT[k]? = some f → decide (f.ty = t) = true → kT.find? (fun f => decide (f.ty = t)) = some f) := fun k f => kfind_some
  have HE : Hid (KNo (fun f => decide (f.ty = t)) kT 23 → kT.find? (fun f => decide (f.ty = t)) = none) := kfind_none (L := kT)
  generalize kT.find? (fun f => decide (f.ty = t)) = r at *
  generalize kT = L at *
  go_enter Tryz.func114, Tryz.ntmps114
  go_wp2_with fail
  refine (hT _).mono ?_
  rintro e w1 ⟨ad0, rfl, _, hl, b1⟩
  have hW1 := (Whole.new w 177 zkd).below b1 (by simp)
  have hb1 : Below w.heap.size w w1 := ((Below.refl _ w).alloc (Nat.le_refl _) _).trans (b1.mono (by simp))
  go_wp2_with fail
  go_loop [5] (fun i => ∃ k : Nat, k ≤ 23 ∧ i = .int .i64 k ∧ Hid (KNo (fun f => decide (f.ty = t)) L k)) (fun i => 23 - (intOf i).toNat)
  case atStart => exact ⟨0, by omega, rfl, KNo.zero _ _⟩
  case round =>
    obtain ⟨k, hk, rfl, hno⟩ := hrel
    by_cases hlt : k < 23
    · obtain ⟨ad, f, e', hb, hf, hcs, hc0, hc1⟩ := hl.kd (by omega : k < L.length)
      cases e'
      by_cases hft : f.ty = t
      · have HL := Lib.hid (HS.out k f hno.out hf.out (by simpa using hft))
        subst hft
        go_wp2_with (first | (refine wpList_load_kd rfl 177 _ rfl (ad0.add (k * 7)) rfl f hcs _ Tryz.underlying177 rfl (by kernel_rfl) ?_) | (refine wpList_store_kd rfl 177 _ _ rfl w.heap.size rfl rfl _ _ hW1 (by kernel_rfl) rfl ?_))
        (try simp only [Exit.inBlock, Exit.then])
        refine bodyPost_ret (results_row_tmp rfl _ _ w.heap.size 177 _ _ rfl (hW1.setRow _) Tryz.underlying177 rfl (by kernel_rfl)) rfl ?_
        exact ⟨by rw [HL.out]; rfl, below_setRow hb1 (Nat.le_refl _) _⟩
      · have HN := Lib.hid (hno.out.next hf.out (by simpa using hft))
        have hne : ((f.ty.toNat : Int) == (t.toNat : Int)) = false := by
          rw [beq_eq_false_iff_ne]
          exact fun h => hft (UInt8.toNat_inj.1 (by omega))
        clear hft
        go_wp2_with fail
        go_round
        case rel => exact ⟨k + 1, by omega, by go_num, HN⟩
        case measure => simp [intOf]; omega
    · obtain rfl : k = 23 := by omega
      have HL := Lib.hid (HE.out hno.out)
      go_wp2_with (first | (refine wpList_store_kd rfl 177 _ _ rfl w.heap.size rfl rfl _ _ hW1 (by kernel_rfl) rfl ?_))
      (try simp only [Exit.inBlock, Exit.then])
      refine bodyPost_ret (results_row_tmp rfl _ _ w.heap.size 177 _ _ rfl (hW1.setRow _) Tryz.underlying177 rfl (by kernel_rfl)) rfl ?_
      exact ⟨by rw [HL.out]; rfl, below_setRow hb1 (Nat.le_refl _) _⟩

/-! ### Fits of the reference -/
theorem kstep_fits {lo n k un : Int} (_hu : 0 < un) (h1 : (k - lo) % un = 0) (h2 : ¬ (lo ≤ n ∧ n < k ∧ (n - lo) % un = 0)) (hne : ¬ k = n) :
    (k + un - lo) % un = 0 ∧ ¬ (lo ≤ n ∧ n < k + un ∧ (n - lo) % un = 0) := by
  refine ⟨?_, fun ⟨a, b, c⟩ => ?_⟩
  · rw [show k + un - lo = (k - lo) + un by omega, Int.add_emod_right]
    exact h1
  · by_cases hk : n < k
    · exact h2 ⟨a, hk, c⟩
    · have hd : un ∣ (n - lo) - (k - lo) := Int.dvd_sub (Int.dvd_of_emod_eq_zero c) (Int.dvd_of_emod_eq_zero h1)
      have := Int.le_of_dvd (by omega) hd
      omega

set_option maxHeartbeats 1000000 in
theorem rkfits_any (f : Kd) (hf : KTame f) (n : Int) (w : World) : Calls Tryz.prog 115 #[f.val, .int .i64 n] w fun e w' => e = .returned (.bool (kfitsB f n)) ∧ Below w.heap.size w w' := by
  obtain ⟨⟨h1, h2⟩, ⟨h3, h4⟩, h5, h6⟩ := hf
  have hW := Whole.new w 177 #[bv f.ty, .string f.nm, bv f.ms, .int .i64 f.lo, .int .i64 f.hi, .int .i64 f.un, .int .i64 f.ki]
  have c3 := hW.cell 3
  have c4 := hW.cell 4
  have c5 := hW.cell 5
  have hb : Below w.heap.size w (w.alloc (.cells #[bv f.ty, .string f.nm, bv f.ms, .int .i64 f.lo, .int .i64 f.hi, .int .i64 f.un, .int .i64 f.ki] 177)) := (Below.refl _ _).alloc (Nat.le_refl _) _
  simp only [List.getElem?_toArray, List.getElem?_cons_zero, List.getElem?_cons_succ] at c3 c4 c5
  have hS : ∀ k : Int, (k - f.lo) % f.un = 0 → ¬ (f.lo ≤ n ∧ n < k ∧ (n - f.lo) % f.un = 0) → ¬ k = n → (k + f.un - f.lo) % f.un = 0 ∧ ¬ (f.lo ≤ n ∧ n < k + f.un ∧ (n - f.lo) % f.un = 0) := fun k => kstep_fits (by omega)
  have hY : ∀ k : Int, f.lo ≤ k → k ≤ f.hi → (k - f.lo) % f.un = 0 → kfitsB f k = true := fun k a b c => by
    unfold kfitsB
    rw [decide_eq_true a, decide_eq_true b, c]
    rfl
  have hN : ∀ k : Int, f.hi < k → ¬ (f.lo ≤ n ∧ n < k ∧ (n - f.lo) % f.un = 0) → kfitsB f n = false := fun k a b => by
    unfold kfitsB
    by_cases d1 : f.lo ≤ n
    · by_cases d2 : n ≤ f.hi
      · have d3 : ¬ (n - f.lo) % f.un = 0 := fun d3 => b ⟨d1, by omega, d3⟩
        simp [d3]
      · simp [d2]
    · simp [d1]
  unfold Kd.val
  have HS := Lib.hid hS
  have HY := Lib.hid hY
  have HNo := Lib.hid hN
  clear hS hY hN hW
  generalize hfB : kfitsB f n = b at *
  go_enter Tryz.func115, Tryz.ntmps115
  go_wp2_with fail
  generalize w.alloc (.cells #[bv f.ty, .string f.nm, bv f.ms, .int .i64 f.lo, .int .i64 f.hi, .int .i64 f.un, .int .i64 f.ki] 177) = w1 at *
  go_loop [5] (fun i => ∃ k : Int, i = .int .i64 k ∧ f.lo ≤ k ∧ k ≤ 65539 ∧ Hid ((k - f.lo) % f.un = 0) ∧ Hid (¬ (f.lo ≤ n ∧ n < k ∧ (n - f.lo) % f.un = 0))) (fun i => (65540 - intOf i).toNat)
  case atStart => exact ⟨f.lo, rfl, Int.le_refl _, by omega, by unfold Hid; simp, fun ⟨a, b, _⟩ => by omega⟩
  case round =>
    obtain ⟨k, rfl, hk1, hk2, hk3, hk4⟩ := hrel
    by_cases hle : k ≤ f.hi
    · by_cases hkn : k = n
      · have HB := Lib.hid (HY.out k hk1 hle hk3.out)
        rw [hkn, hfB] at HB
        go_wp2_with fail
        go_ret
        exact ⟨ret_bool HB.out.symm, hb⟩
      · have HT := Lib.hid (HS.out k hk3.out hk4.out hkn)
        go_wp2_with fail
        go_round
        case rel => exact ⟨k + f.un, by go_num, by omega, by omega, HT.out.1, HT.out.2⟩
        case measure => simp [intOf]; omega
    · have HB := Lib.hid (HNo.out k (by omega) hk4.out)
      go_wp2_with fail
      go_ret
      exact ⟨ret_bool HB.out.symm, hb⟩


end Go.Proofs.YteknmgmdmjmnmaaGreatDoor


