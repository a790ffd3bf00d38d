/- Layer 11: the forms of chunks as data; the tables that the program and the reference lay in new memory. No condition of its own. -/
import Derived.Test.YtcbheefmggajcaaChecked
import Derived.Test.YtcbheefmggajcaaShapeC
import Derived.Great.Walk
import Derived.Great.BuildSlice
import Derived.Laws.Tables





namespace Go.Proofs.Ytcbheefmggajcaa
open Go.RowKit

structure Kd where
  ty : UInt8
  nm : ByteArray
  ms : UInt8
  lo : Int
  hi : Int
  un : Int
  ki : Int

def Kd.cells (f : Kd) : List Value := [bv f.ty, .string f.nm, bv f.ms, .int .i64 f.lo, .int .i64 f.hi, .int .i64 f.un, .int .i64 f.ki]
def Kd.val (f : Kd) : Value := .agg #[bv f.ty, .string f.nm, bv f.ms, .int .i64 f.lo, .int .i64 f.hi, .int .i64 f.un, .int .i64 f.ki]
def kflat (L : List Kd) : List Value := L.flatMap Kd.cells

def kT : List Kd := [
  ⟨0, ⟨#[100, 97, 116, 97]⟩, 15, 13, 65531, 1, 0⟩,
  ⟨1, ⟨#[105, 110, 105, 116]⟩, 0, 16, 16, 1, 2⟩,
  ⟨2, ⟨#[105, 110, 105, 116, 45, 97, 99, 107]⟩, 0, 16, 16, 1, 2⟩,
  ⟨3, ⟨#[115, 97, 99, 107]⟩, 0, 12, 65531, 4, 0⟩,
  ⟨4, ⟨#[104, 101, 97, 114, 116, 98, 101, 97, 116]⟩, 0, 0, 0, 1, 1⟩,
  ⟨5, ⟨#[104, 101, 97, 114, 116, 98, 101, 97, 116, 45, 97, 99, 107]⟩, 0, 0, 0, 1, 1⟩,
  ⟨6, ⟨#[97, 98, 111, 114, 116]⟩, 1, 0, 0, 1, 3⟩,
  ⟨7, ⟨#[115, 104, 117, 116, 100, 111, 119, 110]⟩, 0, 4, 4, 1, 0⟩,
  ⟨8, ⟨#[115, 104, 117, 116, 100, 111, 119, 110, 45, 97, 99, 107]⟩, 0, 0, 0, 1, 0⟩,
  ⟨9, ⟨#[101, 114, 114, 111, 114]⟩, 0, 0, 0, 1, 4⟩,
  ⟨10, ⟨#[99, 111, 111, 107, 105, 101, 45, 101, 99, 104, 111]⟩, 0, 1, 65531, 1, 0⟩,
  ⟨11, ⟨#[99, 111, 111, 107, 105, 101, 45, 97, 99, 107]⟩, 0, 0, 0, 1, 0⟩,
  ⟨12, ⟨#[101, 99, 110, 101]⟩, 0, 4, 4, 1, 0⟩,
  ⟨13, ⟨#[99, 119, 114]⟩, 0, 4, 4, 1, 0⟩,
  ⟨14, ⟨#[115, 104, 117, 116, 100, 111, 119, 110, 45, 99, 111, 109, 112, 108, 101, 116, 101]⟩, 1, 0, 0, 1, 0⟩,
  ⟨15, ⟨#[97, 117, 116, 104]⟩, 0, 5, 65531, 1, 0⟩,
  ⟨64, ⟨#[105, 45, 100, 97, 116, 97]⟩, 15, 17, 65531, 1, 0⟩,
  ⟨128, ⟨#[97, 115, 99, 111, 110, 102, 45, 97, 99, 107]⟩, 0, 4, 4, 1, 2⟩,
  ⟨130, ⟨#[114, 101, 45, 99, 111, 110, 102, 105, 103]⟩, 0, 0, 0, 1, 5⟩,
  ⟨132, ⟨#[112, 97, 100]⟩, 0, 0, 65531, 1, 0⟩,
  ⟨192, ⟨#[102, 111, 114, 119, 97, 114, 100, 45, 116, 115, 110]⟩, 0, 4, 65531, 4, 0⟩,
  ⟨193, ⟨#[97, 115, 99, 111, 110, 102]⟩, 0, 4, 4, 1, 6⟩,
  ⟨194, ⟨#[105, 45, 102, 111, 114, 119, 97, 114, 100, 45, 116, 115, 110]⟩, 0, 4, 65531, 8, 0⟩]

theorem built_kd (ty : Int) (nm : ByteArray) (mk lo hi un ki : Int) :
    Try.prog.built 24 [(0, .int .u8 ty), (1, .string nm), (2, .int .u8 mk), (3, .int .i64 lo), (4, .int .i64 hi), (5, .int .i64 un), (6, .int .i64 ki)] = some #[.int .u8 ty, .string nm, .int .u8 mk, .int .i64 lo, .int .i64 hi, .int .i64 un, .int .i64 ki] := by kernel_rfl
theorem wpList_kd {ops : Array Oper} {rest : List Oper} {a : Act} {w : World} {Q : Exit → Act → World → Prop} {dst : Option Nat} {ot : TypeId} {pos : String} {after : Array Edge}
    {ty : Int} {nm : ByteArray} {mk lo hi un ki : Int}
    (h : wpList Try.prog ops Q rest (a.put dst (.agg #[.int .u8 ty, .string nm, .int .u8 mk, .int .i64 lo, .int .i64 hi, .int .i64 un, .int .i64 ki])) w) :
    wpList Try.prog ops Q (⟨dst, .build 24 #[(0, .const (.int .u8 ty)), (1, .const (.string nm)), (2, .const (.int .u8 mk)), (3, .const (.int .i64 lo)), (4, .const (.int .i64 hi)), (5, .const (.int .i64 un)), (6, .const (.int .i64 ki))], ot, pos, after, none⟩ :: rest) a w := by
  have hp : ((#[(0, .const (.int .u8 ty)), (1, .const (.string nm)), (2, .const (.int .u8 mk)), (3, .const (.int .i64 lo)), (4, .const (.int .i64 hi)), (5, .const (.int .i64 un)), (6, .const (.int .i64 ki))] : Array (Nat × Operand)).map fun (i, x) => (i, a.eval x)).toList =
      [(0, .int .u8 ty), (1, .string nm), (2, .int .u8 mk), (3, .int .i64 lo), (4, .int .i64 hi), (5, .int .i64 un), (6, .int .i64 ki)] := by
    simp only [List.map_toArray, List.map_cons, List.map_nil]
    rfl
  refine wpList_build rfl 24 _ rfl ?_ ?_
  · rw [hp, built_kd]; rfl
  · rw [hp, built_kd]; exact h

/-! ### a table in memory -/
theorem kflat_at (L : List Kd) : ∀ (k : Nat) (f : Kd), L[k]? = some f → ∀ (j : Nat) (u : Value), f.cells[j]? = some u → (kflat L)[k * 7 + j]? = some u := by
  induction L with
  | nil => intro k f h; simp at h
  | cons g L ih =>
    intro k f h j u hu
    have hg : g.cells.length = 7 := rfl
    match k, h with
    | 0, h =>
      simp only [List.getElem?_cons_zero, Option.some.injEq] at h
      subst h
      have hj : j < 7 := by rw [← hg]; exact (List.getElem?_eq_some_iff.1 hu).1
      rw [Nat.zero_mul, Nat.zero_add]
      show (g.cells ++ kflat L)[j]? = some u
      rw [List.getElem?_append_left (by omega)]
      exact hu
    | k + 1, h =>
      have := ih k f (by simpa using h) j u hu
      show (g.cells ++ kflat L)[(k + 1) * 7 + j]? = some u
      rw [List.getElem?_append_right (by omega), hg, show (k + 1) * 7 + j - 7 = k * 7 + j by omega]
      exact this
theorem kflat_cut (L : List Kd) : ∀ (k : Nat) (f : Kd), L[k]? = some f → ((kflat L).drop (k * 7)).take 7 = f.cells := by
  induction L with
  | nil => intro k f h; simp at h
  | cons g L ih =>
    intro k f h
    have hg : g.cells.length = 7 := rfl
    match k, h with
    | 0, h =>
      simp only [List.getElem?_cons_zero, Option.some.injEq] at h
      subst h
      show ((g.cells ++ kflat L).drop (0 * 7)).take 7 = g.cells
      rw [Nat.zero_mul, List.drop_zero, List.take_append_of_le_length (by omega), List.take_of_length_le (by omega)]
    | k + 1, h =>
      have := ih k f (by simpa using h)
      show ((g.cells ++ kflat L).drop ((k + 1) * 7)).take 7 = f.cells
      rw [List.drop_append, List.drop_eq_nil_of_le (by omega), List.nil_append, hg, show (k + 1) * 7 - 7 = k * 7 by omega]
      exact this
theorem Lies.kd {w : World} {B : Nat} {A : Option Addr} {L : List Kd} (h : Lies w B A (kflat L)) {k : Nat} (hk : k < L.length) :
    ∃ ad f, A = some ad ∧ ad.block < B ∧ Hid (L[k]? = some f) ∧ Hid (∀ (j : Nat) (u : Value), f.cells[j]? = some u → w.cell? ((ad.add (k * 7)).add j) = some u) ∧
      w.cell? (ad.add (k * 7)) = some (bv f.ty) ∧ w.cell? ⟨(ad.add (k * 7)).block, (ad.add (k * 7)).off + 1, none⟩ = some (.string f.nm) := by
  have hL : L[k]? = some L[k] := List.getElem?_eq_getElem hk
  have hf := kflat_at L k _ hL
  obtain ⟨ad, ha, hb, hc⟩ := h (fun e => by have := hf 0 _ rfl; rw [e] at this; simp at this)
  have h3 : ∀ (j : Nat) (u : Value), (L[k]).cells[j]? = some u → w.cell? ((ad.add (k * 7)).add j) = some u := fun j u hu => by
    rw [add_add']; exact hc _ _ (hf j u hu)
  have h0 := h3 0 _ rfl
  have h1 := h3 1 _ rfl
  exact ⟨ad, L[k], ha, hb, hL, h3, h0, h1⟩

/-! ### operations on whole structs -/
section
variable {P : Program}
theorem wpList_load_kd {ops : Array Oper} {rest : List Oper} {o : Oper} {a : Act} {w : World} {Q : Exit → Act → World → Prop} (hgd : o.guard = none) (T : TypeId) (x : Operand) (ho : o.op = .load T x)
    (ad : Addr) (hx : a.eval x = .pointer (some ad)) (f : Kd) (hc : Hid (∀ (j : Nat) (u : Value), f.cells[j]? = some u → w.cell? (ad.add j) = some u)) (d : TypeDesc)
    (hu : P.underlying T = some d) (hd : (match d with | .struct _ | .array _ _ => true | _ => false) = true) (hi : (P.info? T).map (·.size) = some 7)
    (h : wpList P ops Q rest (a.put o.dst (.agg #[bv f.ty, .string f.nm, bv f.ms, .int .i64 f.lo, .int .i64 f.hi, .int .i64 f.un, .int .i64 f.ki])) w) : wpList P ops Q (o :: rest) a w :=
  wpList_load_lies hgd T x ho ad hx f.cells hc.out d hu hd hi h
theorem wpList_store_kd {ops : Array Oper} {rest : List Oper} {o : Oper} {a : Act} {w : World} {Q : Exit → Act → World → Prop} (hgd : o.guard = none) (T : TypeId) (x y : Operand) (ho : o.op = .store T x y)
    (g : Nat) (hx : a.eval x = .pointer (some ⟨g, 0, none⟩)) {ty mk : Int} {nm : ByteArray} {lo hi un ki : Int} (hy : a.eval y = .agg #[.int .u8 ty, .string nm, .int .u8 mk, .int .i64 lo, .int .i64 hi, .int .i64 un, .int .i64 ki])
    (t : TypeId) (old : Array Value) (hg : w.heap[g]? = some (.cells old t (0, 0))) (hi7 : (P.info? T).map (·.size) = some 7) (hold : old.size = 7)
    (h : wpList P ops Q rest (a.put o.dst undef) (w.setRow g #[.int .u8 ty, .string nm, .int .u8 mk, .int .i64 lo, .int .i64 hi, .int .i64 un, .int .i64 ki])) : wpList P ops Q (o :: rest) a w :=
  wpList_store_row hgd T x y ho g _ hx hy t old hg hi7 hold (by simp [Value.oneCell']) h
theorem wpList_new_kd {ops : Array Oper} {rest : List Oper} {o : Oper} {a : Act} {w : World} {Q : Exit → Act → World → Prop} (hgd : o.guard = none) (T : TypeId) (x y : Operand) (ho : o.op = .store T x y)
    (w0 : World) (old : Array Value) (t : TypeId) (hw : w = w0.alloc (.cells old t)) (hx : a.eval x = .pointer (some ⟨w0.heap.size, 0, none⟩)) {ty mk : Int} {nm : ByteArray} {lo hi un ki : Int} (hy : a.eval y = .agg #[.int .u8 ty, .string nm, .int .u8 mk, .int .i64 lo, .int .i64 hi, .int .i64 un, .int .i64 ki])
    (hi7 : (P.info? T).map (·.size) = some 7) (hold : old.size = 7)
    (h : wpList P ops Q rest (a.put o.dst undef) (w0.alloc (.cells #[.int .u8 ty, .string nm, .int .u8 mk, .int .i64 lo, .int .i64 hi, .int .i64 un, .int .i64 ki] t))) : wpList P ops Q (o :: rest) a w :=
  wpList_store_new hgd T x y ho w0 old t hw _ hx hy hi7 hold (by simp [Value.oneCell']) h
theorem wpList_index_kd {ops : Array Oper} {rest : List Oper} {o : Oper} {a : Act} {w : World} {Q : Exit → Act → World → Prop} (hgd : o.guard = none) (T E : TypeId) (x y : Operand) (ho : o.op = .index T x y)
    (L : List Kd) (k : Nat) (f : Kd) (hx : a.eval x = .agg (kflat L).toArray) (hy : a.eval y = .int .i64 k) (hk : L[k]? = some f)
    (hu : P.underlying T = some (.array L.length E)) (d : TypeDesc) (hE : P.underlying E = some d) (hd : (match d with | .struct _ | .array _ _ => true | _ => false) = true) (hi : (P.info? E).map (·.size) = some 7)
    (h : wpList P ops Q rest (a.put o.dst (.agg #[bv f.ty, .string f.nm, bv f.ms, .int .i64 f.lo, .int .i64 f.hi, .int .i64 f.un, .int .i64 f.ki])) w) : wpList P ops Q (o :: rest) a w := by
  refine wpList_plain hgd fun _ hK => ?_
  have hlt : k < L.length := (List.getElem?_eq_some_iff.1 hk).1
  have hr : (Instr.index T (.agg (kflat L).toArray) (.int .i64 k)).run P w = .ok (.agg f.cells.toArray) w := by
    cases hq : P.info? E with
    | none => simp [hq] at hi
    | some i =>
      have hs : i.size = 7 := by simpa [hq] using hi
      have hagg : (isAgg E).run P w = .ok true w := by
        unfold isAgg
        rw [Sem.run_bind, run_underlying hE w]
        cases d <;> simp_all
      have hcut := kflat_cut L k f hk
      simp [Instr.index, asIntOf, Sem.run_bind, run_underlying hu w, part, hagg, sizeOf, typeInfo, hq, hs, hlt, hcut]
  unfold Oper.wp execOp
  simp only [ho, hx, hy, Sem.run_bind, hr, Result.andThen_ok]
  exact hK _ _ h
end

def kzero : Array Value := (kflat (List.replicate 23 ⟨0, ByteArray.empty, 0, 0, 0, 0, 0⟩)).toArray
set_option maxRecDepth 100000 in
set_option maxHeartbeats 4000000 in
theorem ktable_any (w : World) : Calls Try.prog 25 #[] w fun e w' => e = .returned (.agg (kflat kT).toArray) ∧ Below w.heap.size w w' := by
  obtain ⟨cs, hcs⟩ : ∃ cs, Hid (cs = (kflat kT).toArray) := ⟨_, rfl⟩
  go_enter Try.func25, Try.ntmps25
  have hW := Whole.new w 49 kzero
  go_wp2_with (first | (refine Go.Great.wpList_allocTo rfl (some 0) rfl (.pointer (some ⟨w.heap.size, 0, none⟩)) (.cells kzero 49) (by kernel_rfl) ?_) | (refine wpList_kd ?_) | (with_reducible show wpList _ _ _ (⟨some 24, _, _, _, _, _⟩ :: _) _ _; refine wpList_buildTo rfl 49 _ rfl (some 24) rfl cs (by rw [hcs.out]; kernel_rfl) ?_; refine wpList_store_rowTo rfl 49 _ _ rfl rfl w.heap.size cs (by kernel_rfl) (by kernel_rfl) 49 kzero (heap_alloc_new w _) (by rw [hcs.out]; kernel_rfl) (by rw [hcs.out]; kernel_rfl) (by rw [hcs.out]; kernel_rfl) ?_))
  (try simp only [Exit.inBlock, Exit.then])
  refine bodyPost_ret (results_cell_row rfl _ _ w.heap.size 49 _ (0, 0) _ (by kernel_rfl) (hW.setRow _) Try.underlying49 rfl (by rw [hcs.out]; kernel_rfl)) (by kernel_rfl) ?_
  exact ⟨by rw [hcs.out], below_setRow ((Below.refl _ w).alloc (Nat.le_refl _) _) (Nat.le_refl _) _⟩

theorem built_rkd (ty : Int) (nm : ByteArray) (mk lo hi un ki : Int) :
    Try.prog.built 27 [(0, .int .u8 ty), (1, .string nm), (2, .int .u8 mk), (3, .int .i64 lo), (4, .int .i64 hi), (5, .int .i64 un), (6, .int .i64 ki)] = some #[.int .u8 ty, .string nm, .int .u8 mk, .int .i64 lo, .int .i64 hi, .int .i64 un, .int .i64 ki] := by kernel_rfl
theorem wpList_rkd {ops : Array Oper} {rest : List Oper} {a : Act} {w : World} {Q : Exit → Act → World → Prop} {dst : Option Nat} {ot : TypeId} {pos : String} {after : Array Edge}
    {ty : Int} {nm : ByteArray} {mk lo hi un ki : Int} {x : Operand} (hx : a.eval x = .int .i64 hi)
    (h : wpList Try.prog ops Q rest (a.put dst (.agg #[.int .u8 ty, .string nm, .int .u8 mk, .int .i64 lo, .int .i64 hi, .int .i64 un, .int .i64 ki])) w) :
    wpList Try.prog ops Q (⟨dst, .build 27 #[(0, .const (.int .u8 ty)), (1, .const (.string nm)), (2, .const (.int .u8 mk)), (3, .const (.int .i64 lo)), (4, x), (5, .const (.int .i64 un)), (6, .const (.int .i64 ki))], ot, pos, after, none⟩ :: rest) a w := by
  have hp : ((#[(0, .const (.int .u8 ty)), (1, .const (.string nm)), (2, .const (.int .u8 mk)), (3, .const (.int .i64 lo)), (4, x), (5, .const (.int .i64 un)), (6, .const (.int .i64 ki))] : Array (Nat × Operand)).map fun (i, x) => (i, a.eval x)).toList =
      [(0, .int .u8 ty), (1, .string nm), (2, .int .u8 mk), (3, .int .i64 lo), (4, .int .i64 hi), (5, .int .i64 un), (6, .int .i64 ki)] := by
    simp only [List.map_toArray, List.map_cons, List.map_nil, hx]
    rfl
  refine wpList_build rfl 27 _ rfl ?_ ?_
  · rw [hp, built_rkd]; rfl
  · rw [hp, built_rkd]; exact h

set_option maxRecDepth 100000 in
set_option maxHeartbeats 4000000 in
theorem rktable_any (w : World) : Calls Try.prog 14 #[] w fun e w' => e = .returned (.slice (some ⟨w.heap.size, 0, none⟩) 23 23) ∧ w' = w.alloc (.cells (kflat kT).toArray 27) := by
  go_enter Try.func14, Try.ntmps14
  go_wp2_with (first | (refine wpList_rkd rfl ?_) | (refine Go.Great.wpList_buildSliceTo rfl 32 27 23 _ rfl w.heap.size rfl _ rfl Try.underlying32 (kflat kT).toArray (by kernel_rfl) ?_))
  go_ret
  exact ⟨rfl, rfl⟩
end Go.Proofs.Ytcbheefmggajcaa

