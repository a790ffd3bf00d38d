/- Layer 7: the forms as data; the tables that the program and the reference lay in new memory. No condition of its own. -/
/- Layer 7: the tables that the program and the reference lay in new memory. No condition of its own. -/
/- Layer 7, package shape: the table of a class, the place of a type in it, Of. They write nothing that was there. -/
/- Layer 7, package shape: Fits, Inside. They write nothing that was there. -/
import Derived.Test.YteknmgmdmjmnmaaGreatDoorChecked
import Derived.Test.YteknmgmdmjmnmaaGreatDoorUA
import Derived.Great.Walk
import Derived.Laws.Tables
import Derived.Laws.ResultCell
import Derived.Laws.CopyOwn




namespace Go.Proofs.YteknmgmdmjmnmaaGreatDoor
open Go.RowKit

structure Form where
  cl : Int
  ty : UInt16
  nm : ByteArray
  lo : Int
  hi : Int
  un : Int
  ki : Int

def Form.cells (f : Form) : List Value := [.int .i64 f.cl, hv f.ty, .string f.nm, .int .i64 f.lo, .int .i64 f.hi, .int .i64 f.un, .int .i64 f.ki]
def Form.val (f : Form) : Value := .agg #[.int .i64 f.cl, hv f.ty, .string f.nm, .int .i64 f.lo, .int .i64 f.hi, .int .i64 f.un, .int .i64 f.ki]
def flat (L : List Form) : List Value := L.flatMap Form.cells

def pT : List Form := [
  ⟨1, 1, ⟨#[104, 101, 97, 114, 116, 98, 101, 97, 116, 45, 105, 110, 102, 111]⟩, 0, 65531, 1, 0⟩,
  ⟨1, 5, ⟨#[105, 112, 118, 52]⟩, 4, 4, 1, 0⟩,
  ⟨1, 6, ⟨#[105, 112, 118, 54]⟩, 16, 16, 1, 0⟩,
  ⟨1, 7, ⟨#[115, 116, 97, 116, 101, 45, 99, 111, 111, 107, 105, 101]⟩, 0, 65531, 1, 0⟩,
  ⟨1, 8, ⟨#[117, 110, 114, 101, 99, 111, 103, 110, 105, 122, 101, 100]⟩, 0, 0, 1, 1⟩,
  ⟨1, 9, ⟨#[99, 111, 111, 107, 105, 101, 45, 112, 114, 101, 115, 101, 114, 118, 97, 116, 105, 118, 101]⟩, 4, 4, 1, 0⟩,
  ⟨1, 11, ⟨#[104, 111, 115, 116, 45, 110, 97, 109, 101]⟩, 1, 65531, 1, 0⟩,
  ⟨1, 12, ⟨#[97, 100, 100, 114, 101, 115, 115, 45, 116, 121, 112, 101, 115]⟩, 2, 65531, 2, 0⟩,
  ⟨1, 13, ⟨#[111, 117, 116, 103, 111, 105, 110, 103, 45, 114, 101, 115, 101, 116]⟩, 12, 65531, 2, 0⟩,
  ⟨1, 14, ⟨#[105, 110, 99, 111, 109, 105, 110, 103, 45, 114, 101, 115, 101, 116]⟩, 4, 65531, 2, 0⟩,
  ⟨1, 15, ⟨#[116, 115, 110, 45, 114, 101, 115, 101, 116]⟩, 4, 4, 1, 0⟩,
  ⟨1, 16, ⟨#[114, 101, 99, 111, 110, 102, 105, 103, 45, 114, 101, 115, 112, 111, 110, 115, 101]⟩, 8, 16, 8, 0⟩,
  ⟨1, 17, ⟨#[97, 100, 100, 45, 111, 117, 116, 103, 111, 105, 110, 103]⟩, 8, 8, 1, 0⟩,
  ⟨1, 18, ⟨#[97, 100, 100, 45, 105, 110, 99, 111, 109, 105, 110, 103]⟩, 8, 8, 1, 0⟩,
  ⟨1, 32768, ⟨#[101, 99, 110]⟩, 0, 0, 1, 0⟩,
  ⟨1, 32770, ⟨#[114, 97, 110, 100, 111, 109]⟩, 1, 65531, 1, 0⟩,
  ⟨1, 32771, ⟨#[99, 104, 117, 110, 107, 45, 108, 105, 115, 116]⟩, 0, 65531, 1, 0⟩,
  ⟨1, 32772, ⟨#[104, 109, 97, 99, 45, 97, 108, 103, 111, 114, 105, 116, 104, 109, 115]⟩, 2, 65531, 2, 0⟩,
  ⟨1, 32773, ⟨#[112, 97, 100, 100, 105, 110, 103]⟩, 0, 65531, 1, 0⟩,
  ⟨1, 32776, ⟨#[101, 120, 116, 101, 110, 115, 105, 111, 110, 115]⟩, 0, 65531, 1, 0⟩,
  ⟨1, 49152, ⟨#[102, 111, 114, 119, 97, 114, 100, 45, 116, 115, 110]⟩, 0, 0, 1, 0⟩,
  ⟨1, 49153, ⟨#[97, 100, 100, 45, 105, 112]⟩, 4, 4, 1, 4⟩,
  ⟨1, 49154, ⟨#[100, 101, 108, 101, 116, 101, 45, 105, 112]⟩, 4, 4, 1, 4⟩,
  ⟨1, 49155, ⟨#[101, 114, 114, 111, 114, 45, 105, 110, 100, 105, 99, 97, 116, 105, 111, 110]⟩, 4, 4, 1, 3⟩,
  ⟨1, 49156, ⟨#[115, 101, 116, 45, 112, 114, 105, 109, 97, 114, 121]⟩, 4, 4, 1, 4⟩,
  ⟨1, 49157, ⟨#[115, 117, 99, 99, 101, 115, 115]⟩, 4, 4, 1, 0⟩,
  ⟨1, 49158, ⟨#[97, 100, 97, 112, 116, 97, 116, 105, 111, 110]⟩, 4, 4, 1, 0⟩]
def cT : List Form := [
  ⟨2, 1, ⟨#[105, 110, 118, 97, 108, 105, 100, 45, 115, 116, 114, 101, 97, 109]⟩, 4, 4, 1, 0⟩,
  ⟨2, 2, ⟨#[109, 105, 115, 115, 105, 110, 103, 45, 112, 97, 114, 97, 109, 101, 116, 101, 114]⟩, 6, 65531, 2, 0⟩,
  ⟨2, 3, ⟨#[115, 116, 97, 108, 101, 45, 99, 111, 111, 107, 105, 101]⟩, 4, 4, 1, 0⟩,
  ⟨2, 4, ⟨#[111, 117, 116, 45, 111, 102, 45, 114, 101, 115, 111, 117, 114, 99, 101]⟩, 0, 0, 1, 0⟩,
  ⟨2, 5, ⟨#[117, 110, 114, 101, 115, 111, 108, 118, 97, 98, 108, 101, 45, 97, 100, 100, 114, 101, 115, 115]⟩, 0, 0, 1, 1⟩,
  ⟨2, 6, ⟨#[117, 110, 114, 101, 99, 111, 103, 110, 105, 122, 101, 100, 45, 99, 104, 117, 110, 107]⟩, 4, 65531, 1, 0⟩,
  ⟨2, 7, ⟨#[105, 110, 118, 97, 108, 105, 100, 45, 112, 97, 114, 97, 109, 101, 116, 101, 114]⟩, 0, 0, 1, 0⟩,
  ⟨2, 8, ⟨#[117, 110, 114, 101, 99, 111, 103, 110, 105, 122, 101, 100, 45, 112, 97, 114, 97, 109, 101, 116, 101, 114, 115]⟩, 0, 0, 1, 2⟩,
  ⟨2, 9, ⟨#[110, 111, 45, 117, 115, 101, 114, 45, 100, 97, 116, 97]⟩, 4, 4, 1, 0⟩,
  ⟨2, 10, ⟨#[99, 111, 111, 107, 105, 101, 45, 119, 104, 105, 108, 101, 45, 115, 104, 117, 116, 116, 105, 110, 103, 45, 100, 111, 119, 110]⟩, 0, 0, 1, 0⟩,
  ⟨2, 11, ⟨#[114, 101, 115, 116, 97, 114, 116]⟩, 0, 0, 1, 2⟩,
  ⟨2, 12, ⟨#[117, 115, 101, 114, 45, 97, 98, 111, 114, 116]⟩, 0, 65531, 1, 0⟩,
  ⟨2, 13, ⟨#[112, 114, 111, 116, 111, 99, 111, 108, 45, 118, 105, 111, 108, 97, 116, 105, 111, 110]⟩, 0, 65531, 1, 0⟩,
  ⟨2, 160, ⟨#[100, 101, 108, 101, 116, 101, 45, 108, 97, 115, 116, 45, 97, 100, 100, 114, 101, 115, 115]⟩, 0, 0, 1, 1⟩,
  ⟨2, 161, ⟨#[114, 101, 115, 111, 117, 114, 99, 101, 45, 115, 104, 111, 114, 116, 97, 103, 101]⟩, 0, 65531, 1, 0⟩,
  ⟨2, 162, ⟨#[100, 101, 108, 101, 116, 101, 45, 115, 111, 117, 114, 99, 101, 45, 97, 100, 100, 114, 101, 115, 115]⟩, 0, 0, 1, 1⟩,
  ⟨2, 163, ⟨#[105, 108, 108, 101, 103, 97, 108, 45, 97, 115, 99, 111, 110, 102, 45, 97, 99, 107]⟩, 0, 65531, 1, 0⟩,
  ⟨2, 164, ⟨#[110, 111, 45, 97, 117, 116, 104, 111, 114, 105, 122, 97, 116, 105, 111, 110]⟩, 0, 65531, 1, 0⟩,
  ⟨2, 261, ⟨#[117, 110, 115, 117, 112, 112, 111, 114, 116, 101, 100, 45, 104, 109, 97, 99]⟩, 2, 2, 1, 0⟩]

theorem built_form (c : Int) (ty : Int) (nm : ByteArray) (lo hi un ki : Int) :
    Tryz.prog.built 202 [(0, .int .i64 c), (1, .int .u16 ty), (2, .string nm), (3, .int .i64 lo), (4, .int .i64 hi), (5, .int .i64 un), (6, .int .i64 ki)] = some #[.int .i64 c, .int .u16 ty, .string nm, .int .i64 lo, .int .i64 hi, .int .i64 un, .int .i64 ki] := by kernel_rfl
theorem wpList_form {ops : Array Oper} {rest : List Oper} {a : Act} {w : World} {Q : Exit → Act → World → Prop} {dst : Option Nat} {ot : TypeId} {pos : String} {after : Array Edge}
    {c ty : Int} {nm : ByteArray} {lo hi un ki : Int} {x : Operand} (hx : a.eval x = .int .i64 hi)
    (h : wpList Tryz.prog ops Q rest (a.put dst (.agg #[.int .i64 c, .int .u16 ty, .string nm, .int .i64 lo, .int .i64 hi, .int .i64 un, .int .i64 ki])) w) :
    wpList Tryz.prog ops Q (⟨dst, .build 202 #[(0, .const (.int .i64 c)), (1, .const (.int .u16 ty)), (2, .const (.string nm)), (3, .const (.int .i64 lo)), (4, x), (5, .const (.int .i64 un)), (6, .const (.int .i64 ki))], ot, pos, after, none⟩ :: rest) a w := by
  have hp : ((#[(0, .const (.int .i64 c)), (1, .const (.int .u16 ty)), (2, .const (.string nm)), (3, .const (.int .i64 lo)), (4, x), (5, .const (.int .i64 un)), (6, .const (.int .i64 ki))] : Array (Nat × Operand)).map fun (i, x) => (i, a.eval x)).toList =
      [(0, .int .i64 c), (1, .int .u16 ty), (2, .string nm), (3, .int .i64 lo), (4, .int .i64 hi), (5, .int .i64 un), (6, .int .i64 ki)] := by
    simp only [List.map_toArray, List.map_cons, List.map_nil, hx]
    rfl
  refine wpList_build rfl 202 _ rfl ?_ ?_
  · rw [hp, built_form]; rfl
  · rw [hp, built_form]; exact h

/-! ### a table in memory -/
theorem flat_at (L : List Form) : ∀ (k : Nat) (f : Form), L[k]? = some f → ∀ (j : Nat) (u : Value), f.cells[j]? = some u → (flat L)[k * 7 + j]? = some u := by
  induction L with
  | nil => intro k f h; simp at h
  | cons g L ih =>
    intro k f h j u hu
    have hg : g.cells.length = 7 := rfl
    match k, h with
    | 0, h =>
      simp only [List.getElem?_cons_zero, Option.some.injEq] at h
      subst h
      have hj : j < 7 := by rw [← hg]; exact (List.getElem?_eq_some_iff.1 hu).1
      rw [Nat.zero_mul, Nat.zero_add]
      show (g.cells ++ flat L)[j]? = some u
      rw [List.getElem?_append_left (by omega)]
      exact hu
    | k + 1, h =>
      have := ih k f (by simpa using h) j u hu
      show (g.cells ++ flat L)[(k + 1) * 7 + j]? = some u
      rw [List.getElem?_append_right (by omega), hg, show (k + 1) * 7 + j - 7 = k * 7 + j by omega]
      exact this
theorem Lies.form {w : World} {B : Nat} {A : Option Addr} {L : List Form} (h : Lies w B A (flat L)) {k : Nat} (hk : k < L.length) :
    ∃ ad f, A = some ad ∧ ad.block < B ∧ Hid (L[k]? = some f) ∧ Hid (∀ (j : Nat) (u : Value), f.cells[j]? = some u → w.cell? ((ad.add (k * 7)).add j) = some u) ∧
      w.cell? (ad.add (k * 7)) = some (.int .i64 f.cl) ∧ w.cell? ⟨(ad.add (k * 7)).block, (ad.add (k * 7)).off + 1, none⟩ = some (hv f.ty) ∧ w.cell? ⟨(ad.add (k * 7)).block, (ad.add (k * 7)).off + 2, none⟩ = some (.string f.nm) := by
  have hL : L[k]? = some L[k] := List.getElem?_eq_getElem hk
  have hf := flat_at L k _ hL
  obtain ⟨ad, ha, hb, hc⟩ := h (fun e => by have := hf 0 _ rfl; rw [e] at this; simp at this)
  have h3 : ∀ (j : Nat) (u : Value), (L[k]).cells[j]? = some u → w.cell? ((ad.add (k * 7)).add j) = some u := fun j u hu => by
    rw [add_add']; exact hc _ _ (hf j u hu)
  have h0 := h3 0 _ rfl
  have h1 := h3 1 _ rfl
  have h2 := h3 2 _ rfl
  exact ⟨ad, L[k], ha, hb, hL, h3, h0, h1, h2⟩

/-! ### operations on whole structs -/
section
variable {P : Program}
theorem wpList_load_lies {ops : Array Oper} {rest : List Oper} {o : Oper} {a : Act} {w : World} {Q : Exit → Act → World → Prop} (hgd : o.guard = none) (ty : TypeId) (x : Operand) (ho : o.op = .load ty x)
    (ad : Addr) (hx : a.eval x = .pointer (some ad)) (cs : List Value) (hc : ∀ (j : Nat) (u : Value), cs[j]? = some u → w.cell? (ad.add j) = some u) (d : TypeDesc)
    (hu : P.underlying ty = some d) (hd : (match d with | .struct _ | .array _ _ => true | _ => false) = true) (hi : (P.info? ty).map (·.size) = some cs.length)
    (h : wpList P ops Q rest (a.put o.dst (.agg cs.toArray)) w) : wpList P ops Q (o :: rest) a w := by
  refine wpList_plain hgd fun _ hK => ?_
  have hl : (loadCells ad cs.length).run P w = .ok cs.toArray w := run_loadCells_list (P := P) w ad cs hc
  have hr : (loadVar ty ad).run P w = .ok (.agg cs.toArray) w := by
    cases hq : P.info? ty with
    | none => simp [hq] at hi
    | some i =>
      have hs : i.size = cs.length := by simpa [hq] using hi
      have hagg : (isAgg ty).run P w = .ok true w := by
        unfold isAgg
        rw [Sem.run_bind, run_underlying hu w]
        cases d <;> simp_all
      simp [loadVar, Sem.run_bind, hagg, sizeOf, typeInfo, hq, hs, hl]
  unfold Oper.wp execOp
  simp only [ho, hx, Instr.loadAt, Instr.sureAddr, Sem.run_bind, Sem.run_pure, Result.andThen_ok, hr]
  exact hK _ _ h
theorem setRow_alloc (w : World) (old cs : Array Value) (t : TypeId) : (w.alloc (.cells old t)).setRow w.heap.size cs = w.alloc (.cells cs t) := by
  have h : ((w.alloc (.cells old t)).heap).modify w.heap.size (fun | .cells _ elem frozen => .cells cs elem frozen | o => o) = (w.alloc (.cells cs t)).heap := by
    show (w.heap.push _).modify _ _ = w.heap.push _
    apply Array.ext_getElem?
    intro i
    rw [Array.getElem?_modify, Array.getElem?_push, Array.getElem?_push]
    by_cases hi : i = w.heap.size
    · simp [hi]
    · simp [hi, Ne.symm hi]
  exact congrArg (fun h => ({ w with heap := h } : World)) h
theorem wpList_store_new {ops : Array Oper} {rest : List Oper} {o : Oper} {a : Act} {w : World} {Q : Exit → Act → World → Prop} (hgd : o.guard = none) (ty : TypeId) (x y : Operand) (ho : o.op = .store ty x y)
    (w0 : World) (old : Array Value) (t : TypeId) (hw : w = w0.alloc (.cells old t)) (cells : Array Value) (hx : a.eval x = .pointer (some ⟨w0.heap.size, 0, none⟩)) (hy : a.eval y = .agg cells)
    (hi : (P.info? ty).map (·.size) = some cells.size)
    (hold : old.size = cells.size) (h1 : cells.all (·.oneCell') = true)
    (h : wpList P ops Q rest (a.put o.dst undef) (w0.alloc (.cells cells t))) : wpList P ops Q (o :: rest) a w := by
  subst hw
  refine wpList_store_row hgd ty x y ho w0.heap.size cells hx hy t old (heap_alloc_new w0 _) hi hold h1 ?_
  rw [setRow_alloc]
  exact h
theorem wpList_load_form {ops : Array Oper} {rest : List Oper} {o : Oper} {a : Act} {w : World} {Q : Exit → Act → World → Prop} (hgd : o.guard = none) (T : TypeId) (x : Operand) (ho : o.op = .load T x)
    (ad : Addr) (hx : a.eval x = .pointer (some ad)) (f : Form) (hc : Hid (∀ (j : Nat) (u : Value), f.cells[j]? = some u → w.cell? (ad.add j) = some u)) (d : TypeDesc)
    (hu : P.underlying T = some d) (hd : (match d with | .struct _ | .array _ _ => true | _ => false) = true) (hi : (P.info? T).map (·.size) = some 7)
    (h : wpList P ops Q rest (a.put o.dst (.agg #[.int .i64 f.cl, hv f.ty, .string f.nm, .int .i64 f.lo, .int .i64 f.hi, .int .i64 f.un, .int .i64 f.ki])) w) : wpList P ops Q (o :: rest) a w :=
  wpList_load_lies hgd T x ho ad hx f.cells hc.out d hu hd hi h
theorem wpList_store_form {ops : Array Oper} {rest : List Oper} {o : Oper} {a : Act} {w : World} {Q : Exit → Act → World → Prop} (hgd : o.guard = none) (T : TypeId) (x y : Operand) (ho : o.op = .store T x y)
    (g : Nat) (hx : a.eval x = .pointer (some ⟨g, 0, none⟩)) {c ty : Int} {nm : ByteArray} {lo hi un ki : Int} (hy : a.eval y = .agg #[.int .i64 c, .int .u16 ty, .string nm, .int .i64 lo, .int .i64 hi, .int .i64 un, .int .i64 ki])
    (t : TypeId) (old : Array Value) (hg : w.heap[g]? = some (.cells old t (0, 0))) (hi7 : (P.info? T).map (·.size) = some 7) (hold : old.size = 7)
    (h : wpList P ops Q rest (a.put o.dst undef) (w.setRow g #[.int .i64 c, .int .u16 ty, .string nm, .int .i64 lo, .int .i64 hi, .int .i64 un, .int .i64 ki])) : wpList P ops Q (o :: rest) a w :=
  wpList_store_row hgd T x y ho g _ hx hy t old hg hi7 hold (by simp [Value.oneCell']) h
theorem wpList_new_form {ops : Array Oper} {rest : List Oper} {o : Oper} {a : Act} {w : World} {Q : Exit → Act → World → Prop} (hgd : o.guard = none) (T : TypeId) (x y : Operand) (ho : o.op = .store T x y)
    (w0 : World) (old : Array Value) (t : TypeId) (hw : w = w0.alloc (.cells old t)) (hx : a.eval x = .pointer (some ⟨w0.heap.size, 0, none⟩)) {c ty : Int} {nm : ByteArray} {lo hi un ki : Int} (hy : a.eval y = .agg #[.int .i64 c, .int .u16 ty, .string nm, .int .i64 lo, .int .i64 hi, .int .i64 un, .int .i64 ki])
    (hi7 : (P.info? T).map (·.size) = some 7) (hold : old.size = 7)
    (h : wpList P ops Q rest (a.put o.dst undef) (w0.alloc (.cells #[.int .i64 c, .int .u16 ty, .string nm, .int .i64 lo, .int .i64 hi, .int .i64 un, .int .i64 ki] t))) : wpList P ops Q (o :: rest) a w :=
  wpList_store_new hgd T x y ho w0 old t hw _ hx hy hi7 hold (by simp [Value.oneCell']) h
end
end Go.Proofs.YteknmgmdmjmnmaaGreatDoor



namespace Go.Proofs.YteknmgmdmjmnmaaGreatDoor
open Go.RowKit

set_option maxRecDepth 100000 in
set_option maxHeartbeats 4000000 in
theorem causes_any (w : World) : Calls Tryz.prog 214 #[] w fun e w' => e = .returned (.slice (some ⟨w.heap.size, 0, none⟩) 19 19) ∧ w' = w.alloc (.cells (flat cT).toArray 202) := by
  go_enter Tryz.func214, Tryz.ntmps214
  go_wp2_with (first | (refine wpList_form rfl ?_) | (refine Go.Great.wpList_buildSliceTo rfl 245 202 19 _ rfl w.heap.size rfl _ rfl Tryz.underlying245 (flat cT).toArray (by kernel_rfl) ?_))
  go_ret
  exact ⟨rfl, rfl⟩
set_option maxRecDepth 100000 in
set_option maxHeartbeats 4000000 in
theorem params_any (w : World) : Calls Tryz.prog 213 #[] w fun e w' => e = .returned (.slice (some ⟨w.heap.size, 0, none⟩) 27 27) ∧ w' = w.alloc (.cells (flat pT).toArray 202) := by
  go_enter Tryz.func213, Tryz.ntmps213
  go_wp2_with (first | (refine wpList_form rfl ?_) | (refine Go.Great.wpList_buildSliceTo rfl 245 202 27 _ rfl w.heap.size rfl _ rfl Tryz.underlying245 (flat pT).toArray (by kernel_rfl) ?_))
  go_ret
  exact ⟨rfl, rfl⟩
end Go.Proofs.YteknmgmdmjmnmaaGreatDoor





namespace Go.Proofs.YteknmgmdmjmnmaaGreatDoor
open Go.RowKit

/-- the forms of a class -/
def tab (c : Int) : List Form := if c = 1 then pT else if c = 2 then cT else []
theorem tab_len (c : Int) : (tab c).length ≤ 27 := by
  unfold tab
  split
  · exact Nat.le_refl _
  · split
    · decide
    · exact Nat.zero_le _

theorem table_any (c : Int) (w : World) : Calls Tryz.prog 186 #[.int .i64 c] w fun e w' => ∃ A, e = .returned (.slice A (tab c).length (tab c).length) ∧ Lies w' w'.heap.size A (flat (tab c)) ∧ Below w.heap.size w w' := by
  by_cases h1 : c = 1
  · subst h1
    have hP := params_any w
    have hl := Lies.newN w (flat pT) 202
    have ht : tab 1 = pT := rfl
    have hn : pT.length = 27 := rfl
    rw [ht, hn]
    generalize pT = L at *
    go_enter Tryz.func186, Tryz.ntmps186
    go_wp2_with fail
    refine hP.mono ?_
    rintro e w1 ⟨rfl, rfl⟩
    go_wp2_with fail
    go_ret
    exact ⟨_, rfl, hl.more (by simp), (Below.refl _ _).alloc (Nat.le_refl _) _⟩
  · by_cases h2 : c = 2
    · subst h2
      have hP := causes_any w
      have hl := Lies.newN w (flat cT) 202
      have ht : tab 2 = cT := rfl
      have hn : cT.length = 19 := rfl
      rw [ht, hn]
      generalize cT = L at *
      go_enter Tryz.func186, Tryz.ntmps186
      go_wp2_with fail
      refine hP.mono ?_
      rintro e w1 ⟨rfl, rfl⟩
      go_wp2_with fail
      go_ret
      exact ⟨_, rfl, hl.more (by simp), (Below.refl _ _).alloc (Nat.le_refl _) _⟩
    · have ht : tab c = [] := by unfold tab; rw [if_neg h1, if_neg h2]
      rw [ht]
      go_enter Tryz.func186, Tryz.ntmps186
      go_wp2_with fail
      go_ret
      exact ⟨none, rfl, Lies.nil, Below.refl _ _⟩

/-! ### the place of a type -/
theorem of1_any (f : Form) (t : UInt16) (g : Nat) (w : World) (hg : Whole w g 37 #[hv t]) :
    Calls Tryz.prog 188 #[f.val, .pointer (some ⟨g, 0, none⟩)] w fun e w' => e = .returned (.bool (decide (f.ty = t))) ∧ Below w.heap.size w w' := by
  have hW := hg.alloc (.cells #[.int .i64 f.cl, hv f.ty, .string f.nm, .int .i64 f.lo, .int .i64 f.hi, .int .i64 f.un, .int .i64 f.ki] 202)
  have hc := hW.cell 0
  simp only [List.getElem?_toArray, List.getElem?_cons_zero] at hc
  unfold Form.val
  have hb : ((f.ty.toNat : Int) == (t.toNat : Int)) = decide (f.ty = t) := by
    by_cases h : f.ty = t
    · simp [h]
    · have h2 : ¬ (f.ty.toNat : Int) = (t.toNat : Int) := fun e => h (UInt16.toNat_inj.1 (by omega))
      simp only [h, decide_false, beq_eq_false_iff_ne, ne_eq, h2, not_false_eq_true]
  rw [← hb]
  clear hb hg
  go_enter Tryz.func188, Tryz.ntmps188
  go_wp2_with fail
  go_ret
  exact ⟨rfl, (Below.refl _ _).alloc (Nat.le_refl _) _⟩

/-- the first form of a type, or none -/
def look (L : List Form) (t : UInt16) : Option Form := L.find? fun f => decide (f.ty = t)
def No (L : List Form) (k : Nat) (t : UInt16) : Prop := ∀ (j : Nat) (f : Form), j < k → L[j]? = some f → f.ty ≠ t
theorem No.zero (L : List Form) (t : UInt16) : No L 0 t := fun j _ h => absurd h (by omega)
theorem No.next {L : List Form} {k : Nat} {t : UInt16} {f : Form} (h : No L k t) (hf : L[k]? = some f) (hn : ¬ f.ty = t) : No L (k + 1) t := fun j g hj hg => by
  by_cases hk : j = k
  · subst hk; rw [hf] at hg; cases hg; exact hn
  · exact h j g (by omega) hg
theorem look_none {L : List Form} {t : UInt16} (h : No L L.length t) : look L t = none := by
  unfold look
  rw [List.find?_eq_none]
  intro f hf
  obtain ⟨j, hj, rfl⟩ := List.getElem_of_mem hf
  simpa using h j _ hj (List.getElem?_eq_getElem hj)
theorem look_some {L : List Form} {t : UInt16} {k : Nat} {f : Form} (h : No L k t) (hf : L[k]? = some f) (ht : f.ty = t) : look L t = some f := by
  unfold look
  rw [List.find?_eq_some_iff_getElem]
  obtain ⟨hk, rfl⟩ := List.getElem?_eq_some_iff.1 hf
  refine ⟨by simpa using ht, k, hk, rfl, fun j hj => ?_⟩
  simpa using h j _ hj (List.getElem?_eq_getElem (by omega))

/-- what the place of a type says -/
def AtPlace (L : List Form) (t : UInt16) (i : Int) : Prop := (∃ (k : Nat) (f : Form), i = k ∧ L[k]? = some f ∧ look L t = some f) ∨ (i = -1 ∧ look L t = none)

set_option maxHeartbeats 1000000 in
theorem idx_any (A : Option Addr) (L : List Form) (t : UInt16) (g : Nat) (w : World) (h : Lies w w.heap.size A (flat L)) (hg : Whole w g 37 #[hv t]) (hn : L.length ≤ 100) :
    Calls Tryz.prog 187 #[.slice A L.length L.length, .func (.func 188) #[] #[.pointer (some ⟨g, 0, none⟩)]] w fun e w' => ∃ i, e = .returned (.int .i64 i) ∧ AtPlace L t i ∧ Below w.heap.size w w' := by
  have hgw := hg.lt
  go_enter Tryz.func187, Tryz.ntmps187
  go_wp2_with fail
  go_loopw [8] (fun i wr => ∃ k : Nat, k ≤ L.length ∧ i = .int .i64 k ∧ Hid (No L k t) ∧ Below w.heap.size w wr) (fun i _ => L.length - (intOf i).toNat)
  case atStart => exact ⟨0, Nat.zero_le _, rfl, No.zero _ _, Below.refl _ _⟩
  case round =>
    obtain ⟨k, hk, rfl, hno, hbel⟩ := hrel
    by_cases hlt : k < L.length
    · obtain ⟨ad, f, rfl, hb, hf, hcs, hc0, hc1, hc2⟩ := (h.below hbel).form hlt
      have hgr := hg.below hbel hgw
      have hC := of1_any f t g wr hgr
      by_cases hft : f.ty = t
      · have hd : decide (f.ty = t) = true := by simpa using hft
        have HL := Lib.hid (look_some hno.out hf.out hft)
        rw [hd] at hC
        unfold Form.val at hC
        clear hd hft
        go_wp2_with (refine wpList_load_form rfl 202 _ rfl (ad.add (k * 7)) rfl f hcs _ Tryz.underlying202 rfl (by kernel_rfl) ?_)
        refine hC.mono ?_
        rintro e w2 ⟨rfl, b2⟩
        go_wp2_with fail
        go_ret
        exact ⟨_, rfl, .inl ⟨k, f, rfl, hf.out, HL.out⟩, hbel.trans (b2.mono hbel.size)⟩
      · have hd : decide (f.ty = t) = false := by simpa using hft
        have HN := Lib.hid (hno.out.next hf.out hft)
        rw [hd] at hC
        unfold Form.val at hC
        clear hd hft
        go_wp2_with (refine wpList_load_form rfl 202 _ rfl (ad.add (k * 7)) rfl f hcs _ Tryz.underlying202 rfl (by kernel_rfl) ?_)
        refine hC.mono ?_
        rintro e w2 ⟨rfl, b2⟩
        go_wp2_with fail
        go_roundw
        case rel => exact ⟨k + 1, by omega, by go_num, HN, hbel.trans (b2.mono hbel.size)⟩
        case measure => simp [intOf]; omega
    · obtain rfl : k = L.length := by omega
      have HL := Lib.hid (look_none hno.out)
      go_wp2_with fail
      go_ret
      exact ⟨_, rfl, .inr ⟨rfl, HL.out⟩, hbel⟩

/-! ### Of -/
theorem Whole.setRow {w : World} {g : Nat} {t : TypeId} {cs : Array Value} (h : Whole w g t cs) (cs' : Array Value) : Whole (w.setRow g cs') g t cs' := setRow_heap w g cs cs' t (0, 0) h
theorem results_row_tmp {P : Program} {fn : Func} {p u : Tmp} {ty : TypeId} (h : fn.results = #[.cell p ty, .tmp u]) (tmps : Array Value) (w : World) (g : Nat) (t : TypeId) (cs : Array Value) (d : TypeDesc)
    (hp : tmps.getD p undef = .pointer (some ⟨g, 0, none⟩)) (hg : Whole w g t cs)
    (hu : P.underlying ty = some d) (hd : (match d with | .struct _ | .array _ _ => true | _ => false) = true) (hi : (P.info? ty).map (·.size) = some cs.size) :
    (results fn tmps).run P w = .ok (.tuple #[.agg cs, tmps.getD u undef]) w := by
  have hp' : tmps[p]?.getD undef = .pointer (some ⟨g, 0, none⟩) := by simpa using hp
  simp only [results, h]
  simp [Result.andThen, hp', asAddr, run_loadVar_row w g t ty cs (0, 0) d hg hu hd hi]
abbrev zform : Array Value := #[.int .i64 0, .int .u16 0, .string ByteArray.empty, .int .i64 0, .int .i64 0, .int .i64 0, .int .i64 0]
/-- what Of and ByName return -/
def ofV : Option Form → Value
  | some f => .tuple #[f.val, .bool true]
  | none => .tuple #[.agg zform, .bool false]

set_option maxHeartbeats 1000000 in
theorem of_any (c : Int) (t : UInt16) (w : World) : Calls Tryz.prog 146 #[.int .i64 c, hv t] w fun e w' => e = .returned (ofV (look (tab c) t)) ∧ Below w.heap.size w w' := by
  have hT := table_any c
  have hn := tab_len c
  generalize tab c = L at *
  go_enter Tryz.func146, Tryz.ntmps146
  go_wp2_with fail
  refine (hT _).mono ?_
  rintro e w1 ⟨A, rfl, hl, b1⟩
  have hW1 := ((Whole.new w 37 #[hv t]).alloc (.cells zform 202)).below b1 (by simp; omega)
  have hW2 := (Whole.new (w.alloc (.cells #[hv t] 37)) 202 zform).below b1 (by simp)
  simp only [World.size_alloc] at hW2
  have hb1 : Below w.heap.size w w1 := (((Below.refl _ w).alloc (Nat.le_refl _) _).alloc (by simp) _).trans (b1.mono (by simp; omega))
  go_wp2_with fail
  refine (idx_any A L t w.heap.size w1 hl hW1 (by omega)).mono ?_
  rintro e w2 ⟨i, rfl, hi, b2⟩
  have hW3 := hW2.below b2 hW2.lt
  have hb2 : Below w.heap.size w w2 := hb1.trans (b2.mono hb1.size)
  have hl2 := (hl.below b2).more b2.size
  rcases hi with ⟨k, f, rfl, hk, hf⟩ | ⟨rfl, hf⟩
  · have hlt := (List.getElem?_eq_some_iff.1 hk).1
    obtain ⟨ad, f', rfl, hb, hf', hcs, _, _, _⟩ := hl2.form hlt
    obtain rfl : f' = f := by have := hf'.out; rw [hk] at this; cases this; rfl
    have hlt2 : (k : Int) < (L.length : Int) := by omega
    go_wp2_with (first | (refine wpList_load_form rfl 202 _ rfl (ad.add (k * 7)) rfl f' hcs _ Tryz.underlying202 rfl (by kernel_rfl) ?_) | (refine wpList_store_form rfl 202 _ _ rfl (w.heap.size + 1) rfl rfl _ _ hW3 (by kernel_rfl) rfl ?_))
    (try simp only [Exit.inBlock, Exit.then])
    refine bodyPost_ret (results_row_tmp rfl _ _ (w.heap.size + 1) 202 _ _ rfl (hW3.setRow _) Tryz.underlying202 rfl (by kernel_rfl)) rfl ?_
    exact ⟨by rw [hf]; rfl, below_setRow hb2 (Nat.le_add_right _ _) _⟩
  · go_wp2_with (first | (refine wpList_store_form rfl 202 _ _ rfl (w.heap.size + 1) rfl rfl _ _ hW3 (by kernel_rfl) rfl ?_))
    (try simp only [Exit.inBlock, Exit.then])
    refine bodyPost_ret (results_row_tmp rfl _ _ (w.heap.size + 1) 202 _ _ rfl (hW3.setRow _) Tryz.underlying202 rfl (by kernel_rfl)) rfl ?_
    exact ⟨by rw [hf]; rfl, below_setRow hb2 (Nat.le_add_right _ _) _⟩

end Go.Proofs.YteknmgmdmjmnmaaGreatDoor



namespace Go.Proofs.YteknmgmdmjmnmaaGreatDoor
open Go.RowKit

/-! ### Fits -/
def fitsB (f : Form) (n : Int) : Bool := decide (f.lo ≤ n) && decide (n ≤ f.hi) && ((n - f.lo) % f.un == 0)
/-- what is in the table: small numbers, and a unit -/
structure Tame (f : Form) : Prop where
  lo : 0 ≤ f.lo ∧ f.lo ≤ 16
  hi : 0 ≤ f.hi ∧ f.hi ≤ 65531
  un : 1 ≤ f.un ∧ f.un ≤ 8

theorem fits_any (f : Form) (hf : Tame f) (n : Int) (w : World) : Calls Tryz.prog 147 #[f.val, .int .i64 n] w fun e w' => e = .returned (.bool (fitsB f n)) ∧ Below w.heap.size w w' := by
  obtain ⟨⟨h1, h2⟩, ⟨h3, h4⟩, h5, h6⟩ := hf
  unfold Form.val fitsB
  have h7 : 0 < f.un := by omega
  by_cases c1 : f.lo ≤ n
  · have hD1 : Hid (decide (f.lo ≤ n) = true) := decide_eq_true c1
    by_cases c2 : n ≤ f.hi
    · have hD2 : Hid (decide (n ≤ f.hi) = true) := decide_eq_true c2
      have hm : (n - f.lo).tmod f.un = (n - f.lo) % f.un := Int.tmod_eq_emod_of_nonneg (by omega)
      go_enter Tryz.func147, Tryz.ntmps147
      go_wp2_with fail
      go_ret
      exact ⟨ret_bool (by rw [hD1.out, hD2.out]; rfl), (Below.refl _ _).alloc (Nat.le_refl _) _⟩
    · have hD2 : Hid (decide (n ≤ f.hi) = false) := decide_eq_false c2
      go_enter Tryz.func147, Tryz.ntmps147
      go_wp2_with fail
      go_ret
      exact ⟨ret_bool (by first | (rw [hD1.out, hD2.out]; rfl) | (rw [hD2.out]; rfl)), (Below.refl _ _).alloc (Nat.le_refl _) _⟩
  · have hD1 : Hid (decide (f.lo ≤ n) = false) := decide_eq_false c1
    go_enter Tryz.func147, Tryz.ntmps147
    go_wp2_with fail
    go_ret
    exact ⟨ret_bool (by rw [hD1.out]; rfl), (Below.refl _ _).alloc (Nat.le_refl _) _⟩
/-! ### Inside -/
/-- the class, the least and the greatest number of nodes inside -/
def ins (k : Int) : Int × Int × Int := if k = 1 then (1, 1, 1) else if k = 4 then (1, 1, 1) else if k = 2 then (1, 1, 16384) else if k = 3 then (2, 1, 16384) else (0, 0, 0)
theorem inside_any (k : Int) (w : World) : Calls Tryz.prog 150 #[.int .i64 k] w fun e w' => e = .returned (.tuple #[.int .i64 (ins k).1, .int .i64 (ins k).2.1, .int .i64 (ins k).2.2]) ∧ w = w' := by
  unfold ins
  by_cases h1 : k = 1
  · subst h1
    go_enter Tryz.func150, Tryz.ntmps150
    go_wp2_with fail
    go_ret3
    exact ⟨rfl, rfl⟩
  · by_cases h4 : k = 4
    · subst h4
      go_enter Tryz.func150, Tryz.ntmps150
      go_wp2_with fail
      go_ret3
      exact ⟨rfl, rfl⟩
    · by_cases h2 : k = 2
      · subst h2
        go_enter Tryz.func150, Tryz.ntmps150
        go_wp2_with fail
        go_ret3
        exact ⟨rfl, rfl⟩
      · by_cases h3 : k = 3
        · subst h3
          go_enter Tryz.func150, Tryz.ntmps150
          go_wp2_with fail
          go_ret3
          exact ⟨rfl, rfl⟩
        · rw [if_neg h1, if_neg h4, if_neg h2, if_neg h3]
          go_enter Tryz.func150, Tryz.ntmps150
          go_wp2_with fail
          go_ret3
          exact ⟨rfl, rfl⟩
end Go.Proofs.YteknmgmdmjmnmaaGreatDoor


