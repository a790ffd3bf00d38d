/- Layer 13: lists of descriptions in memory; Split. It writes nothing that was there. -/
/- Layer 13: Split. It writes nothing that was there. -/
/- Layer 13: slices.EqualFunc on descriptions. It writes nothing that was there. -/
import Derived.Test.YtmohbkniekeafaaGreatDoorQDataO
import Derived.Test.YtmohbkniekeafaaGreatDoorQDA
import Derived.Test.YtmohbkniekeafaaGreatDoorQA
import Derived.Test.YtmohbkniekeafaaGreatDoorQNW
import Derived.Test.YtmohbkniekeafaaGreatDoorQHX
import Derived.Test.YtmohbkniekeafaaGreatDoorQDJ
import Derived.Test.YtmohbkniekeafaaGreatDoorQNF
import Derived.Deep.RegionHeld3
import Derived.Deep.Cut
import Derived.Laws.StructEq
import Derived.Laws.BytesArg





namespace Go.Proofs.YtmohbkniekeafaaGreatDoor
open Go.RowKit Go.Shelf

attribute [local go_sem] Oper.semAt_some
set_option linter.unusedSimpArgs false
/-- a description and where its User lies -/
structure Pm where
  p : Pt
  A : Option Addr
  c : Nat
def pmFlat (ms : List Pm) : List Value := ms.flatMap fun m => (ptCells m.p m.A m.c).toList
theorem pmFlat_len (ms : List Pm) : (pmFlat ms).length = ms.length * 10 := by
  induction ms with
  | nil => rfl
  | cons m ms ih => simp only [pmFlat, List.flatMap_cons, List.length_append, List.length_cons] at ih ⊢; rw [ih]; simp; omega
theorem pmFlat_at {ms : List Pm} : ∀ {k : Nat} {m : Pm}, ms[k]? = some m → ∀ j, j < 10 → (pmFlat ms)[k * 10 + j]? = (ptCells m.p m.A m.c).toList[j]? := by
  induction ms with
  | nil => intro k m h; simp at h
  | cons x ms ih =>
    intro k m h j hj
    have e : pmFlat (x :: ms) = (ptCells x.p x.A x.c).toList ++ pmFlat ms := rfl
    have hl : (ptCells x.p x.A x.c).toList.length = 10 := rfl
    cases k with
    | zero =>
      simp only [List.getElem?_cons_zero, Option.some.injEq] at h
      subst h
      rw [e, List.getElem?_append_left (by omega), Nat.zero_mul, Nat.zero_add]
    | succ k =>
      rw [List.getElem?_cons_succ] at h
      rw [e, List.getElem?_append_right (by omega), hl, show (k + 1) * 10 + j - 10 = k * 10 + j by omega]
      exact ih h j hj
/-- a list of descriptions, as a slice reads it -/
structure Pts (w : World) (B : Nat) (A : Option Addr) (c : Nat) (ms : List Pm) : Prop where
  lies : Lies w B A (pmFlat ms)
  each : ∀ m ∈ ms, PtL w B m.A m.c m.p
  dc : ms.length ≤ c
  dm : c ≤ maxLen
section
variable {w w' : World} {B B' : Nat} {A : Option Addr} {c : Nat} {ms : List Pm}
theorem Pts.below (h : Pts w B A c ms) (hb : Below B w w') : Pts w' B A c ms := ⟨h.lies.below hb, fun m hm => (h.each m hm).below hb, h.dc, h.dm⟩
theorem Pts.more (h : Pts w B A c ms) (hB : B ≤ B') : Pts w B' A c ms := ⟨h.lies.more hB, fun m hm => (h.each m hm).more hB, h.dc, h.dm⟩
theorem Pts.on (h : Pts w w.heap.size A c ms) (hb : Below w.heap.size w w') : Pts w' w'.heap.size A c ms := (h.below hb).more hb.size
/-- the ten cells of an element -/
theorem Pts.at_ (h : Pts w B A c ms) {k : Nat} {m : Pm} (hm : ms[k]? = some m) : ∃ ad, A = some ad ∧ ad.block < B ∧ ∀ j u, j < 10 → (ptCells m.p m.A m.c)[j]? = some u → w.cell? ((ad.add (k * 10)).add j) = some u := by
  obtain ⟨ad, h1, h2, h3⟩ := h.lies (fun e => by
    have hl := pmFlat_len ms
    rw [e, List.length_nil] at hl
    have := (List.getElem?_eq_some_iff.1 hm).1
    omega)
  refine ⟨ad, h1, h2, fun j u hj hu => ?_⟩
  rw [add_add']
  exact h3 _ _ (by rw [pmFlat_at hm j hj]; simpa using hu)
end
/-! ### Split -/
section
variable {w0 A B : World} {B0 n Bl X : Nat} {p : Pt} {pre : List Nat}
end
end Go.Proofs.YtmohbkniekeafaaGreatDoor




namespace Go.Proofs.YtmohbkniekeafaaGreatDoor
open Go.RowKit Go.Shelf

attribute [local go_sem] Oper.semAt_some
set_option linter.unusedSimpArgs false
theorem whole_row_ne13 {W : World} {g : Nat} {t e : TypeId} {cs : Array Value} {z : Nat × Nat} (h : W.heap[g]? = some (.cells cs t z)) (hte : t ≠ e) {base size n : Nat} {v : Value} {xs : List Value} (hr : W.ownsRow base e size v n xs) : v.ownBlock ≠ some g := by
  rcases hr.2 with ⟨rfl, _⟩ | ⟨q, cap, cur, rfl, _, hq, _⟩
  · simp [Value.ownBlock]
  · intro he
    simp only [Value.ownBlock, Option.some.injEq] at he
    subst he
    rw [h] at hq
    simp only [Option.some.injEq, Obj.cells.injEq] at hq
    exact hte hq.2.1
end Go.Proofs.YtmohbkniekeafaaGreatDoor





namespace Go.Proofs.YtmohbkniekeafaaGreatDoor
open Go.RowKit

set_option linter.unusedSimpArgs false
theorem add_pos {a : Addr} {j : Nat} (hj : 0 < j) : a.add j = ⟨a.block, a.off + j, none⟩ := by
  unfold Addr.add
  rw [if_neg (by omega)]
theorem Pts.cells {w : World} {B : Nat} {A : Option Addr} {c : Nat} {ms : List Pm} (h : Pts w B A c ms) {k : Nat} {m : Pm} (hm : ms[k]? = some m) : ∃ ad, A = some ad ∧ ad.block < B ∧ w.cell? (ad.add (k * 10)) = some (.bool m.p.inter) ∧
    w.cell? ⟨(ad.add (k * 10)).block, (ad.add (k * 10)).off + 1, none⟩ = some (uv m.p.tsn) ∧ w.cell? ⟨(ad.add (k * 10)).block, (ad.add (k * 10)).off + 2, none⟩ = some (hv m.p.st) ∧ w.cell? ⟨(ad.add (k * 10)).block, (ad.add (k * 10)).off + 3, none⟩ = some (uv m.p.sq) ∧
    w.cell? ⟨(ad.add (k * 10)).block, (ad.add (k * 10)).off + 4, none⟩ = some (uv m.p.pr) ∧ w.cell? ⟨(ad.add (k * 10)).block, (ad.add (k * 10)).off + 5, none⟩ = some (.bool m.p.bg) ∧ w.cell? ⟨(ad.add (k * 10)).block, (ad.add (k * 10)).off + 6, none⟩ = some (.bool m.p.en) ∧
    w.cell? ⟨(ad.add (k * 10)).block, (ad.add (k * 10)).off + 7, none⟩ = some (.bool m.p.un) ∧ w.cell? ⟨(ad.add (k * 10)).block, (ad.add (k * 10)).off + 8, none⟩ = some (.bool m.p.nw) ∧ w.cell? ⟨(ad.add (k * 10)).block, (ad.add (k * 10)).off + 9, none⟩ = some (.slice m.A m.p.us.length m.c) := by
  obtain ⟨ad, h1, h2, h3⟩ := h.at_ hm
  have h4 : ∀ j u, 0 < j → j < 10 → (ptCells m.p m.A m.c)[j]? = some u → w.cell? ⟨(ad.add (k * 10)).block, (ad.add (k * 10)).off + j, none⟩ = some u := fun j u h0 hj hu => by
    have := h3 j u hj hu
    rwa [add_pos h0] at this
  refine ⟨ad, h1, h2, ?_, h4 1 _ (by decide) (by decide) rfl, h4 2 _ (by decide) (by decide) rfl, h4 3 _ (by decide) (by decide) rfl, h4 4 _ (by decide) (by decide) rfl, h4 5 _ (by decide) (by decide) rfl, h4 6 _ (by decide) (by decide) rfl, h4 7 _ (by decide) (by decide) rfl, h4 8 _ (by decide) (by decide) rfl, h4 9 _ (by decide) (by decide) rfl⟩
  have := h3 0 _ (by decide) rfl
  rwa [add_add', Nat.add_zero] at this
end Go.Proofs.YtmohbkniekeafaaGreatDoor


