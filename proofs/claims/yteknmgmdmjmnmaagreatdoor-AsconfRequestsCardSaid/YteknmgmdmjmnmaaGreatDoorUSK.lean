/- Layer 14: the closure of gapsAfter (fold). -/
/- Layer 14: slices.Chunk of numbers for whatever loop; Of. It writes nothing that was there. -/
/- Layer 16: skips as data, how they lie in memory; placeOf, sizeOf, Most. They write nothing that was there. -/
/- Layer 16: the values of Merge's map; a store into it at an operation that stands anywhere. -/
/- Layer 16: bytesOf, Make (of the program). They write nothing that was there. -/
/- Layer 16: Make (of the program). It writes nothing that was there. -/
import Derived.Test.YteknmgmdmjmnmaaGreatDoorUSF
import Derived.Sort.Row
import Derived.Sort.LotA
import Derived.CellFam
import Derived.Deep.Draws
import Derived.Deep.QuietTactic
import Derived.BigQuiet
import Derived.Test.YteknmgmdmjmnmaaGreatDoorUDO
import Derived.Test.YteknmgmdmjmnmaaGreatDoorUDA
import Derived.Test.YteknmgmdmjmnmaaGreatDoorUNF
import Derived.Deep.RegionHeld3
import Derived.Deep.Cut
import Derived.Laws.StructEq
import Derived.Test.YteknmgmdmjmnmaaGreatDoorUA
import Derived.Laws.BytesArg
import Derived.Test.YteknmgmdmjmnmaaGreatDoorUTA
import Derived.Test.YteknmgmdmjmnmaaGreatDoorUTC
import Derived.Test.YteknmgmdmjmnmaaGreatDoorUNW
import Derived.Test.YteknmgmdmjmnmaaGreatDoorUEL
import Derived.WalkMore
import Derived.Test.YteknmgmdmjmnmaaGreatDoorUSI
import Derived.Test.YteknmgmdmjmnmaaGreatDoorUDJ
import Derived.Test.YteknmgmdmjmnmaaGreatDoorUCI
import Derived.BigGuard
import Derived.Test.YteknmgmdmjmnmaaGreatDoorUWireF
import Derived.Test.YteknmgmdmjmnmaaGreatDoorUW
import Derived.Laws.Tables
import Derived.Test.YteknmgmdmjmnmaaGreatDoorUCL
import Derived.Test.YteknmgmdmjmnmaaGreatDoorUCR
import Derived.Test.YteknmgmdmjmnmaaGreatDoorUSplitR
import Derived.Test.YteknmgmdmjmnmaaGreatDoorUChunkT
import Derived.Test.YteknmgmdmjmnmaaGreatDoorUK
import Derived.Test.YteknmgmdmjmnmaaGreatDoorUNS
import Derived.Sort.CutIn
import Derived.Test.YteknmgmdmjmnmaaGreatDoorUChunkX
import Derived.Test.YteknmgmdmjmnmaaGreatDoorUNO
import Derived.ProofKit
import Derived.OpenShut
import Derived.LaidMore
import Derived.LaidHandle
import Derived.Lay
import Derived.Stop.Joined
import Derived.Maps.OwnSet
import Derived.MapViews
import Derived.DeepKeys4
import Derived.Maps.OwnOps


namespace Go.Proofs.YteknmgmdmjmnmaaGreatDoor
open Go.RowKit

set_option linter.unusedSimpArgs false
/-- rows of numbers stay -/
def Rows32 (w w' : World) : Prop := ∀ (base n : Nat) (v : Value) (xs : List Value), w.ownsRow base 22 1 v n xs → w'.ownsRow base 22 1 v n xs
theorem Rows32.trans {a b c : World} (h : Rows32 a b) (k : Rows32 b c) : Rows32 a c := fun base n v xs hr => k base n v xs (h base n v xs hr)
end Go.Proofs.YteknmgmdmjmnmaaGreatDoor
















namespace Go.Proofs.YteknmgmdmjmnmaaGreatDoor
open Go.RowKit Go.Shelf

attribute [local go_sem] Oper.semAt_some
set_option linter.unusedSimpArgs false
/-- two blocks stay as they are -/
structure KpC (Bs Bn : Nat) (A B : World) : Prop where
  low : Below 0 A B
  s : B.heap[Bs]? = A.heap[Bs]?
  n : B.heap[Bn]? = A.heap[Bn]?
theorem KpC.trans {Bs Bn : Nat} {A B C : World} (h : KpC Bs Bn A B) (k : KpC Bs Bn B C) : KpC Bs Bn A C := ⟨h.low.trans k.low, k.s.trans h.s, k.n.trans h.n⟩
theorem KpC.put {Bs Bn : Nat} (W : World) (l : Nat) (o' : Obj) (h1 : Bs ≠ l) (h2 : Bn ≠ l) : KpC Bs Bn W (W.putObj l o') :=
  ⟨(Below.refl 0 W).grown (grownBy_putObj' W l o') (Nat.zero_le _) (fun _ _ => Nat.zero_le _), World.putObj_heap_other h1, World.putObj_heap_other h2⟩
theorem whole_obj {X Y : World} {row : Option Nat} {g t : Nat} {cs : Array Value} (h : Whole X g t cs) (hg : X.grownBy Y row) (hr : ∀ r, row = some r → ∃ o : Obj, X.heap[r]? = some o ∧ o.isCells = false) : Whole Y g t cs :=
  h.grown hg (fun e => by
    obtain ⟨o, ho, hoc⟩ := hr g e.symm
    unfold Whole at h
    rw [h] at ho
    cases ho
    cases hoc)
end Go.Proofs.YteknmgmdmjmnmaaGreatDoor





namespace Go.Proofs.YteknmgmdmjmnmaaGreatDoor
open Go.RowKit

set_option linter.unusedSimpArgs false
structure Fs where
  st : UInt16
  un : Bool
  sq : UInt32
def fsFlat (l : List Fs) : List Value := l.flatMap fun s => [hv s.st, .bool s.un, uv s.sq]
structure FsL (w : World) (B : Nat) (A : Option Addr) (c : Nat) (l : List Fs) : Prop where
  lies : Lies w B A (fsFlat l)
  c1 : l.length ≤ c
  c2 : c ≤ maxLen
theorem fsFlat_len (l : List Fs) : (fsFlat l).length = l.length * 3 := by
  induction l with
  | nil => rfl
  | cons s l ih => simp only [fsFlat, List.flatMap_cons, List.length_append, List.length_cons, List.length_nil] at ih ⊢; omega
theorem fsFlat_at {l : List Fs} : ∀ {k : Nat} {s : Fs}, l[k]? = some s → (fsFlat l)[k * 3]? = some (hv s.st) ∧ (fsFlat l)[k * 3 + 1]? = some (.bool s.un) ∧ (fsFlat l)[k * 3 + 2]? = some (uv s.sq) := by
  induction l with
  | nil => intro k s h; simp at h
  | cons x l ih =>
    intro k s h
    have e : fsFlat (x :: l) = hv x.st :: .bool x.un :: uv x.sq :: fsFlat l := rfl
    cases k with
    | zero =>
      simp only [List.getElem?_cons_zero, Option.some.injEq] at h
      subst h
      rw [e]
      exact ⟨rfl, rfl, rfl⟩
    | succ k =>
      have h2 := ih (k := k) (s := s) (by simpa using h)
      rw [e, show (k + 1) * 3 = k * 3 + 1 + 1 + 1 by omega, show k * 3 + 1 + 1 + 1 + 1 = (k * 3 + 1) + 1 + 1 + 1 by omega, show k * 3 + 1 + 1 + 1 + 2 = (k * 3 + 2) + 1 + 1 + 1 by omega]
      simpa using h2
section
variable {w w' : World} {B B' c : Nat} {A : Option Addr} {l : List Fs}
theorem FsL.below (h : FsL w B A c l) (hb : Below B w w') : FsL w' B A c l := ⟨h.lies.below hb, h.c1, h.c2⟩
theorem FsL.more (h : FsL w B A c l) (hB : B ≤ B') : FsL w B' A c l := ⟨h.lies.more hB, h.c1, h.c2⟩
theorem FsL.on (h : FsL w w.heap.size A c l) (hb : Below w.heap.size w w') : FsL w' w'.heap.size A c l := (h.below hb).more hb.size
theorem FsL.at_ (h : FsL w B A c l) {k : Nat} {s : Fs} (hs : l[k]? = some s) : ∃ ad, A = some ad ∧ ad.block < B ∧ w.cell? (ad.add (k * 3)) = some (hv s.st) ∧ w.cell? ⟨(ad.add (k * 3)).block, (ad.add (k * 3)).off + 1, none⟩ = some (.bool s.un) ∧ w.cell? ⟨(ad.add (k * 3)).block, (ad.add (k * 3)).off + 2, none⟩ = some (uv s.sq) := by
  have hlt := (List.getElem?_eq_some_iff.1 hs).1
  obtain ⟨ad, h1, h2, h3⟩ := h.lies (fun e => by
    have hl := fsFlat_len l
    rw [e, List.length_nil] at hl
    omega)
  obtain ⟨e1, e2, e3⟩ := fsFlat_at hs
  have h4 := h3 _ _ e2
  have h5 := h3 _ _ e3
  rw [← add_add', add_pos (by omega)] at h4 h5
  exact ⟨ad, h1, h2, h3 _ _ e1, h4, h5⟩
end
end Go.Proofs.YteknmgmdmjmnmaaGreatDoor




namespace Go.Proofs.YteknmgmdmjmnmaaGreatDoor
open Go.RowKit Go.WideMaps Go.Maps

theorem wp_mapUpdate16 {P : Program} (w : World) {o : Oper} {a : Act} {K' : Act → World → Prop} {Q : Exit → Act → World → Prop}
    (m x v : Operand) (t : TypeId) (hop : o.op = Op.mapUpdate t m x v)
    (k e : TypeId) (K : Keyed P k) (ht : P.underlying t = some (.map k e)) (R : Value → Option (DataW Unit × List MemPlace)) (b n : Nat) (D : DataW Unit)
    (hm : a.eval m = .map (some b)) (hown : w.ownsMap P k R b n D) (hn : n < maxLen) (key val : Value) (kl : Lit) (hx : a.eval x = key) (hv : a.eval v = val) (hkey : keyOf P k key = some kl)
    (d : DataW Unit) (ps : List MemPlace) (hval : R val = some (d, ps))
    (hK : ∀ w', w'.ownsMap P k R b (n + 1) (D.put kl d) → w.grownBy w' (some b) → K' (a.put o.dst undef) w') : o.wp P a w K' Q := by
  obtain ⟨w', hrun, r1, r2⟩ := hown.update K ht hn hkey hval
  unfold Oper.wp execOp
  simp only [hop, hm, hx, hv, hrun, Sem.run_bind, Sem.run_pure, Result.andThen_ok]
  exact hK w' r1 r2
end Go.Proofs.YteknmgmdmjmnmaaGreatDoor










namespace Go.Proofs.YteknmgmdmjmnmaaGreatDoor
open Go.RowKit

set_option linter.unusedSimpArgs false
theorem isB_own {w : World} {base n c : Nat} {A : Option Addr} {l : List UInt8} (h : w.ownsRow base 5 1 (.slice A n c) n (l.map bv)) : IsB w w.heap.size (.slice A n c) l := by
  have hc := own_cap h
  have hl : l.length = n := by have h1 := hc.1; rw [List.length_map] at h1; exact h1
  exact ⟨A, c, by rw [hl], Lies.own h, by rw [hl]; exact hc.2.1, hc.2.2⟩
end Go.Proofs.YteknmgmdmjmnmaaGreatDoor




namespace Go.Proofs.YteknmgmdmjmnmaaGreatDoor
open Go.RowKit

set_option linter.unusedSimpArgs false
/-- parts in a row of the call's own -/
structure PartsO (V : World) (B : Nat) (A : Option Addr) (c : Nat) (vs : List Value) (ps : List (List UInt8)) : Prop where
  row : V.ownsRow B 48 1 (.slice A ps.length c) ps.length vs
  each : ∀ (i : Nat) (p : List UInt8), ps[i]? = some p → ∃ (A : Option Addr) (c : Nat), vs[i]? = some (.slice A p.length c) ∧ V.ownsRow B 5 1 (.slice A p.length c) p.length (p.map bv)
theorem PartsO.parts {V : World} {B : Nat} {A : Option Addr} {c : Nat} {vs : List Value} {ps : List (List UInt8)} (h : PartsO V B A c vs ps) : Parts V V.heap.size A vs ps :=
  ⟨Lies.own h.row, (own_cap h.row).1, fun i p hp => by
    obtain ⟨A, c, h1, h2⟩ := h.each i p hp
    exact ⟨_, h1, isB_own h2⟩⟩
end Go.Proofs.YteknmgmdmjmnmaaGreatDoor


