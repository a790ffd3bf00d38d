/- Layer 14: a description of a sack as data, how it lies in memory; isUpTo, the closure of Covers, IndexFunc, ContainsFunc, Covers. They write nothing that was there. -/
/- Layer 15: found, Has, Extensions, Cookie. They write nothing that was there. -/
import Derived.Test.YteknmgmdmjmnmaaGreatDoorUDO
import Derived.Test.YteknmgmdmjmnmaaGreatDoorUDJ
import Derived.Test.YteknmgmdmjmnmaaGreatDoorUCI
import Derived.Test.YteknmgmdmjmnmaaGreatDoorUW
import Derived.Test.YteknmgmdmjmnmaaGreatDoorUCE
import Derived.Test.YteknmgmdmjmnmaaGreatDoorUNS
import Derived.BigGuard
import Derived.Deep.QuietTactic
import Derived.BigQuiet
import Derived.Deep.Cut
import Derived.Test.YteknmgmdmjmnmaaGreatDoorUNF
import Derived.Deep.RegionHeld3
import Derived.Laws.Tables




namespace Go.Proofs.YteknmgmdmjmnmaaGreatDoor
open Go.RowKit

set_option linter.unusedSimpArgs false
structure Gp where
  f : UInt16
  t : UInt16
structure Sk where
  cum : UInt32
  win : UInt32
  gs : List Gp
  ds : List UInt32
def gpFlat (gs : List Gp) : List Value := gs.flatMap fun g => [hv g.f, hv g.t]
/-- what the gaps read as -/
structure GsL (w : World) (B : Nat) (G : Option Addr) (gc : Nat) (gs : List Gp) : Prop where
  lies : Lies w B G (gpFlat gs)
  c1 : gs.length ≤ gc
  c2 : gc ≤ maxLen
structure SkL (w : World) (B : Nat) (G : Option Addr) (gc : Nat) (D : Option Addr) (dc : Nat) (s : Sk) : Prop where
  gl : GsL w B G gc s.gs
  dl : Lies w B D (s.ds.map uv)
  d1 : s.ds.length ≤ dc
  d2 : dc ≤ maxLen
theorem gpFlat_len (gs : List Gp) : (gpFlat gs).length = gs.length * 2 := by
  induction gs with
  | nil => rfl
  | cons g gs ih => simp only [gpFlat, List.flatMap_cons, List.length_append, List.length_cons, List.length_nil] at ih ⊢; omega
theorem gpFlat_at {gs : List Gp} : ∀ {k : Nat} {g : Gp}, gs[k]? = some g → (gpFlat gs)[k * 2]? = some (hv g.f) ∧ (gpFlat gs)[k * 2 + 1]? = some (hv g.t) := by
  induction gs with
  | nil => intro k g h; simp at h
  | cons x gs ih =>
    intro k g h
    have e : gpFlat (x :: gs) = hv x.f :: hv x.t :: gpFlat gs := rfl
    cases k with
    | zero =>
      simp only [List.getElem?_cons_zero, Option.some.injEq] at h
      subst h
      rw [e]
      exact ⟨rfl, rfl⟩
    | succ k =>
      have h2 := ih (k := k) (g := g) (by simpa using h)
      rw [e, show (k + 1) * 2 = k * 2 + 1 + 1 by omega, show k * 2 + 1 + 1 + 1 = (k * 2 + 1) + 1 + 1 by omega]
      simpa using h2
section
variable {w w' : World} {B B' gc dc : Nat} {G D : Option Addr} {gs : List Gp} {s : Sk}
theorem GsL.below (h : GsL w B G gc gs) (hb : Below B w w') : GsL w' B G gc gs := ⟨h.lies.below hb, h.c1, h.c2⟩
theorem GsL.more (h : GsL w B G gc gs) (hB : B ≤ B') : GsL w B' G gc gs := ⟨h.lies.more hB, h.c1, h.c2⟩
theorem GsL.on (h : GsL w w.heap.size G gc gs) (hb : Below w.heap.size w w') : GsL w' w'.heap.size G gc gs := (h.below hb).more hb.size
theorem SkL.below (h : SkL w B G gc D dc s) (hb : Below B w w') : SkL w' B G gc D dc s := ⟨h.gl.below hb, h.dl.below hb, h.d1, h.d2⟩
theorem SkL.more (h : SkL w B G gc D dc s) (hB : B ≤ B') : SkL w B' G gc D dc s := ⟨h.gl.more hB, h.dl.more hB, h.d1, h.d2⟩
theorem SkL.on (h : SkL w w.heap.size G gc D dc s) (hb : Below w.heap.size w w') : SkL w' w'.heap.size G gc D dc s := (h.below hb).more hb.size
/-- the two cells of a gap -/
theorem GsL.at_ (h : GsL w B G gc gs) {k : Nat} {g : Gp} (hg : gs[k]? = some g) : ∃ ad, G = some ad ∧ ad.block < B ∧ w.cell? (ad.add (k * 2)) = some (hv g.f) ∧ w.cell? ⟨(ad.add (k * 2)).block, (ad.add (k * 2)).off + 1, none⟩ = some (hv g.t) := by
  have hlt := (List.getElem?_eq_some_iff.1 hg).1
  obtain ⟨ad, h1, h2, h3⟩ := h.lies (fun e => by
    have hl := gpFlat_len gs
    rw [e, List.length_nil] at hl
    omega)
  obtain ⟨e1, e2⟩ := gpFlat_at hg
  refine ⟨ad, h1, h2, h3 _ _ e1, ?_⟩
  have h4 := h3 _ _ e2
  rw [← add_add'] at h4
  rwa [add_pos (by omega)] at h4
end
end Go.Proofs.YteknmgmdmjmnmaaGreatDoor






namespace Go.Proofs.YteknmgmdmjmnmaaGreatDoor
open Go.RowKit

set_option linter.unusedSimpArgs false
/-- values of slices that are the data of nodes -/
def FV (W : World) (B : Nat) (vs : List Value) (L : List Nd) : Prop := vs.length = L.length ∧ ∀ (j : Nat) (n : Nd), L[j]? = some n → ∃ u, vs[j]? = some u ∧ IsB W B u n.v
theorem FV.below {W W' : World} {B : Nat} {vs : List Value} {L : List Nd} (h : FV W B vs L) (hb : Below B W W') : FV W' B vs L := ⟨h.1, fun j n hn => by obtain ⟨u, h1, h2⟩ := h.2 j n hn; exact ⟨u, h1, h2.below hb⟩⟩
theorem FV.snoc {W : World} {B : Nat} {vs : List Value} {L : List Nd} {u : Value} {n : Nd} (h : FV W B vs L) (hu : IsB W B u n.v) : FV W B (vs ++ [u]) (L ++ [n]) := by
  refine ⟨by simp [h.1], fun j m hm => ?_⟩
  by_cases hj : j < L.length
  · rw [List.getElem?_append_left hj] at hm
    obtain ⟨x, h1, h2⟩ := h.2 j m hm
    exact ⟨x, by rw [List.getElem?_append_left (by rw [h.1]; exact hj)]; exact h1, h2⟩
  · have hlt := (List.getElem?_eq_some_iff.1 hm).1
    rw [List.length_append, List.length_singleton] at hlt
    obtain rfl : j = L.length := by omega
    rw [List.getElem?_append_right (Nat.le_refl _), Nat.sub_self, List.getElem?_cons_zero, Option.some.injEq] at hm
    subst hm
    exact ⟨u, by rw [List.getElem?_append_right (by rw [h.1]; exact Nat.le_refl _), h.1, Nat.sub_self]; rfl, hu⟩
theorem FV.parts {W : World} {L : List Nd} {base : Nat} {A : Option Addr} {c n : Nat} {vs : List Value} (hf : FV W W.heap.size vs L) (h : W.ownsRow base 48 1 (.slice A n c) n vs) : Parts W W.heap.size A vs (L.map Nd.v) := by
  refine ⟨Lies.own h, by rw [List.length_map]; exact hf.1, fun i p hp => ?_⟩
  rw [List.getElem?_map] at hp
  cases hn : L[i]? with
  | none => rw [hn] at hp; cases hp
  | some n =>
    rw [hn] at hp
    simp only [Option.map_some, Option.some.injEq] at hp
    subst hp
    exact hf.2 i n hn
end Go.Proofs.YteknmgmdmjmnmaaGreatDoor


