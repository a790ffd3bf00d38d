/- Layer 14: a description of a sack as data, how it lies in memory; isUpTo, the closure of Covers, IndexFunc, ContainsFunc, Covers. They write nothing that was there. -/
/- Layer 15: found, Has, Extensions, Cookie. They write nothing that was there. -/
/- Layer 14: the set of offsets and the duplicates (divided), in a map of the call's own. It writes nothing that was there. -/
/- Layer 14: the keys of an own set of offsets, as an iterator (maps.Keys): each once, in some order. -/
import Derived.Test.YtmohbkniekeafaaGreatDoorRDP
import Derived.Test.YtmohbkniekeafaaGreatDoorRDJ
import Derived.Test.YtmohbkniekeafaaGreatDoorRCA
import Derived.Test.YtmohbkniekeafaaGreatDoorRNF
import Derived.BigGuard
import Derived.Test.YtmohbkniekeafaaGreatDoorRW
import Derived.Test.YtmohbkniekeafaaGreatDoorRCG
import Derived.Test.YtmohbkniekeafaaGreatDoorRNS
import Derived.Test.YtmohbkniekeafaaGreatDoorRDT
import Derived.Deep.QuietTactic
import Derived.BigQuiet
import Derived.Deep.Cut
import Derived.Deep.RegionHeld3
import Derived.Laws.Tables
import Derived.Test.YtmohbkniekeafaaGreatDoorRA
import Derived.Laws.StructEq
import Derived.Laws.BytesArg
import Derived.Test.YtmohbkniekeafaaGreatDoorRNA
import Derived.Test.YtmohbkniekeafaaGreatDoorRTC
import Derived.Maps.OwnSet
import Derived.Maps.OwnOps
import Derived.Test.YtmohbkniekeafaaGreatDoorREL
import Derived.Sort.MapsRangeIn
import Derived.RangeFuncGives
import Derived.WalkMore




namespace Go.Proofs.YtmohbkniekeafaaGreatDoor
open Go.RowKit

set_option linter.unusedSimpArgs false
structure Gp where
  f : UInt16
  t : UInt16
structure Sk where
  cum : UInt32
  win : UInt32
  gs : List Gp
  ds : List UInt32
def gpFlat (gs : List Gp) : List Value := gs.flatMap fun g => [hv g.f, hv g.t]
/-- what the gaps read as -/
structure GsL (w : World) (B : Nat) (G : Option Addr) (gc : Nat) (gs : List Gp) : Prop where
  lies : Lies w B G (gpFlat gs)
  c1 : gs.length ≤ gc
  c2 : gc ≤ maxLen
structure SkL (w : World) (B : Nat) (G : Option Addr) (gc : Nat) (D : Option Addr) (dc : Nat) (s : Sk) : Prop where
  gl : GsL w B G gc s.gs
  dl : Lies w B D (s.ds.map uv)
  d1 : s.ds.length ≤ dc
  d2 : dc ≤ maxLen
theorem gpFlat_len (gs : List Gp) : (gpFlat gs).length = gs.length * 2 := by
  induction gs with
  | nil => rfl
  | cons g gs ih => simp only [gpFlat, List.flatMap_cons, List.length_append, List.length_cons, List.length_nil] at ih ⊢; omega
theorem gpFlat_at {gs : List Gp} : ∀ {k : Nat} {g : Gp}, gs[k]? = some g → (gpFlat gs)[k * 2]? = some (hv g.f) ∧ (gpFlat gs)[k * 2 + 1]? = some (hv g.t) := by
  induction gs with
  | nil => intro k g h; simp at h
  | cons x gs ih =>
    intro k g h
    have e : gpFlat (x :: gs) = hv x.f :: hv x.t :: gpFlat gs := rfl
    cases k with
    | zero =>
      simp only [List.getElem?_cons_zero, Option.some.injEq] at h
      subst h
      rw [e]
      exact ⟨rfl, rfl⟩
    | succ k =>
      have h2 := ih (k := k) (g := g) (by simpa using h)
      rw [e, show (k + 1) * 2 = k * 2 + 1 + 1 by omega, show k * 2 + 1 + 1 + 1 = (k * 2 + 1) + 1 + 1 by omega]
      simpa using h2
section
variable {w w' : World} {B B' gc dc : Nat} {G D : Option Addr} {gs : List Gp} {s : Sk}
theorem GsL.below (h : GsL w B G gc gs) (hb : Below B w w') : GsL w' B G gc gs := ⟨h.lies.below hb, h.c1, h.c2⟩
theorem GsL.more (h : GsL w B G gc gs) (hB : B ≤ B') : GsL w B' G gc gs := ⟨h.lies.more hB, h.c1, h.c2⟩
theorem GsL.on (h : GsL w w.heap.size G gc gs) (hb : Below w.heap.size w w') : GsL w' w'.heap.size G gc gs := (h.below hb).more hb.size
theorem SkL.below (h : SkL w B G gc D dc s) (hb : Below B w w') : SkL w' B G gc D dc s := ⟨h.gl.below hb, h.dl.below hb, h.d1, h.d2⟩
theorem SkL.more (h : SkL w B G gc D dc s) (hB : B ≤ B') : SkL w B' G gc D dc s := ⟨h.gl.more hB, h.dl.more hB, h.d1, h.d2⟩
theorem SkL.on (h : SkL w w.heap.size G gc D dc s) (hb : Below w.heap.size w w') : SkL w' w'.heap.size G gc D dc s := (h.below hb).more hb.size
/-- the two cells of a gap -/
theorem GsL.at_ (h : GsL w B G gc gs) {k : Nat} {g : Gp} (hg : gs[k]? = some g) : ∃ ad, G = some ad ∧ ad.block < B ∧ w.cell? (ad.add (k * 2)) = some (hv g.f) ∧ w.cell? ⟨(ad.add (k * 2)).block, (ad.add (k * 2)).off + 1, none⟩ = some (hv g.t) := by
  have hlt := (List.getElem?_eq_some_iff.1 hg).1
  obtain ⟨ad, h1, h2, h3⟩ := h.lies (fun e => by
    have hl := gpFlat_len gs
    rw [e, List.length_nil] at hl
    omega)
  obtain ⟨e1, e2⟩ := gpFlat_at hg
  refine ⟨ad, h1, h2, h3 _ _ e1, ?_⟩
  have h4 := h3 _ _ e2
  rw [← add_add'] at h4
  rwa [add_pos (by omega)] at h4
end
end Go.Proofs.YtmohbkniekeafaaGreatDoor






namespace Go.Proofs.YtmohbkniekeafaaGreatDoor
open Go.RowKit

set_option linter.unusedSimpArgs false
/-- values of slices that are the data of nodes -/
def FV (W : World) (B : Nat) (vs : List Value) (L : List Nd) : Prop := vs.length = L.length ∧ ∀ (j : Nat) (n : Nd), L[j]? = some n → ∃ u, vs[j]? = some u ∧ IsB W B u n.v
theorem FV.below {W W' : World} {B : Nat} {vs : List Value} {L : List Nd} (h : FV W B vs L) (hb : Below B W W') : FV W' B vs L := ⟨h.1, fun j n hn => by obtain ⟨u, h1, h2⟩ := h.2 j n hn; exact ⟨u, h1, h2.below hb⟩⟩
theorem FV.snoc {W : World} {B : Nat} {vs : List Value} {L : List Nd} {u : Value} {n : Nd} (h : FV W B vs L) (hu : IsB W B u n.v) : FV W B (vs ++ [u]) (L ++ [n]) := by
  refine ⟨by simp [h.1], fun j m hm => ?_⟩
  by_cases hj : j < L.length
  · rw [List.getElem?_append_left hj] at hm
    obtain ⟨x, h1, h2⟩ := h.2 j m hm
    exact ⟨x, by rw [List.getElem?_append_left (by rw [h.1]; exact hj)]; exact h1, h2⟩
  · have hlt := (List.getElem?_eq_some_iff.1 hm).1
    rw [List.length_append, List.length_singleton] at hlt
    obtain rfl : j = L.length := by omega
    rw [List.getElem?_append_right (Nat.le_refl _), Nat.sub_self, List.getElem?_cons_zero, Option.some.injEq] at hm
    subst hm
    exact ⟨u, by rw [List.getElem?_append_right (by rw [h.1]; exact Nat.le_refl _), h.1, Nat.sub_self]; rfl, hu⟩
theorem FV.parts {W : World} {L : List Nd} {base : Nat} {A : Option Addr} {c n : Nat} {vs : List Value} (hf : FV W W.heap.size vs L) (h : W.ownsRow base 41 1 (.slice A n c) n vs) : Parts W W.heap.size A vs (L.map Nd.v) := by
  refine ⟨Lies.own h, by rw [List.length_map]; exact hf.1, fun i p hp => ?_⟩
  rw [List.getElem?_map] at hp
  cases hn : L[i]? with
  | none => rw [hn] at hp; cases hp
  | some n =>
    rw [hn] at hp
    simp only [Option.map_some, Option.some.injEq] at hp
    subst hp
    exact hf.2 i n hn
end Go.Proofs.YtmohbkniekeafaaGreatDoor







namespace Go.Proofs.YtmohbkniekeafaaGreatDoor
open Go.RowKit Go.Maps

set_option linter.unusedSimpArgs false
abbrev k32 (x : UInt32) : Lit := .int .u32 (x.toNat : Int)
theorem k32_inj {x y : UInt32} (h : k32 x = k32 y) : x = y := by
  simp only [k32, Lit.int.injEq, true_and] at h
  exact UInt32.toNat_inj.1 (by omega)
/-- a set of offsets, as a map's datum -/
def setD (acc : List UInt32) : DataW Unit := setOf (.lit (.bool true)) (acc.map k32)
theorem k32_lit (x : UInt32) : WideAt.IsKeyLit (k32 x) := by
  trivial
end Go.Proofs.YtmohbkniekeafaaGreatDoor








namespace Go.Proofs.YtmohbkniekeafaaGreatDoor
open Go.RowKit Go.Maps Go.Shelf

set_option linter.unusedSimpArgs false
theorem setD_has (acc : List UInt32) (x : UInt32) : has (setD acc) (k32 x) = decide (x ∈ acc) := by
  unfold setD
  rw [has_setOf _ _ _ (fun y hy => by obtain ⟨z, _, rfl⟩ := List.mem_map.1 hy; exact k32_lit z)]
  rw [List.any_map, Bool.eq_iff_iff, List.any_eq_true, decide_eq_true_eq]
  constructor
  · rintro ⟨y, hy, e⟩
    have : k32 y = k32 x := WideAt.sameKey_eq e
    rw [← k32_inj this]; exact hy
  · intro h
    exact ⟨x, h, WideAt.sameKey_self (k32_lit x)⟩
/-- what has come of the keys -/
def InvK (acc : List UInt32) (left : Lit → Bool) (ss : List UInt32) : Prop := ss.Nodup ∧ ∀ x, x ∈ ss ↔ (x ∈ acc ∧ left (k32 x) = false)
theorem InvK.start (acc : List UInt32) : InvK acc (has (setD acc)) [] := ⟨List.nodup_nil, fun x => by by_cases h : x ∈ acc <;> simp [setD_has, h]⟩
theorem InvK.step {acc ss : List UInt32} {left : Lit → Bool} (h : InvK acc left ss) {x : UInt32} {y : DataW Unit} (hlk : left (k32 x) = true) (hat : ∀ zd, (setD acc).atKey (k32 x) zd = y) :
    InvK acc (fun z => left z && !z.sameKey (k32 x)) (ss ++ [x]) := by
  have hhas : x ∈ acc := by have := has_true_of_atKey hat; rw [setD_has] at this; simpa using this
  have hnew : x ∉ ss := fun hx => by have := ((h.2 x).1 hx).2; rw [hlk] at this; cases this
  refine ⟨List.nodup_append.2 ⟨h.1, by simp, fun a ha b hb => by simp at hb; subst hb; exact fun e => hnew (e ▸ ha)⟩, fun y => ?_⟩
  by_cases hy : y = x
  · subst hy; simp [hhas, WideAt.sameKey_self (k32_lit y)]
  · have hs : (k32 y).sameKey (k32 x) = false := by
      cases hc : (k32 y).sameKey (k32 x) with
      | false => rfl
      | true => exact absurd (k32_inj (WideAt.sameKey_eq hc)) hy
    simp only [List.mem_append, List.mem_singleton, hy, or_false, hs, Bool.not_false, Bool.and_true]
    exact h.2 y
theorem nodup_len : ∀ {ss acc : List UInt32}, ss.Nodup → (∀ x ∈ ss, x ∈ acc) → ss.length ≤ acc.length
  | [], _, _, _ => Nat.zero_le _
  | x :: ss, acc, hn, h => by
    have hx := h x (List.mem_cons_self ..)
    have h2 := List.nodup_cons.1 hn
    have := nodup_len (acc := acc.erase x) h2.2 (fun y hy => (List.mem_erase_of_ne (fun (e : y = x) => h2.1 (by rw [← e]; exact hy))).2 (h y (List.mem_cons_of_mem _ hy)))
    have hl := List.length_erase_of_mem hx
    have hp : 0 < acc.length := List.length_pos_of_mem hx
    simp only [List.length_cons]
    omega
theorem InvK.lt {acc ss : List UInt32} {left : Lit → Bool} (h : InvK acc left ss) {x : UInt32} {y : DataW Unit} (hlk : left (k32 x) = true) (hat : ∀ zd, (setD acc).atKey (k32 x) zd = y) : ss.length < acc.length := by
  have h2 := h.step hlk hat
  have := nodup_len h2.1 (fun z hz => ((h2.2 z).1 hz).1)
  simp at this
  omega
theorem InvK.perm {acc ss : List UInt32} {left : Lit → Bool} (h : InvK acc left ss) (hn : acc.Nodup) (hl : ∀ kl, left kl = false) : ss.Perm acc :=
  List.perm_iff_count.2 fun a => by
    rw [h.1.count, hn.count]
    have := h.2 a
    rw [hl] at this
    simp only [and_true] at this
    simp only [this]
/-- a map's block stays as it is -/
def KpM (b : Nat) (A B : World) : Prop := B.heap[b]? = A.heap[b]?
end Go.Proofs.YtmohbkniekeafaaGreatDoor


