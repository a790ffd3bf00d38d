/- Layer 14: the set of offsets and the duplicates (divided), in a map of the call's own. It writes nothing that was there. -/
/- Layer 14: the keys of an own set of offsets, as an iterator (maps.Keys): each once, in some order. -/
import Derived.Test.YtmohbkniekeafaaGreatDoorTSKA
import Derived.Test.YtmohbkniekeafaaGreatDoorTIN
import Derived.Test.YtmohbkniekeafaaGreatDoorTWireF
import Derived.Test.YtmohbkniekeafaaGreatDoorTNF
import Derived.Laws.StructEq
import Derived.BigGuard
import Derived.Deep.RegionHeld3
import Derived.Deep.Cut
import Derived.Test.YtmohbkniekeafaaGreatDoorTCT
import Derived.Maps.OwnSet
import Derived.Maps.OwnOps
import Derived.Test.YtmohbkniekeafaaGreatDoorTEL
import Derived.Sort.MapsRangeIn
import Derived.RangeFuncGives
import Derived.WalkMore





namespace Go.Proofs.YtmohbkniekeafaaGreatDoor
open Go.RowKit Go.Maps

set_option linter.unusedSimpArgs false
abbrev k32 (x : UInt32) : Lit := .int .u32 (x.toNat : Int)
theorem k32_inj {x y : UInt32} (h : k32 x = k32 y) : x = y := by
  simp only [k32, Lit.int.injEq, true_and] at h
  exact UInt32.toNat_inj.1 (by omega)
/-- a set of offsets, as a map's datum -/
def setD (acc : List UInt32) : DataW Unit := setOf (.lit (.bool true)) (acc.map k32)
theorem k32_lit (x : UInt32) : WideAt.IsKeyLit (k32 x) := by
  trivial
end Go.Proofs.YtmohbkniekeafaaGreatDoor








namespace Go.Proofs.YtmohbkniekeafaaGreatDoor
open Go.RowKit Go.Maps Go.Shelf

set_option linter.unusedSimpArgs false
theorem setD_has (acc : List UInt32) (x : UInt32) : has (setD acc) (k32 x) = decide (x ∈ acc) := by
  unfold setD
  rw [has_setOf _ _ _ (fun y hy => by obtain ⟨z, _, rfl⟩ := List.mem_map.1 hy; exact k32_lit z)]
  rw [List.any_map, Bool.eq_iff_iff, List.any_eq_true, decide_eq_true_eq]
  constructor
  · rintro ⟨y, hy, e⟩
    have : k32 y = k32 x := WideAt.sameKey_eq e
    rw [← k32_inj this]; exact hy
  · intro h
    exact ⟨x, h, WideAt.sameKey_self (k32_lit x)⟩
/-- what has come of the keys -/
def InvK (acc : List UInt32) (left : Lit → Bool) (ss : List UInt32) : Prop := ss.Nodup ∧ ∀ x, x ∈ ss ↔ (x ∈ acc ∧ left (k32 x) = false)
theorem InvK.start (acc : List UInt32) : InvK acc (has (setD acc)) [] := ⟨List.nodup_nil, fun x => by by_cases h : x ∈ acc <;> simp [setD_has, h]⟩
theorem InvK.step {acc ss : List UInt32} {left : Lit → Bool} (h : InvK acc left ss) {x : UInt32} {y : DataW Unit} (hlk : left (k32 x) = true) (hat : ∀ zd, (setD acc).atKey (k32 x) zd = y) :
    InvK acc (fun z => left z && !z.sameKey (k32 x)) (ss ++ [x]) := by
  have hhas : x ∈ acc := by have := has_true_of_atKey hat; rw [setD_has] at this; simpa using this
  have hnew : x ∉ ss := fun hx => by have := ((h.2 x).1 hx).2; rw [hlk] at this; cases this
  refine ⟨List.nodup_append.2 ⟨h.1, by simp, fun a ha b hb => by simp at hb; subst hb; exact fun e => hnew (e ▸ ha)⟩, fun y => ?_⟩
  by_cases hy : y = x
  · subst hy; simp [hhas, WideAt.sameKey_self (k32_lit y)]
  · have hs : (k32 y).sameKey (k32 x) = false := by
      cases hc : (k32 y).sameKey (k32 x) with
      | false => rfl
      | true => exact absurd (k32_inj (WideAt.sameKey_eq hc)) hy
    simp only [List.mem_append, List.mem_singleton, hy, or_false, hs, Bool.not_false, Bool.and_true]
    exact h.2 y
theorem nodup_len : ∀ {ss acc : List UInt32}, ss.Nodup → (∀ x ∈ ss, x ∈ acc) → ss.length ≤ acc.length
  | [], _, _, _ => Nat.zero_le _
  | x :: ss, acc, hn, h => by
    have hx := h x (List.mem_cons_self ..)
    have h2 := List.nodup_cons.1 hn
    have := nodup_len (acc := acc.erase x) h2.2 (fun y hy => (List.mem_erase_of_ne (fun (e : y = x) => h2.1 (by rw [← e]; exact hy))).2 (h y (List.mem_cons_of_mem _ hy)))
    have hl := List.length_erase_of_mem hx
    have hp : 0 < acc.length := List.length_pos_of_mem hx
    simp only [List.length_cons]
    omega
theorem InvK.lt {acc ss : List UInt32} {left : Lit → Bool} (h : InvK acc left ss) {x : UInt32} {y : DataW Unit} (hlk : left (k32 x) = true) (hat : ∀ zd, (setD acc).atKey (k32 x) zd = y) : ss.length < acc.length := by
  have h2 := h.step hlk hat
  have := nodup_len h2.1 (fun z hz => ((h2.2 z).1 hz).1)
  simp at this
  omega
theorem InvK.perm {acc ss : List UInt32} {left : Lit → Bool} (h : InvK acc left ss) (hn : acc.Nodup) (hl : ∀ kl, left kl = false) : ss.Perm acc :=
  List.perm_iff_count.2 fun a => by
    rw [h.1.count, hn.count]
    have := h.2 a
    rw [hl] at this
    simp only [and_true] at this
    simp only [this]
/-- a map's block stays as it is -/
def KpM (b : Nat) (A B : World) : Prop := B.heap[b]? = A.heap[b]?
end Go.Proofs.YtmohbkniekeafaaGreatDoor


