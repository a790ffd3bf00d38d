/- Layer 15: found, Has, Extensions, Cookie. They write nothing that was there. -/
/- Layer 15: two Values are compared; what the statements check first (awake). It writes nothing that was there. -/
import Derived.Test.YtmohbkniekeafaaGreatDoorTDJ
import Derived.Test.YtmohbkniekeafaaGreatDoorTCA
import Derived.Test.YtmohbkniekeafaaGreatDoorTNF
import Derived.BigGuard
import Derived.Test.YtmohbkniekeafaaGreatDoorTW
import Derived.Test.YtmohbkniekeafaaGreatDoorTCG
import Derived.Test.YtmohbkniekeafaaGreatDoorTNS
import Derived.Test.YtmohbkniekeafaaGreatDoorTDT
import Derived.Deep.QuietTactic
import Derived.BigQuiet
import Derived.Test.YtmohbkniekeafaaGreatDoorTDP
import Derived.Deep.RegionHeld3
import Derived.Deep.Cut
import Derived.Laws.Tables
import Derived.Test.YtmohbkniekeafaaGreatDoorTA
import Derived.Laws.StructEq




namespace Go.Proofs.YtmohbkniekeafaaGreatDoor
open Go.RowKit

set_option linter.unusedSimpArgs false
/-- values of slices that are the data of nodes -/
def FV (W : World) (B : Nat) (vs : List Value) (L : List Nd) : Prop := vs.length = L.length ∧ ∀ (j : Nat) (n : Nd), L[j]? = some n → ∃ u, vs[j]? = some u ∧ IsB W B u n.v
theorem FV.below {W W' : World} {B : Nat} {vs : List Value} {L : List Nd} (h : FV W B vs L) (hb : Below B W W') : FV W' B vs L := ⟨h.1, fun j n hn => by obtain ⟨u, h1, h2⟩ := h.2 j n hn; exact ⟨u, h1, h2.below hb⟩⟩
theorem FV.snoc {W : World} {B : Nat} {vs : List Value} {L : List Nd} {u : Value} {n : Nd} (h : FV W B vs L) (hu : IsB W B u n.v) : FV W B (vs ++ [u]) (L ++ [n]) := by
  refine ⟨by simp [h.1], fun j m hm => ?_⟩
  by_cases hj : j < L.length
  · rw [List.getElem?_append_left hj] at hm
    obtain ⟨x, h1, h2⟩ := h.2 j m hm
    exact ⟨x, by rw [List.getElem?_append_left (by rw [h.1]; exact hj)]; exact h1, h2⟩
  · have hlt := (List.getElem?_eq_some_iff.1 hm).1
    rw [List.length_append, List.length_singleton] at hlt
    obtain rfl : j = L.length := by omega
    rw [List.getElem?_append_right (Nat.le_refl _), Nat.sub_self, List.getElem?_cons_zero, Option.some.injEq] at hm
    subst hm
    exact ⟨u, by rw [List.getElem?_append_right (by rw [h.1]; exact Nat.le_refl _), h.1, Nat.sub_self]; rfl, hu⟩
theorem FV.parts {W : World} {L : List Nd} {base : Nat} {A : Option Addr} {c n : Nat} {vs : List Value} (hf : FV W W.heap.size vs L) (h : W.ownsRow base 41 1 (.slice A n c) n vs) : Parts W W.heap.size A vs (L.map Nd.v) := by
  refine ⟨Lies.own h, by rw [List.length_map]; exact hf.1, fun i p hp => ?_⟩
  rw [List.getElem?_map] at hp
  cases hn : L[i]? with
  | none => rw [hn] at hp; cases hp
  | some n =>
    rw [hn] at hp
    simp only [Option.map_some, Option.some.injEq] at hp
    subst hp
    exact hf.2 i n hn
end Go.Proofs.YtmohbkniekeafaaGreatDoor







namespace Go.Proofs.YtmohbkniekeafaaGreatDoor
open Go.RowKit

set_option linter.unusedSimpArgs false
theorem size_u16 : (Tryz.prog.info? 37).map (·.size) = some 1 := by kernel_rfl
end Go.Proofs.YtmohbkniekeafaaGreatDoor


