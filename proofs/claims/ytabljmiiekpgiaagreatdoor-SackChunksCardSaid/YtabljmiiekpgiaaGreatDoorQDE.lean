/- Layer 13: what bytesOf puts and joins: numbers in a new row, four parts in a new row; the bytes of a description. -/
import Derived.Test.YtabljmiiekpgiaaGreatDoorQDA
import Derived.Test.YtabljmiiekpgiaaGreatDoorQNF
import Derived.Deep.RegionHeld3
import Derived.Deep.Cut
import Derived.Laws.StructEq
import Derived.Test.YtabljmiiekpgiaaGreatDoorQA
import Derived.Laws.BytesArg
import Derived.Test.YtabljmiiekpgiaaGreatDoorQTA


namespace Go.Proofs.YtabljmiiekpgiaaGreatDoor
open Go.RowKit

theorem parts4 {w : World} (v1 v2 v3 v4 : Value) (p1 p2 p3 p4 : List UInt8) (h1 : IsB w w.heap.size v1 p1) (h2 : IsB w w.heap.size v2 p2) (h3 : IsB w w.heap.size v3 p3) (h4 : IsB w w.heap.size v4 p4) :
    Parts (w.alloc (.cells #[v1, v2, v3, v4] 30)) (w.alloc (.cells #[v1, v2, v3, v4] 30)).heap.size (some ⟨w.heap.size, 0, none⟩) [v1, v2, v3, v4] [p1, p2, p3, p4] := by
  have hb : Below w.heap.size w (w.alloc (.cells #[v1, v2, v3, v4] 30)) := (Below.refl _ w).alloc (Nat.le_refl _) _
  have hmore : ∀ v p, IsB w w.heap.size v p → IsB (w.alloc (.cells #[v1, v2, v3, v4] 30)) (w.alloc (.cells #[v1, v2, v3, v4] 30)).heap.size v p := by
    rintro v p ⟨A, c, h1, h2, h3, h4⟩
    exact ⟨A, c, h1, (h2.below hb).more hb.size, h3, h4⟩
  refine ⟨(Lies.newN w [v1, v2, v3, v4] _).more (by simp), rfl, fun i p hp => ?_⟩
  match i, hp with
  | 0, hp => simp only [List.getElem?_cons_zero, Option.some.injEq] at hp; subst hp; exact ⟨_, rfl, hmore _ _ h1⟩
  | 1, hp => simp only [List.getElem?_cons_succ, List.getElem?_cons_zero, Option.some.injEq] at hp; subst hp; exact ⟨_, rfl, hmore _ _ h2⟩
  | 2, hp => simp only [List.getElem?_cons_succ, List.getElem?_cons_zero, Option.some.injEq] at hp; subst hp; exact ⟨_, rfl, hmore _ _ h3⟩
  | 3, hp => simp only [List.getElem?_cons_succ, List.getElem?_cons_zero, Option.some.injEq] at hp; subst hp; exact ⟨_, rfl, hmore _ _ h4⟩
  | i + 4, hp => simp at hp
theorem tot4 (p q r s : List UInt8) : tot [p, q, r, s] = p.length + q.length + r.length + s.length := by simp [tot]; omega
/-- four parts in a new row, joined -/
theorem djoin_any (v1 v2 v3 v4 : Value) (p1 p2 p3 p4 : List UInt8) (w : World) (h1 : IsB w w.heap.size v1 p1) (h2 : IsB w w.heap.size v2 p2) (h3 : IsB w w.heap.size v3 p3) (h4 : IsB w w.heap.size v4 p4) (n : Nat) (hn : p1.length + p2.length + p3.length + p4.length = n) (hm : n ≤ 100000) :
    Calls Tryz.prog 46 #[.slice (some ⟨w.heap.size, 0, none⟩) 4 4] (w.alloc (.cells #[v1, v2, v3, v4] 30)) fun e w' =>
      ∃ A' c', e = .returned (.slice A' n c') ∧ w'.ownsRow w.heap.size 5 1 (.slice A' n c') n ((p1 ++ p2 ++ p3 ++ p4).map bv) ∧ Below w.heap.size w w' := by
  have hP := parts4 _ _ _ _ _ _ _ _ h1 h2 h3 h4
  have ht : tot [p1, p2, p3, p4] = n := by rw [tot4, hn]
  refine (join_any _ 4 _ _ _ hP (by simp [maxLen]) (by rw [ht]; omega)).mono ?_
  rintro e w' ⟨A', c', rfl, hown, hb⟩
  rw [ht] at hown ⊢
  have e3 : [p1, p2, p3, p4].flatten = p1 ++ p2 ++ p3 ++ p4 := by simp
  rw [e3] at hown
  exact ⟨A', c', rfl, own_base hown (by simp), ((Below.refl _ w).alloc (Nat.le_refl _) _).trans (hb.mono (by simp))⟩
end Go.Proofs.YtabljmiiekpgiaaGreatDoor


