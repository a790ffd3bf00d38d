/- Layer 8: the bytes of nodes that fit (join). It writes nothing that was there. -/
import Derived.Test.YtdnilbebdgohnaaNodeB

namespace Go.Proofs.Ytdnilbebdgohnaa
open Go.RowKit

/-- the bytes of the node fit in a frame, and so do those inside -/
inductive FitN : Nd → Prop
  | mk {n : Nd} : n.vlen ≤ 65531 → (∀ k ∈ n.ks, FitN k) → FitN n
theorem FitN.vl {n : Nd} (h : FitN n) : n.vlen ≤ 65531 := by cases h; assumption
theorem FitN.kid {n : Nd} (h : FitN n) : ∀ k ∈ n.ks, FitN k := by cases h; assumption
theorem join2_any (v1 v2 : Value) (p1 p2 : List UInt8) (w : World) (h1 : IsB w w.heap.size v1 p1) (h2 : IsB w w.heap.size v2 p2) (hn : p1.length + p2.length ≤ 10000000) :
    Calls Try.prog 34 #[.slice (some ⟨w.heap.size, 0, none⟩) 2 2] (w.alloc (.cells #[v1, v2] 25)) fun e w' =>
      ∃ A' c', e = .returned (.slice A' (p1.length + p2.length) c') ∧ w'.ownsRow w.heap.size 5 1 (.slice A' (p1.length + p2.length) c') (p1.length + p2.length) ((p1 ++ p2).map bv) ∧ Below w.heap.size w w' := by
  have hP := parts2 _ _ _ _ h1 h2
  have ht : tot [p1, p2] = p1.length + p2.length := tot2 p1 p2
  refine (join_any _ 2 _ _ _ hP (by simp [maxLen]) (by rw [ht]; omega)).mono ?_
  rintro e w' ⟨A', c', rfl, hown, hb⟩
  rw [ht] at hown ⊢
  have e3 : [p1, p2].flatten = p1 ++ p2 := by simp
  rw [e3] at hown
  exact ⟨A', c', rfl, own_base hown (by simp), ((Below.refl _ w).alloc (Nat.le_refl _) _).trans (hb.mono (by simp))⟩
end Go.Proofs.Ytdnilbebdgohnaa

