/- Layer 13: the iterator over the pieces of a description (pieces). It writes nothing that was there. -/
import Derived.Test.YtmohbkniekeafaaGreatDoorQDA
import Derived.Test.YtmohbkniekeafaaGreatDoorQNF
import Derived.Deep.RegionHeld3
import Derived.Deep.Cut
import Derived.Laws.StructEq
import Derived.Test.YtmohbkniekeafaaGreatDoorQA
import Derived.Laws.BytesArg
import Derived.Test.YtmohbkniekeafaaGreatDoorQTA
import Derived.Test.YtmohbkniekeafaaGreatDoorQTC
import Derived.Test.YtmohbkniekeafaaGreatDoorQNW
import Derived.Test.YtmohbkniekeafaaGreatDoorQEL
import Derived.WalkMore
import Derived.Test.YtmohbkniekeafaaGreatDoorQDJ
import Derived.Test.YtmohbkniekeafaaGreatDoorQCL
import Derived.Test.YtmohbkniekeafaaGreatDoorQCI
import Derived.Test.YtmohbkniekeafaaGreatDoorQCR
import Derived.Test.YtmohbkniekeafaaGreatDoorQHX
import Derived.Test.YtmohbkniekeafaaGreatDoorQCT
import Derived.Test.YtmohbkniekeafaaGreatDoorQNS
import Derived.Test.YtmohbkniekeafaaGreatDoorQNodeUO
import Derived.Test.YtmohbkniekeafaaGreatDoorQCA
import Derived.ProofKit
import Derived.OpenShut
import Derived.LaidMore
import Derived.LaidHandle
import Derived.Lay
import Derived.Stop.Joined
import Derived.Test.YtmohbkniekeafaaGreatDoorQChunkF
import Derived.Test.YtmohbkniekeafaaGreatDoorQE
import Derived.Test.YtmohbkniekeafaaGreatDoorQNodeNO
import Derived.Test.YtmohbkniekeafaaGreatDoorQNA
import Derived.BigGuard
import Derived.Test.YtmohbkniekeafaaGreatDoorQCG
import Derived.Test.YtmohbkniekeafaaGreatDoorQChunkQ
import Derived.Test.YtmohbkniekeafaaGreatDoorQNodeRAC
import Derived.Test.YtmohbkniekeafaaGreatDoorQNodePX
import Derived.Test.YtmohbkniekeafaaGreatDoorQW
import Derived.Test.YtmohbkniekeafaaGreatDoorQK
import Derived.Deep.RegionLaw
import Derived.Sort.CutIn











namespace Go.Proofs.YtmohbkniekeafaaGreatDoor
open Go.RowKit Go.Shelf

attribute [local go_sem] Oper.semAt_some
set_option linter.unusedSimpArgs false
section
variable {p : Pt} {A : Option Addr} {c n l By gN gL Bp X X' : Nat} {G : World → Nat → Prop} {J : List Nat → World → Prop} {Jx : List Nat × Nat → World → Prop}
end
/-- what the caller's rounds may write does not change where another block is written -/
def KeepG (X : Nat) (G : World → Nat → Prop) : Prop := ∀ A g i u cs t z, X ≤ g → A.heap[g]? = some (.cells cs t z) → ¬ G A g → ∀ k, G (A.setCell ⟨g, i, none⟩ u) k → G A k
/-- from a round's beginning to the yield: only what is left and new blocks were written -/
structure PcK (X n₀ gL : Nat) (G : World → Nat → Prop) (J : World → Prop) (V U : World) : Prop where
  low : Below n₀ V U
  same : ∀ i, i < V.heap.size → i ≠ gL → U.heap[i]? = V.heap[i]?
  g : ∀ i, G U i → G V i
  j : J U
section
variable {X n₀ gL : Nat} {G : World → Nat → Prop} {β : Type} {J : β → World → Prop} {s : β} {V U : World}
theorem PcK.refl (h : J s V) : PcK X n₀ gL G (J s) V V := ⟨Below.refl _ _, fun _ _ _ => rfl, fun _ h => h, h⟩
theorem PcK.set (hJk : KeepJ X (fun t => t ≠ 5) G J) (hGk : KeepG X G) (hlt : ∀ i, G V i → i < V.heap.size) (hL : ¬ G V gL) (h0 : n₀ ≤ gL) (h1 : n₀ ≤ V.heap.size) (hX : X ≤ gL) (hX2 : X ≤ V.heap.size) (h : PcK X n₀ gL G (J s) V U) {b i : Nat} {t : TypeId} {cs : Array Value} (hb : Whole U b t cs) (ht : t ≠ 5) (hc : b = gL ∨ V.heap.size ≤ b) (u : Value) :
    PcK X n₀ gL G (J s) V (U.setCell ⟨b, i, none⟩ u) := by
  have hn : ¬ G U b := fun hg => by
    have h2 := h.g b hg
    rcases hc with e | e
    · rw [e] at h2; exact hL h2
    · have := hlt b h2; omega
  have hXb : X ≤ b := by rcases hc with e | e <;> omega
  exact ⟨h.low.setCell (by rcases hc with e | e <;> (show n₀ ≤ b; omega)) _, fun k hk hkL => (Below.heap_setCell U ⟨b, i, none⟩ u k (by show k ≠ b; rcases hc with e | e <;> omega)).trans (h.same k hk hkL), fun k hk => h.g k (hGk U b i u _ _ _ hXb hb hn k hk), hJk s U b i u _ _ _ h.j hXb hb ht hn⟩
theorem PcK.grow (hJo : OwnFrom X J) (hGo : GOwnN X G) (hX : X ≤ V.heap.size) (h1 : n₀ ≤ V.heap.size) (h : PcK X n₀ gL G (J s) V U) {U' : World} (hb : Below U.heap.size U U') (hs : V.heap.size ≤ U.heap.size) : PcK X n₀ gL G (J s) V U' :=
  ⟨h.low.trans (hb.mono (by omega)), fun k hk hkL => (hb.block k (by omega)).trans (h.same k hk hkL), fun k hk => h.g k (hGo _ _ none (by omega) (grown_of_below hb) (fun r e => by cases e) k hk), hJo _ _ _ none h.j (grown_of_below hb) (fun r e => by cases e)⟩
end
section
variable {p : Pt} {A : Option Addr} {c n l By gN gL Bp X X0 n₀ : Nat} {G : World → Nat → Prop} {J : List Nat → World → Prop} {pre : List Nat} {V V6 w7 : World}
end
end Go.Proofs.YtmohbkniekeafaaGreatDoor


