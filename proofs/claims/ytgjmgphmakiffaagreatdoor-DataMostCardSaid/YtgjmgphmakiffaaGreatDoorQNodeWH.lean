/- Layer 8, the reference: Clone. The new nodes lie in new blocks that may be written. -/
import Derived.Test.YtgjmgphmakiffaaGreatDoorQNodeWG
import Derived.Test.YtgjmgphmakiffaaGreatDoorQTC
import Derived.Test.YtgjmgphmakiffaaGreatDoorQTA


namespace Go.Proofs.YtgjmgphmakiffaaGreatDoor
open Go.RowKit Go.Shelf

def RowL (L : Nat) (W : World) (v : Value) : Nat → Prop := fun b => L ≤ b ∧ b < W.heap.size ∧ some b ≠ v.ownBlock ∧ LooseB W b
structure NRowL (W : World) (L : Nat) (v : Value) (ns : List Nd) : Prop where
  own : ∃ us, W.ownsRow L 116 3 v ns.length us ∧ ∃ Ks cs, Elems W (RowL L W v) us ns Ks cs
theorem LooseB.same {w w' : World} {b : Nat} (h : LooseB w b) (e : w'.heap[b]? = w.heap[b]?) : LooseB w' b := by
  obtain ⟨cs, t, h⟩ := h
  exact ⟨cs, t, e.trans h⟩
/-- nothing but the row's own block turned, and the row grew by a node that lies behind what was there -/
theorem NRowL.grow {W W2 W3 : World} {L : Nat} {v v' : Value} {ns : List Nd} {us : List Value} {A K : Option Addr} {c k : Nat} {n : Nd} {Ks : Nat → Option Addr} {cs : Nat → Nat}
    (hrow : W.ownsRow L 116 3 v ns.length us) (hE : Elems W (RowL L W v) us ns Ks cs) (hLW : L ≤ W.heap.size) (hb : Below W.heap.size W W2) (hN : NodeS W2 (fun b => W.heap.size ≤ b ∧ b < W2.heap.size ∧ LooseB W2 b) A c K k n)
    (hg : W2.grownBy W3 v.ownBlock) (hown : W3.ownsRow L 116 3 v' (ns.length + 1) (us ++ [hv n.t, .slice A n.v.length c, .slice K n.ks.length k]))
    (hblk : (∃ q, W2.heap.size ≤ q ∧ v'.ownBlock = some q) ∨ (v'.ownBlock = v.ownBlock ∧ ∃ g, v.ownBlock = some g)) : NRowL W3 L v' (ns ++ [n]) := by
  have hlt : ∀ g, v.ownBlock = some g → g < W.heap.size := fun g hg => (hrow.lt g hg).2
  have hblock : ∀ b, b < W2.heap.size → some b ≠ v.ownBlock → W3.heap[b]? = W2.heap[b]? := fun b h1 h2 => hg.block b h1 h2
  have hkeep : ∀ p : Addr, p.block < W2.heap.size → some p.block ≠ v.ownBlock → W3.cell? p = W2.cell? p := fun p h1 h2 => World.cell?_of_block (hblock p.block h1 h2)
  have hs : ∀ b, (b < W.heap.size ∧ some b ≠ v.ownBlock) ∨ (W.heap.size ≤ b ∧ b < W2.heap.size) → some b ≠ v'.ownBlock := by
    rintro b hb' e
    rcases hblk with ⟨q, h1, h2⟩ | ⟨h1, _⟩
    · rw [h2] at e
      simp only [Option.some.injEq] at e
      have := hb.size
      omega
    · rw [h1] at e
      rcases hb' with h3 | h3
      · exact h3.2 e
      · have := hlt b e.symm
        omega
  have hE3 : Elems W3 (RowL L W3 v') us ns Ks cs := hE.turn (fun p hp => by
      have h1 := hb.size
      exact (hkeep p (by have := hp.2.1; omega) hp.2.2.1).trans (hb.cell hp.2.1)) (fun b hb' => by
      have h1 := hb.size
      have h2 := hb'.2.1
      exact ⟨hb'.1, by have := hg.size; omega, hs b (.inl ⟨hb'.2.1, hb'.2.2.1⟩), hb'.2.2.2.same ((hblock b (by omega) hb'.2.2.1).trans (hb.block b h2))⟩)
  have hN3 : NodeS W3 (RowL L W3 v') A c K k n := hN.turn (fun p hp => hkeep p hp.2.1 fun e => by have := hlt p.block e.symm; omega) (fun b hb' => ⟨by omega, by have := hg.size; omega, hs b (.inr ⟨hb'.1, hb'.2.1⟩), hb'.2.2.same (hblock b hb'.2.1 fun e => by have := hlt b e.symm; omega)⟩)
  obtain ⟨Ks', cs', h⟩ := hE3.snoc hN3
  exact ⟨⟨_, by rw [List.length_append]; exact hown, Ks', cs', h⟩⟩
end Go.Proofs.YtgjmgphmakiffaaGreatDoor


