/- NodePC + NodePB + NodePD -/
import Derived.Test.YteknmgmdmjmnmaaGreatDoorUNodeRAC
import Derived.Test.YteknmgmdmjmnmaaGreatDoorUNO
import Derived.Test.YteknmgmdmjmnmaaGreatDoorUNF
import Derived.Test.YteknmgmdmjmnmaaGreatDoorUNA
import Derived.Test.YteknmgmdmjmnmaaGreatDoorUTC
import Derived.Test.YteknmgmdmjmnmaaGreatDoorUTA
import Derived.Test.YteknmgmdmjmnmaaGreatDoorUSplitR
import Derived.Deep.Cut





namespace Go.Proofs.YteknmgmdmjmnmaaGreatDoor
open Go.RowKit

/-! ### a row of nodes whose data lie below B, what is inside from X on -/
def RowF (B X : Nat) (W : World) (v : Value) : Nat → Prop := fun b => (b < B ∨ X ≤ b) ∧ b < W.heap.size ∧ some b ≠ v.ownBlock
structure NRowF (B X : Nat) (W : World) (v : Value) (ns : List Nd) : Prop where
  own : ∃ us, W.ownsRow X 51 3 v ns.length us ∧ ∃ Ks cs, Elems W (RowF B X W v) us ns Ks cs
theorem NRowF.nil (B X : Nat) (W : World) : NRowF B X W (.slice none 0 0) [] := ⟨[], World.ownsRow_nil _ _ _ _, _, _, Elems.nil _ _⟩
theorem NRowF.below {B X : Nat} {W W2 : World} {v : Value} {ns : List Nd} (h : NRowF B X W v ns) (hb : Below W.heap.size W W2) : NRowF B X W2 v ns := by
  obtain ⟨us, h1, Ks, cs, h2⟩ := h.own
  exact ⟨us, own_below3 h1 hb, Ks, cs, h2.turn (fun p hp => hb.cell hp.2.1) fun b hb' => ⟨hb'.1, Nat.lt_of_lt_of_le hb'.2.1 hb.size, hb'.2.2⟩⟩
/-- a store into a block between B and X -/
theorem NRowF.setCell {B X : Nat} {W : World} {v : Value} {ns : List Nd} (h : NRowF B X W v ns) {g : Nat} (h1 : B ≤ g) (h2 : g < X) (i : Nat) (u : Value) : NRowF B X (W.setCell ⟨g, i, none⟩ u) v ns := by
  obtain ⟨us, h3, Ks, cs, h4⟩ := h.own
  refine ⟨us, h3.kept (grownBy_setCell1 _ _ _ _) (.inr fun e => ?_), Ks, cs, h4.turn (fun p hp => ?_) fun b hb' => ⟨hb'.1, by simpa [World.setCell] using hb'.2.1, hb'.2.2⟩⟩
  · have := (h3.lt g e).1
    omega
  · refine World.cell?_setCell_other _ _ _ _ (fun e => ?_)
    rw [← e] at hp
    have := hp.1
    simp only at this
    omega
theorem NRowF.nodesS {B X : Nat} {W : World} {A : Option Addr} {c : Nat} {ns : List Nd} (h : NRowF B X W (.slice A ns.length c) ns) : NodesS W (fun b => b < B ∨ (X ≤ b ∧ b < W.heap.size)) A ns ∧ ns.length ≤ c ∧ c ≤ maxLen := by
  obtain ⟨us, h1, Ks, cs, h2⟩ := h.own
  exact ⟨(h2.turn (fun _ _ => rfl) fun b hb => by rcases hb.1 with h3 | h3; (exact .inl h3); (exact .inr ⟨h3, hb.2.1⟩)).nodesS ((lies_own3 h1).turn (fun _ _ => rfl) fun b hb => .inr hb), own_cap3 h1⟩
theorem NRowF.grow {B X : Nat} {W W3 : World} {v v' : Value} {ns : List Nd} {us : List Value} {A K : Option Addr} {c k : Nat} {n : Nd} {Ks : Nat → Option Addr} {cs : Nat → Nat}
    (_hrow : W.ownsRow X 51 3 v ns.length us) (hE : Elems W (RowF B X W v) us ns Ks cs) (hN : NodeS W (RowF B X W v) A c K k n)
    (hg : W.grownBy W3 v.ownBlock) (hown : W3.ownsRow X 51 3 v' (ns.length + 1) (us ++ [hv n.t, .slice A n.v.length c, .slice K n.ks.length k]))
    (hblk : v'.ownBlock = some W.heap.size ∨ (v'.ownBlock = v.ownBlock ∧ ∃ g, v.ownBlock = some g)) : NRowF B X W3 v' (ns ++ [n]) := by
  have hkeep : ∀ p : Addr, p.block < W.heap.size → some p.block ≠ v.ownBlock → W3.cell? p = W.cell? p := fun p h1 h2 => World.cell?_of_block (hg.block p.block h1 h2)
  have hs : ∀ b, RowF B X W v b → RowF B X W3 v' b := fun b hb => ⟨hb.1, Nat.lt_of_lt_of_le hb.2.1 hg.size, by
    rcases hblk with h1 | ⟨h1, _⟩
    · rw [h1]
      intro e
      simp only [Option.some.injEq] at e
      have := hb.2.1
      omega
    · rw [h1]; exact hb.2.2⟩
  obtain ⟨Ks', cs', h⟩ := (hE.turn (fun p hp => hkeep p hp.2.1 hp.2.2) hs).snoc (hN.turn (fun p hp => hkeep p hp.2.1 hp.2.2) hs)
  exact ⟨_, by rw [List.length_append]; exact hown, Ks', cs', h⟩

section
variable {g : Nat} {c : Int} {fr : Fr} {l0 : Nat} {F : Form}
end
theorem NRowF.push {B X : Nat} {W W3 : World} {v v' : Value} {ns : List Nd} {us : List Value} {A K : Option Addr} {c k : Nat} {n : Nd} {Ks : Nat → Option Addr} {cs : Nat → Nat} (o : Obj)
    (hrow : W.ownsRow X 51 3 v ns.length us) (hE : Elems W (RowF B X W v) us ns Ks cs) (hN : NodeS W (RowF B X W v) A c K k n)
    (hg : (W.alloc o).grownBy W3 v.ownBlock) (hown : W3.ownsRow X 51 3 v' (ns.length + 1) (us ++ [hv n.t, .slice A n.v.length c, .slice K n.ks.length k]))
    (hblk : v'.ownBlock = some (W.alloc o).heap.size ∨ (v'.ownBlock = v.ownBlock ∧ ∃ g, v.ownBlock = some g)) : NRowF B X W3 v' (ns ++ [n]) := by
  have hs : ∀ b, RowF B X W v b → RowF B X (W.alloc o) v b := fun b hb => ⟨hb.1, by rw [World.size_alloc]; have := hb.2.1; omega, hb.2.2⟩
  exact NRowF.grow (hrow.alloc o) (hE.turn (fun p hp => World.cell?_alloc_lt _ _ _ hp.2.1) hs) (hN.turn (fun p hp => World.cell?_alloc_lt _ _ _ hp.2.1) hs) hg hown hblk
section
variable {W W2 : World} {g8 g9 g10 g14 g15 : Nat} {v9 v10 : Array Value} {t : UInt16} {Ad : Option Addr} {m cd : Nat} {Kd : Option Addr} {kn kc : Nat} {F : Form} {l0 : Nat}
end
end Go.Proofs.YteknmgmdmjmnmaaGreatDoor




namespace Go.Proofs.YteknmgmdmjmnmaaGreatDoor
open Go.ChangeShapes Go.WideShapes Go.ChangeAt Go.RowKit

/-- a row of bytes, whatever they are, in a block -/
def Byts (W : World) (g n : Nat) : Prop := ∃ cur : Array Value, Whole W g 5 cur ∧ ∀ j, j < n → ∃ x : UInt8, cur[j]? = some (bv x)
theorem Byts.at_ {W : World} {g n k : Nat} (h : Byts W g n) (hk : k < n) : ∃ x : UInt8, W.cell? ⟨g, k, none⟩ = some (.int .u8 (x.toNat : Int)) ∧ W.frozen? ⟨g, k, none⟩ = false ∧ Hid (∀ y : UInt8, Byts (W.setCell ⟨g, k, none⟩ (bv y)) g n) := by
  obtain ⟨cur, h1, h2⟩ := h
  obtain ⟨x, hx⟩ := h2 k hk
  refine ⟨x, by rw [h1.cell]; exact hx, h1.frozen k, fun y => ⟨_, h1.set_ k _, fun j hj => ?_⟩⟩
  rw [Array.getElem?_setIfInBounds]
  by_cases hjk : k = j
  · subst hjk
    rw [if_pos rfl, if_pos (Array.getElem?_eq_some_iff.1 hx).1]
    exact ⟨y, rfl⟩
  · rw [if_neg hjk]
    exact h2 j hj
end Go.Proofs.YteknmgmdmjmnmaaGreatDoor


