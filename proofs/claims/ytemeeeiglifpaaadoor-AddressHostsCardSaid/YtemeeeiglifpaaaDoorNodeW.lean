/- Layer 8: the law NodeSame, for whatever two nodes. It writes nothing that was there. -/
import Derived.Test.YtemeeeiglifpaaaDoorNodeTV
import Derived.Test.YtemeeeiglifpaaaDoorNodeUO
import Derived.Deep.RegionHeld3



namespace Go.Proofs.YtemeeeiglifpaaaDoor
open Go.ChangeShapes Go.WideShapes Go.ChangeAt Go.RowKit

/-- a node that lies in a block is a list of its own -/
theorem list1_of {V : World} {g : Nat} {n : Nd} {A K : Option Addr} {c k : Nat} (h : Whole V g 27 #[hv n.t, .slice A n.v.length c, .slice K n.ks.length k]) (hN : Node V V.heap.size A c K k n) : Nodes V V.heap.size (some ⟨g, 0, none⟩) [n] := by
  refine .mk [hv n.t, .slice A n.v.length c, .slice K n.ks.length k] (fun _ => K) (fun _ => k) (fun _ => ⟨_, rfl, h.lt, fun j x hx => ?_⟩) rfl (fun i m hm => ?_) (fun i m hm => ?_)
  · rw [add_row, h.cell]
    simpa using hx
  · match i, hm with
    | 0, hm => simp only [List.getElem?_cons_zero, Option.some.injEq] at hm; subst hm; exact ⟨rfl, ⟨_, rfl, A, c, rfl, hN.data, hN.dc, hN.dm⟩, rfl, hN.kc, hN.km⟩
    | i + 1, hm => simp at hm
  · match i, hm with
    | 0, hm => simp only [List.getElem?_cons_zero, Option.some.injEq] at hm; subst hm; exact hN.kids
    | i + 1, hm => simp at hm
theorem wnew1 (w : World) (o : Obj) (t : TypeId) (cs : Array Value) : Whole ((w.alloc o).alloc (.cells cs t)) (w.heap.size + 1) t cs := by
  have := Whole.new (w.alloc o) t cs
  rw [World.size_alloc] at this
  exact this
theorem few_one (n : Nd) (A : Option Addr) (c : Nat) (K : Option Addr) (k : Nat) (w : World) (h : Node w w.heap.size A c K k n) (hb : Bnd n) :
    Calls Tryd.prog 11 #[.slice (some ⟨w.heap.size, 0, none⟩) 1 1] (w.alloc (.cells #[hv n.t, .slice A n.v.length c, .slice K n.ks.length k] 27)) fun e w' => e = .returned (.bool (decide (cnt 21 [n] ≤ 200))) ∧ Below w.heap.size w w' := by
  have hal : Below w.heap.size w (w.alloc (.cells #[hv n.t, .slice A n.v.length c, .slice K n.ks.length k] 27)) := (Below.refl _ w).alloc (Nat.le_refl _) _
  refine (few_any (some ⟨w.heap.size, 0, none⟩) 1 [n] _ ((h.list1 27).more (by simp)) (by simp) (by intro m hm; rw [List.mem_singleton.1 hm]; exact hb)).mono ?_
  rintro e w1 ⟨rfl, b1⟩
  exact ⟨rfl, hal.trans (b1.mono hal.size)⟩
theorem few1_of {n : Nd} (h : cnt 21 [n] ≤ 200) : Few1 n := (few_of 21 [n] h).2 n (by simp)
end Go.Proofs.YtemeeeiglifpaaaDoor

