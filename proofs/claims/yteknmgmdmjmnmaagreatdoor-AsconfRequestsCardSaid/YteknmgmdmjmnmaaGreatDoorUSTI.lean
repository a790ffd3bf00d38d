/- Layer 17: the reference's Build; same, made (written by tools/gen_str_i.py). They write nothing that was there. -/
/- Layer 17: the law StreamAnswers. It writes nothing that was there. -/
/- Layer 17: what arguments that are rows of numbers read as. No condition of its own. -/
import Derived.Test.YteknmgmdmjmnmaaGreatDoorUSTG
import Derived.Test.YteknmgmdmjmnmaaGreatDoorUW
import Derived.Test.YteknmgmdmjmnmaaGreatDoorUDJ
import Derived.Test.YteknmgmdmjmnmaaGreatDoorUDA
import Derived.Test.YteknmgmdmjmnmaaGreatDoorUNF
import Derived.Deep.RegionHeld3
import Derived.Deep.Cut
import Derived.Laws.StructEq
import Derived.Test.YteknmgmdmjmnmaaGreatDoorUA
import Derived.Laws.BytesArg
import Derived.Test.YteknmgmdmjmnmaaGreatDoorUTA
import Derived.BigGuard
import Derived.Test.YteknmgmdmjmnmaaGreatDoorUCE
import Derived.Test.YteknmgmdmjmnmaaGreatDoorUCI
import Derived.Test.YteknmgmdmjmnmaaGreatDoorUNodeRAC
import Derived.Test.YteknmgmdmjmnmaaGreatDoorURefNS
import Derived.Test.YteknmgmdmjmnmaaGreatDoorUWireF
import Derived.Test.YteknmgmdmjmnmaaGreatDoorUNO
import Derived.Test.YteknmgmdmjmnmaaGreatDoorUNS
import Derived.Test.YteknmgmdmjmnmaaGreatDoorUS





namespace Go.Proofs.YteknmgmdmjmnmaaGreatDoor
open Go.RowKit

set_option linter.unusedSimpArgs false
theorem node_one17 {w : World} {g : Nat} {n : Nd} {A : Option Addr} {c : Nat} {K : Option Addr} {k : Nat} (hx : Whole w g 51 #[hv n.t, .slice A n.v.length c, .slice K n.ks.length k]) (h : Node w w.heap.size A c K k n) : Nodes w w.heap.size (some ⟨g, 0, none⟩) [n] := by
  refine .mk [hv n.t, .slice A n.v.length c, .slice K n.ks.length k] (fun _ => K) (fun _ => k) (fun _ => ⟨_, rfl, hx.lt, fun j x hj => ?_⟩) rfl (fun i m hm => ?_) (fun i m hm => ?_)
  · rw [add_row, hx.cell, List.getElem?_toArray]
    exact hj
  · match i, hm with
    | 0, hm =>
      simp only [List.getElem?_cons_zero, Option.some.injEq] at hm
      subst hm
      exact ⟨rfl, ⟨_, rfl, A, c, rfl, h.data, h.dc, h.dm⟩, rfl, h.kc, h.km⟩
    | i + 1, hm => simp at hm
  · match i, hm with
    | 0, hm =>
      simp only [List.getElem?_cons_zero, Option.some.injEq] at hm
      subst hm
      exact h.kids
    | i + 1, hm => simp at hm
end Go.Proofs.YteknmgmdmjmnmaaGreatDoor









namespace Go.Proofs.YteknmgmdmjmnmaaGreatDoor
open Go.ChangeShapes Go.WideShapes Go.ChangeAt Go.RowKit

set_option linter.unusedSimpArgs false
def fewN (n : Nd) : Bool := decide (cnt 21 [n] ≤ 200)
theorem fewN_fine {n : Nd} (h : fewN n = true) : Fine n := (few_fine 21 [n] (of_decide_eq_true h)).2.2 n (by simp)
theorem few17_any (n : Nd) (hb : Bnd n) (A : Option Addr) (c : Nat) (K : Option Addr) (k : Nat) (w : World) (h : Node w w.heap.size A c K k n) :
    Calls Tryz.prog 24 #[.slice (some ⟨w.heap.size, 0, none⟩) 1 1] (w.alloc (.cells #[hv n.t, .slice A n.v.length c, .slice K n.ks.length k] 51)) fun e w' => e = .returned (.bool (fewN n)) ∧ Below w.heap.size w w' := by
  have b0 : Below w.heap.size w (w.alloc (.cells #[hv n.t, .slice A n.v.length c, .slice K n.ks.length k] 51)) := (Below.refl _ w).alloc (Nat.le_refl _) _
  have hN := node_one17 (Whole.new w 51 #[hv n.t, .slice A n.v.length c, .slice K n.ks.length k]) (h.on b0)
  exact Calls.mono (few_any (some ⟨w.heap.size, 0, none⟩) 1 [n] _ hN (by simp) (by intro m hm; rw [List.mem_singleton.1 hm]; exact hb)) fun e w' h => ⟨h.1, b0.trans (h.2.mono b0.size)⟩
end Go.Proofs.YteknmgmdmjmnmaaGreatDoor




namespace Go.Proofs.YteknmgmdmjmnmaaGreatDoor
open Go.ChangeShapes Go.WideShapes Go.ChangeAt Go.RowKit

theorem hv17 {z : Int} (h : 0 ≤ z ∧ z < 65536) : Value.int .u16 z = hv (UInt16.ofNat z.toNat) := by
  rw [hv, UInt16.toNat_ofNat']
  congr 1
  omega
theorem uv17 {z : Int} (h : 0 ≤ z ∧ z < 4294967296) : Value.int .u32 z = uv (UInt32.ofNat z.toNat) := by
  rw [uv, UInt32.toNat_ofNat']
  congr 1
  omega
section
variable {H : Type} {enc : TypeId × Value → H} {w : World} {base : Nat} {v : Value} {d : DataW H} {p : List MemPlace}
end
end Go.Proofs.YteknmgmdmjmnmaaGreatDoor


