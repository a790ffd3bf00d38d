/- NodeRA + NodeRB + NodeRC -/
import Derived.Test.YtmohbkniekeafaaGreatDoorRNF
import Derived.Test.YtmohbkniekeafaaGreatDoorRTC
import Derived.Test.YtmohbkniekeafaaGreatDoorRP
import Derived.Test.YtmohbkniekeafaaGreatDoorRW
import Derived.Test.YtmohbkniekeafaaGreatDoorRRefNS
import Derived.Deep.RegionHeld3
import Derived.Deep.Cut
import Derived.Test.YtmohbkniekeafaaGreatDoorRNA
import Derived.Test.YtmohbkniekeafaaGreatDoorRTA
import Derived.Test.YtmohbkniekeafaaGreatDoorRNS
import Derived.Test.YtmohbkniekeafaaGreatDoorRNodeUO


namespace Go.Proofs.YtmohbkniekeafaaGreatDoor
open Go.RowKit

/-- the two variables of a check: the node and its form -/
structure RBox2 (W : World) (g0 g1 : Nat) (n : Nd) (A : Option Addr) (cc : Nat) (K : Option Addr) (kk : Nat) (F : Form) : Prop where
  nd : Whole W g0 76 #[hv n.t, .slice A n.v.length cc, .slice K n.ks.length kk]
  fo : Whole W g1 207 #[.int .i64 F.cl, hv F.ty, .string F.nm, .int .i64 F.lo, .int .i64 F.hi, .int .i64 F.un, .int .i64 F.ki]
section
variable {W W' : World} {g0 g1 : Nat} {n : Nd} {A : Option Addr} {cc : Nat} {K : Option Addr} {kk : Nat} {F : Form}
theorem RBox2.below (h : RBox2 W g0 g1 n A cc K kk F) (hb : Below W.heap.size W W') : RBox2 W' g0 g1 n A cc K kk F := ⟨h.nd.below hb h.nd.lt, h.fo.below hb h.fo.lt⟩
theorem RBox2.c0 (h : RBox2 W g0 g1 n A cc K kk F) : W.cell? ⟨g0, 0, none⟩ = some (hv n.t) := by rw [h.nd.cell]; rfl
theorem RBox2.c1 (h : RBox2 W g0 g1 n A cc K kk F) : W.cell? ⟨g0, 1, none⟩ = some (.slice A n.v.length cc) := by rw [h.nd.cell]; rfl
theorem RBox2.c2 (h : RBox2 W g0 g1 n A cc K kk F) : W.cell? ⟨g0, 2, none⟩ = some (.slice K n.ks.length kk) := by rw [h.nd.cell]; rfl
theorem RBox2.k0 (h : RBox2 W g0 g1 n A cc K kk F) : W.cell? ⟨g1, 0, none⟩ = some (.int .i64 F.cl) := by rw [h.fo.cell]; rfl
theorem RBox2.k1 (h : RBox2 W g0 g1 n A cc K kk F) : W.cell? ⟨g1, 1, none⟩ = some (hv F.ty) := by rw [h.fo.cell]; rfl
theorem RBox2.k2 (h : RBox2 W g0 g1 n A cc K kk F) : W.cell? ⟨g1, 2, none⟩ = some (.string F.nm) := by rw [h.fo.cell]; rfl
theorem RBox2.k3 (h : RBox2 W g0 g1 n A cc K kk F) : W.cell? ⟨g1, 3, none⟩ = some (.int .i64 F.lo) := by rw [h.fo.cell]; rfl
theorem RBox2.k4 (h : RBox2 W g0 g1 n A cc K kk F) : W.cell? ⟨g1, 4, none⟩ = some (.int .i64 F.hi) := by rw [h.fo.cell]; rfl
theorem RBox2.k5 (h : RBox2 W g0 g1 n A cc K kk F) : W.cell? ⟨g1, 5, none⟩ = some (.int .i64 F.un) := by rw [h.fo.cell]; rfl
theorem RBox2.k6 (h : RBox2 W g0 g1 n A cc K kk F) : W.cell? ⟨g1, 6, none⟩ = some (.int .i64 F.ki) := by rw [h.fo.cell]; rfl
end
section
variable (f : Nat) (c : Int) (n : Nd) (d : Nat) (A : Option Addr) (cc : Nat) (K : Option Addr) (kk : Nat) (w : World) (F : Form) (code : Nat)
end
end Go.Proofs.YtmohbkniekeafaaGreatDoor







namespace Go.Proofs.YtmohbkniekeafaaGreatDoor
open Go.ChangeShapes Go.WideShapes Go.ChangeAt Go.RowKit

/-! ### few nodes have few bytes -/
def sb : List Nd → Nat
  | [] => 0
  | x :: l => (7 + x.vlen) + sb l
/-! ### right -/
end Go.Proofs.YtmohbkniekeafaaGreatDoor


