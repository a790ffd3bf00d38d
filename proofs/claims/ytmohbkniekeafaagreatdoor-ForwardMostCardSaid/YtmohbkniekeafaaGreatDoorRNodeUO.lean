/- NodeU + OpenN -/
import Derived.Test.YtmohbkniekeafaaGreatDoorRNF
import Derived.Test.YtmohbkniekeafaaGreatDoorRNA
import Derived.Test.YtmohbkniekeafaaGreatDoorRTC
import Derived.Deep.RegionHeld3
import Derived.Test.YtmohbkniekeafaaGreatDoorRA
import Derived.ChangeSame
import Derived.Deep.Strs




namespace Go.Proofs.YtmohbkniekeafaaGreatDoor
open Go.RowKit

/-! ### how many nodes there are -/
def cl (g : Nd → Nat) : Nat → List Nd → Nat
  | n, [] => n
  | n, x :: l => if n < 1000 then cl g (n + 1 + x.v.length / 1000 + g x) l else n
def cnt : Nat → List Nd → Nat
  | 0, _ => 1000
  | f + 1, l => cl (fun x => cnt f x.ks) 0 l
/-- at most D in the data of each -/
inductive Bnd : Nd → Prop
  | mk {n : Nd} : n.v.length ≤ 140737488355328 → n.ks.length ≤ 9223372036854775807 → (∀ k ∈ n.ks, Bnd k) → Bnd n
theorem Bnd.vl {n : Nd} (h : Bnd n) : n.v.length ≤ 140737488355328 := by cases h; assumption
theorem Bnd.kl {n : Nd} (h : Bnd n) : n.ks.length ≤ 9223372036854775807 := by cases h; assumption
theorem Bnd.kid {n : Nd} (h : Bnd n) : ∀ k ∈ n.ks, Bnd k := by cases h; assumption
end Go.Proofs.YtmohbkniekeafaaGreatDoor





namespace Go.Proofs.YtmohbkniekeafaaGreatDoor
open Go.ChangeShapes Go.WideShapes Go.ChangeAt Go.RowKit

section
variable {H : Type} {enc : TypeId × Value → H} {P : Program} {w : World} {held : Bool} {t e : TypeId} {fuel : Nat} {x : DataW H × List MemPlace} {A : Option Addr} {len cap : Nat}
end

theorem hv_of' {z : Int} (h : 0 ≤ z ∧ z < 65536) : Value.int .u16 z = hv (u16of z.toNat) := by
  rw [hv, u16of_toNat (by omega)]
  congr 1
  omega
section
variable {H : Type} {enc : TypeId × Value → H} {w : World}
end
section
variable {H : Type} {enc : TypeId × Value → H} {w : World} {base : Nat} {v : Value} {d : DataW H} {p : List MemPlace}
end
end Go.Proofs.YtmohbkniekeafaaGreatDoor


