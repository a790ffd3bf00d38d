/- Layer 10: the laws CauseMatchesReference and CauseParams. They write nothing that was there. -/
import Derived.Test.YtdnilbebdgohnaaCauseGK
import Derived.Test.YtdnilbebdgohnaaCauseCD
import Derived.Test.YtdnilbebdgohnaaNodeUO
import Derived.Test.YtdnilbebdgohnaaNodeRW




namespace Go.Proofs.Ytdnilbebdgohnaa
open Go.ChangeShapes Go.WideShapes Go.ChangeAt Go.RowKit

theorem fine_small {m : Nd} (h1 : m.v.length ≤ 800000) (h2 : m.ks = []) : Fine m := by
  obtain ⟨t, v, ks⟩ := m
  have h2' : ks = [] := h2
  subst h2'
  exact .mk (by rw [vlen_leaf]; exact h1) (Nat.zero_le _) (fun k hk => by cases hk)
theorem fine_z : Fine zN := fine_small (by decide) rfl
/-- a node in a box -/
theorem box_below {W W2 : World} {g : Nat} {n : Nd} {A : Option Addr} {c : Nat} {K : Option Addr} {k : Nat} (h : NdBox W g n A c K k) (hb : Below W.heap.size W W2) : NdBox W2 g n A c K k := h.below hb
theorem box_new (W : World) (n : Nd) (A : Option Addr) (c : Nat) (K : Option Addr) (k : Nat) : NdBox (W.alloc (.cells #[hv n.t, .slice A n.v.length c, .slice K n.ks.length k] 28)) W.heap.size n A c K k := Whole.new _ _ _
end Go.Proofs.Ytdnilbebdgohnaa

