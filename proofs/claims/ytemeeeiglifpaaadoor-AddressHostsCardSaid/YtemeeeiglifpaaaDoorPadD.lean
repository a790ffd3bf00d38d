/- Layer 3, package pad: Sizes, for whatever numbers that are small enough to be summed. -/
import Derived.Test.YtemeeeiglifpaaaDoorPadC

namespace Go.Proofs.YtemeeeiglifpaaaDoor
open Go.RowKit

abbrev iv (n : Nat) : Value := .int .i64 (n : Int)
theorem Lies.int {w : World} {B : Nat} {A : Option Addr} {l : List Nat} (h : Lies w B A (l.map iv)) {k : Nat} (hk : k < l.length) :
    ∃ ad x, A = some ad ∧ ad.block < B ∧ Hid (l[k]? = some x) ∧ w.cell? (ad.add k) = some (.int .i64 (x : Int)) := h.of_map hk

/-! ### the sums -/
def sizes (l : List Nat) : Nat := l.foldl (fun s n => up s + n) 0
theorem sizes_snoc (l : List Nat) (x : Nat) : sizes (l ++ [x]) = up (sizes l) + x := by simp [sizes]
theorem sizes_take {l : List Nat} {k x : Nat} (h : l[k]? = some x) : sizes (l.take (k + 1)) = up (sizes (l.take k)) + x := by rw [take_some h, sizes_snoc]
/-! ### the closure, then Sizes -/
end Go.Proofs.YtemeeeiglifpaaaDoor

