/- Layer 6, package tlv: frameAt, nextAt, for whatever bytes. They write nothing that was there. -/
import Derived.Test.YtemeeeiglifpaaaDoorTlvB
import Derived.Test.YtemeeeiglifpaaaDoorWireE
import Derived.Test.YtemeeeiglifpaaaDoorErrA
import Derived.Laws.ResultCell




namespace Go.Proofs.YtemeeeiglifpaaaDoor
open Go.RowKit

def u16of (n : Nat) : UInt16 := UInt16.ofNat n
/-- the frame at an offset -/
def fa (b : List UInt8) (k : Nat) : Option Fr :=
  if b.length < k + 4 then none
  else if numOf ((b.drop (k + 2)).take 2) < 4 ∨ b.length < k + numOf ((b.drop (k + 2)).take 2) then none
  else some ⟨u16of (numOf ((b.drop k).take 2)), (b.drop (k + 4)).take (numOf ((b.drop (k + 2)).take 2) - 4)⟩
/-- what follows a frame that ends at e, where bytes follow -/
def nx (b : List UInt8) (e : Nat) : Option Nat := if Good b (e : Int) ∧ up e ≠ b.length then some (up e) else none

/-- what follows a frame that ends at e, or the end -/
def na (b : List UInt8) (e : Nat) : Option Nat := if e = b.length then some e else nx b e

theorem u16of_toNat {n : Nat} (h : n < 65536) : (u16of n).toNat = n := by
  unfold u16of
  rw [UInt16.toNat_ofNat']
  exact Nat.mod_eq_of_lt h
theorem fa_len {b : List UInt8} {k : Nat} {f : Fr} (hf : fa b k = some f) : k + frL f ≤ b.length := by
  unfold fa at hf
  split at hf
  · simp at hf
  · split at hf
    · simp at hf
    · simp only [Option.some.injEq] at hf
      subst hf
      unfold frL
      simp only [List.length_take, List.length_drop]
      omega
end Go.Proofs.YtemeeeiglifpaaaDoor

