/- Layer 1, package wire: what isWidth, number and Join return, for whatever arguments; they write nothing that was there. -/
import Derived.Test.YtemeeeiglifpaaaDoorChecked
import Derived.Test.YtemeeeiglifpaaaDoorJoin


namespace Go.Proofs.YtemeeeiglifpaaaDoor
open Go.RowKit

/-! ### isWidth -/
def widthB (k : Int) : Bool := decide (k = 1 ∨ k = 2 ∨ k = 4)
theorem isWidth_any (k : Int) (w : World) : Calls Tryd.prog 44 #[.int .i64 k] w fun e w' => e = .returned (.bool (widthB k)) ∧ w = w' := by
  by_cases h1 : k = 1
  · subst h1
    go_enter Tryd.func44, Tryd.ntmps44
    go_wp2
    go_ret
    exact ⟨rfl, rfl⟩
  · by_cases h2 : k = 2
    · subst h2
      go_enter Tryd.func44, Tryd.ntmps44
      go_wp2
      go_ret
      exact ⟨rfl, rfl⟩
    · by_cases h4 : k = 4
      · subst h4
        go_enter Tryd.func44, Tryd.ntmps44
        go_wp2
        go_ret
        exact ⟨rfl, rfl⟩
      · have e1 : (k == 1) = false := by simp [h1]
        have e2 : (k == 2) = false := by simp [h2]
        have e4 : (k == 4) = false := by simp [h4]
        go_enter Tryd.func44, Tryd.ntmps44
        go_wp2
        go_ret
        exact ⟨by simp [widthB, h1, h2, h4], rfl⟩

/-! ### number -/
def numStep (x : Nat) (c : UInt8) : Nat := (x * 256 + c.toNat) % 4294967296
def numOf (l : List UInt8) : Nat := l.foldl numStep 0
theorem numOf_lt (l : List UInt8) : numOf l < 4294967296 := by
  have h : ∀ (l : List UInt8) (x : Nat), x < 4294967296 → l.foldl numStep x < 4294967296 := by
    intro l
    induction l with
    | nil => intro x h; exact h
    | cons c l ih => intro x _; exact ih _ (Nat.mod_lt _ (by omega))
  exact h l 0 (by omega)
theorem numOf_take {l : List UInt8} {k : Nat} {x : UInt8} (h : l[k]? = some x) : numOf (l.take (k + 1)) = numStep (numOf (l.take k)) x := by
  rw [take_some h]
  simp only [numOf, List.foldl_append, List.foldl_cons, List.foldl_nil]
theorem or_step (x : Nat) (c : UInt8) (_hx : x < 4294967296) :
    bits BinOp.or IntKind.u32 ((x : Int) * 256 % 4294967296) ((c.toNat : Int) % 4294967296) = ((numStep x c : Nat) : Int) := by
  have hc : c.toNat < 256 := c.toNat_lt
  have e1 : ((x : Int) * 256 % 4294967296) = ((x * 256 % 4294967296 : Nat) : Int) := by omega
  have e2 : ((c.toNat : Int) % 4294967296) = ((c.toNat : Nat) : Int) := by omega
  rw [e1, e2, u32_or_nat _ _ (by omega) (by omega), nat_join 8 _ _ (by omega) (by omega)]
  unfold numStep
  omega
theorem number_any (A : Option Addr) (c B : Nat) (l : List UInt8) (w : World) (h : Lies w B A (l.map bv)) (hn : l.length ≤ maxLen) :
    Calls Tryd.prog 60 #[.slice A l.length c] w fun e w' => e = .returned (.int .u32 (numOf l : Nat)) ∧ w = w' := by
  unfold maxLen at hn
  go_enter Tryd.func60, Tryd.ntmps60
  go_wp2
  go_loop [3, 8] (fun t i => ∃ k : Nat, k ≤ l.length ∧ i = .int .i64 k ∧ t = .int .u32 (numOf (l.take k) : Nat))
                 (fun _ i => l.length - (intOf i).toNat)
  case atStart => exact ⟨0, Nat.zero_le _, rfl, rfl⟩
  case round =>
    obtain ⟨k, hk, rfl, rfl⟩ := hrel
    by_cases hlt : k < l.length
    · obtain ⟨ad, x, rfl, hb, hx, hc⟩ := h.byte hlt
      have hxn := numOf_lt (l.take k)
      have H2 := Lib.hid (or_step (numOf (l.take k)) x hxn)
      go_wp2
      go_round
      case rel => exact ⟨k + 1, by omega, by go_num, by rw [numOf_take hx.out, ← H2.out]⟩
      case measure => simp [intOf]; omega
    · go_wp2
      go_ret
      exact ⟨ret_int (by rw [List.take_of_length_le (by omega)]), rfl⟩

/-! ### Join -/
end Go.Proofs.YtemeeeiglifpaaaDoor

