/- Layer 4, the reference: the remainder by a register, for whatever lists. -/
import Derived.Test.YtgjedidpimncaaaPolyL
namespace Go.Proofs.Ytgjedidpimncaaa
open Go.RowKit

theorem drop_front {a : List UInt8} {i : Nat} {x : UInt8} (h : a[i]? = some x) (j : Nat) : co (a.drop i) j = front (odd x) (co (a.drop (i + 1))) j := by
  cases j with
  | zero => rw [co_drop]; exact co_some h
  | succ j => rw [co_drop]; show _ = co (a.drop (i + 1)) j; rw [co_drop]; congr 1; omega
theorem reg_keep {a : List UInt8} {g F : Nat → Bool} {i d : Nat} {x : UInt8} (h : a[i]? = some x) (hR : Rem (co (a.drop (i + 1))) g d F) (h0 : front (odd x) F d = false) : Rem (co (a.drop i)) g d (front (odd x) F) := by
  refine ⟨(hR.quo.front (odd x)).congr (fun j => (drop_front h j).symm) (fun _ => rfl), fun j hj => ?_⟩
  by_cases e : j = d
  · rw [e, h0]
  · cases j with
    | zero => omega
    | succ j => exact hR.small j (by omega)
theorem reg_less {a : List UInt8} {g F : Nat → Bool} {i d : Nat} {x : UInt8} (h : a[i]? = some x) (hR : Rem (co (a.drop (i + 1))) g d F) (h0 : front (odd x) F d = true) (hg : g d = true) (hn : ∀ j, d < j → g j = false) :
    Rem (co (a.drop i)) g d (fun j => front (odd x) F j ^^ g j) := by
  have hq := ((hR.quo.front (odd x)).congr (fun j => (drop_front h j).symm) (fun _ => rfl)).less 0
  refine ⟨hq.congr (fun _ => rfl) (fun j => by simp), fun j hj => ?_⟩
  by_cases e : j = d
  · rw [e, h0, hg]; rfl
  · rw [hn j (by omega)]
    cases j with
    | zero => omega
    | succ j => show (F j ^^ false) = false; rw [hR.small j (by omega)]; rfl
/-- the row behind some rounds of the shift -/
def mid (F : Nat → Bool) (q j : Nat) : Bool := if q < j then F (j - 1) else F j
theorem mid_step (F : Nat → Bool) (m q : Nat) : (bits8 (mid F (q + 1)) m).set (q + 1) (b8 (F q)) = bits8 (mid F q) m := by
  rw [bits8_set]
  refine bits8_congr fun j _ => ?_
  unfold upd mid
  by_cases e : j = q + 1
  · rw [if_pos e, e, if_pos (by omega)]; rfl
  · rw [if_neg e]
    by_cases h : q < j
    · rw [if_pos h, if_pos (by omega)]
    · rw [if_neg h, if_neg (by omega)]
theorem mid_front (F : Nat → Bool) (m : Nat) (b : Bool) : (bits8 (mid F 0) m).set 0 (b8 b) = bits8 (front b F) m := by
  rw [bits8_set]
  refine bits8_congr fun j _ => ?_
  unfold upd mid
  cases j with
  | zero => rfl
  | succ j => simp [front]
def lower (G g : Nat → Bool) (q j : Nat) : Bool := if j < q then G j ^^ g j else G j
theorem lower_step (G g : Nat → Bool) (m q : Nat) : (bits8 (lower G g q) m).set q (b8 (G q ^^ g q)) = bits8 (lower G g (q + 1)) m := by
  rw [bits8_set]
  refine bits8_congr fun j _ => ?_
  unfold upd lower
  by_cases e : j = q
  · rw [if_pos e, e, if_pos (by omega)]
  · rw [if_neg e]
    by_cases h : j < q
    · rw [if_pos h, if_pos (by omega)]
    · rw [if_neg h, if_neg (by omega)]
theorem add_bits (a b : Bool) : (((b8 a).toNat : Int) + ((b8 b).toNat : Int)) % 2 = ((b8 (a ^^ b)).toNat : Int) := by cases a <;> cases b <;> rfl
theorem b8_le (b : Bool) : (b8 b).toNat ≤ 1 := by cases b <;> decide

theorem rmod_zero (A A' : Option Addr) (c c' : Nat) (a g : List UInt8) (w : World) (hg : Lies w w.heap.size A' (g.map bv)) (hlg : g.length ≤ 10000) (h0 : rl g = 0) :
    Calls Try.prog 23 #[.slice A a.length c, .slice A' g.length c'] w fun e w' => e = .returned (.tuple #[.slice none 0 0, .bool false]) ∧ Below w.heap.size w w' := by
  have H0 : Hid (∀ (L : List UInt8), Can (co g) L → L.length = 0) := fun L h => by
    have := h.len (red_can g) (fun _ => rfl)
    rw [this, red_len, h0]
  go_enter Try.func23, Try.ntmps23
  go_wp2_with fail
  refine (rreduce_any A' c' g w hg (by omega)).mono ?_
  rintro e w1 ⟨A1, n1, c1, L, rfl, h1, b1⟩
  have hn0 : n1 = 0 := by rw [← h1.len]; exact H0.out L h1.can
  subst hn0
  clear h1
  go_wp2_with fail
  go_ret2
  exact ⟨rfl, b1⟩
end Go.Proofs.Ytgjedidpimncaaa
