/- What the statements compare bytes with (Same), and what a new row of bytes is, over whatever program that holds them. -/
import Derived.Test.YtemeeeiglifpaaaDoorChecked
import Derived.Test.YtemeeeiglifpaaaDoorBase


namespace Go.Proofs.YtemeeeiglifpaaaDoor
open Go.RowKit

theorem u8info : (Tryd.prog.info? 5).map (fun i => (i.zero, i.size, i.bytes)) = some (some (.int .u8 0), 1, 1) := by kernel_rfl

theorem own_empty (w : World) (base : Nat) (hb : base ≤ w.heap.size) : (w.alloc (.cells #[] 5)).ownsRow base 5 1 (.slice (some ⟨w.heap.size, 0, none⟩) 0 0) 0 [] :=
  World.ownsRow_made w #[] 0 hb (Nat.zero_le _) rfl


theorem Lies.drewN {w : World} {B : Nat} {A : Option Addr} {xs : List Value} (h : Lies w B A xs) (q : Nat) : Lies (w.drewN q) B A xs := h

theorem ne_of_at {α : Type} {a b : List α} {k : Nat} {x y : α} (h1 : a[k]? = some x) (h2 : b[k]? = some y) (h : x ≠ y) : a ≠ b := by
  intro e
  subst e
  rw [h1] at h2
  exact h (Option.some.inj h2)
theorem take_eq_snoc {α : Type} {a b : List α} {k : Nat} {x y : α} (h1 : a[k]? = some x) (h2 : b[k]? = some y) (he : a.take k = b.take k) (h : x = y) : a.take (k + 1) = b.take (k + 1) := by
  rw [take_some h1, take_some h2, he, h]

theorem same_any (A A' : Option Addr) (c c' B : Nat) (a b : List UInt8) (w : World) (ha : Lies w B A (a.map bv)) (hb : Lies w B A' (b.map bv)) (hn : a.length ≤ maxLen) :
    Calls Tryd.prog 17 #[.slice A a.length c, .slice A' b.length c'] w fun e w' => e = .returned (.bool (decide (a = b))) ∧ ∃ q, w' = w.drewN q := by
  unfold maxLen at hn
  by_cases hl : a.length = b.length
  · have hneq : ((a.length : Int) != (b.length : Int)) = false := by rw [bne_eq_false_iff_eq]; omega
    have hlb : b.length ≤ a.length := by omega
    have hlb' : a.length ≤ b.length := by omega
    clear hl
    go_enter Tryd.func17, Tryd.ntmps17
    go_wp2
    go_loopw [5] (fun i wr => ∃ k q : Nat, k ≤ a.length ∧ i = .int .i64 k ∧ Hid (a.take k = b.take k) ∧ wr = w.drewN q) (fun i _ => a.length - (intOf i).toNat)
    case atStart => exact ⟨0, 0, Nat.zero_le _, rfl, rfl, rfl⟩
    case round =>
      obtain ⟨k, q, hk, rfl, htk, rfl⟩ := hrel
      by_cases hlt : k < a.length
      · obtain ⟨ad, x, rfl, _, hx, hc⟩ := ha.byte hlt
        obtain ⟨ad', y, rfl, _, hy, hc'⟩ := hb.byte (k := k) (by omega)
        have hi1 : (k : Int) < (a.length : Int) := by omega
        have hi2 : (k : Int) < (b.length : Int) := by omega
        by_cases hxy : x = y
        · have HT := Lib.hid (take_eq_snoc hx.out hy.out htk.out hxy)
          have hne : ((x.toNat : Int) != (y.toNat : Int)) = false := by rw [hxy]; simp
          clear hxy
          go_wp2
          go_quiet (fail)
          go_wp2
          go_roundw
          case rel => exact ⟨k + 1, q + nq, by omega, by go_num, HT, by simp⟩
          case measure => simp [intOf]; omega
        · have HN := Lib.hid (ne_of_at hx.out hy.out hxy)
          have hne : ((x.toNat : Int) != (y.toNat : Int)) = true := by
            rw [bne_iff_ne]
            intro h
            exact hxy (UInt8.toNat_inj.1 (by omega))
          clear hxy
          go_wp2
          go_quiet (fail)
          go_wp2
          go_ret
          exact ⟨ret_bool (by rw [decide_eq_false HN.out]), q + nq, by simp⟩
      · have HE : Hid (a = b) := by
          have := htk.out
          rw [List.take_of_length_le (by omega), List.take_of_length_le (by omega)] at this
          exact this
        go_wp2
        go_ret
        exact ⟨ret_bool (by rw [decide_eq_true HE.out]), q, rfl⟩
  · have hneq : ((a.length : Int) != (b.length : Int)) = true := by rw [bne_iff_ne]; omega
    have HN : Hid (a ≠ b) := fun h => hl (by rw [h])
    clear hl
    go_enter Tryd.func17, Tryd.ntmps17
    go_wp2
    go_ret
    exact ⟨ret_bool (by rw [decide_eq_false HN.out]), 0, rfl⟩
end Go.Proofs.YtemeeeiglifpaaaDoor

