/- Layer 1, the reference package and what the statements compare with: Same, Equal, Right, Number, Numbers, Put, Join. -/
import Derived.Test.YteknmgmdmjmnmaaGreatDoorUW
import Derived.Test.YteknmgmdmjmnmaaGreatDoorURefNS


namespace Go.Proofs.YteknmgmdmjmnmaaGreatDoor
open Go.RowKit

/-! ### Numbers of the reference -/
/-! ### Put of the reference -/
theorem be_four (k : Nat) (hk : k = 1 ∨ k = 2 ∨ k = 4) (x : UInt32) : be k x = (be 4 x).drop (4 - k) := by
  rcases hk with rfl | rfl | rfl <;> rfl
theorem be_cells (x : UInt32) : [Value.int .u8 ((x.toNat : Int) / 16777216 % 256), Value.int .u8 ((x.toNat : Int) / 65536 % 256), Value.int .u8 ((x.toNat : Int) / 256 % 256), Value.int .u8 ((x.toNat : Int) % 256)] = (be 4 x).map bv := by
  have h := fun s => shr_byte x s
  have h24 := h 24
  have h16 := h 16
  have h8 := h 8
  have h0 := h 0
  simp only [Int.reducePow, Int.pow_zero, Int.ediv_one] at h24 h16 h8 h0
  rw [h24, h16, h8, h0]
  rfl
theorem rput_any (k : Nat) (hk : k = 1 ∨ k = 2 ∨ k = 4) (A : Option Addr) (c : Nat) (l : List UInt32) (w : World) (h : Lies w w.heap.size A (l.map uv)) (hl : l.length ≤ 35184372088832) :
    Calls Tryz.prog 25 #[.int .i64 (k : Int), .slice A l.length c] w fun e w' => ∃ A' c', e = .returned (.slice A' (l.length * k) c') ∧
      w'.ownsRow w.heap.size 5 1 (.slice A' (l.length * k) c') (l.length * k) ((puts k l).map bv) ∧ Below w.heap.size w w' := by
  have hw : widthB k = true := by rcases hk with rfl | rfl | rfl <;> rfl
  have hk4 : k ≤ 4 := by omega
  have hk1 : 1 ≤ k := by omega
  have HB := Lib.hid (be_four k hk)
  clear hk
  go_enter Tryz.func25, Tryz.ntmps25
  go_wp2_with (go_at_call 62; refine (right_any _ _).mono ?_; rintro e w' ⟨rfl, rfl⟩)
  go_loopw [5, 6] (fun v i wr => ∃ (j : Nat) (A' : Option Addr) (c' : Nat), j ≤ l.length ∧ i = .int .i64 j ∧ v = .slice A' (j * k) c' ∧
      wr.ownsRow w.heap.size 5 1 (.slice A' (j * k) c') (j * k) ((puts k (l.take j)).map bv) ∧ Below w.heap.size w wr)
    (fun _ i _ => l.length - (intOf i).toNat)
  case atStart => exact ⟨0, _, _, Nat.zero_le _, rfl, by rw [Nat.zero_mul], by rw [Nat.zero_mul]; exact World.ownsRow_nil _ _ _ _, Below.refl _ _⟩
  case round =>
    obtain ⟨j, A2, c2, hj, rfl, rfl, hown2, hbel⟩ := hrel
    by_cases hlt : j < l.length
    · obtain ⟨ad, x, rfl, hb, hx, hc⟩ := (h.below hbel).word hlt
      have hi1 : (j : Int) < (l.length : Int) := by omega
      obtain ⟨wo, hwo⟩ : ∃ wo : World, wo = wr := ⟨_, rfl⟩
      rw [← hwo] at hown2 hbel hc ⊢
      clear hwo
      go_wp2
      have HC := Lib.hid (be_cells x)
      go_region
      obtain ⟨w4, hw4⟩ : ∃ w4 : World, w4 = (wo.alloc (.cells #[.int .u8 ((x.toNat : Int) / 16777216 % 256), .int .u8 ((x.toNat : Int) / 65536 % 256), .int .u8 ((x.toNat : Int) / 256 % 256), .int .u8 ((x.toNat : Int) % 256)] 5)).drew := ⟨_, rfl⟩
      rw [← hw4]
      have hl4 : Lies w4 (wo.heap.size + 1) (some ⟨wo.heap.size, 0, none⟩) ((be 4 x).map bv) := by
        rw [hw4, ← HC.out]
        exact Lies.newN wo _ _
      have ho4 : w4.ownsRow w.heap.size 5 1 (.slice A2 (j * k) c2) (j * k) ((puts k (l.take j)).map bv) := by
        rw [hw4]
        exact hown2.alloc _
      have hb4 : Below w.heap.size w w4 := by
        rw [hw4]
        exact (hbel.alloc hbel.size _).drew
      have hsz4 : w.heap.size ≤ w4.heap.size := hb4.size
      have hl5 : Lies w4 (wo.heap.size + 1) (some ((⟨wo.heap.size, 0, none⟩ : Addr).add (4 - k))) ((be k x).map bv) := by
        have := hl4.drop (k := 4 - k) (c := 5) (by simp [be_len])
        rw [if_neg (by omega), ← List.map_drop, ← HB.out] at this
        exact this
      rw [add_row] at hl5
      have HP := Lib.hid (puts_take (k := k) hx.out)
      have hjk : j * k + k ≤ l.length * k := by
        have := Nat.mul_le_mul_right k (show j + 1 ≤ l.length by omega)
        rw [Nat.add_mul] at this
        omega
      have hjl : l.length * k ≤ 140737488355328 := by
        have := Nat.mul_le_mul_left l.length hk4
        omega
      have hbl := Lib.hid (be_len k x)
      clear hw4 hl4 hc hown2
      have ec : ¬ (4 : Nat) = 4 - k := by omega
      go_wp2_with (at_builtin; refine wpList_append_lies _ rfl (.tmp 42) (.tmp 46) 48 rfl w.heap.size 5 _ 1 Tryz.underlying48 u8info rfl _ _ _ rfl ho4 _ _ _ _ ((be k x).map bv) rfl (by rw [List.length_map, be_len]; omega) hl5 (one_bytes _) (by omega) (by unfold maxLen; omega) hsz4 ?_; intro A5 c5 w5 hown5 hgrow5 _)
      have hbel5 := below_own hb4 ho4 hgrow5 (Nat.le_refl _) hb4.size
      have e4 : j * k + (4 - (4 - k)) = (j + 1) * k := by rw [Nat.add_mul, Nat.one_mul]; omega
      have H5 : Hid (w5.ownsRow w.heap.size 5 1 (.slice A5 ((j + 1) * k) c5) ((j + 1) * k) ((puts k (l.take (j + 1))).map bv)) := by
        rw [e4] at hown5
        unfold Hid
        rw [HP.out, List.map_append]
        exact hown5
      have H6 := Lib.hid e4
      clear e4 hown5 hgrow5 ho4 hl5 ec
      go_wp2
      go_roundw
      case rel => exact ⟨j + 1, A5, c5, by omega, by go_num, by rw [H6.out], H5.out, hbel5⟩
      case measure => simp [intOf]; omega
    · obtain rfl : j = l.length := by omega
      rw [List.take_length] at hown2
      have H5 := Lib.hid hown2
      clear hown2
      go_wp2
      go_ret
      exact ⟨A2, c2, rfl, H5.out, hbel⟩
end Go.Proofs.YteknmgmdmjmnmaaGreatDoor


