/- Layer 1, the reference package and what the statements compare with: Same, Equal, Right, Number, Numbers, Put, Join. -/
import Derived.Test.YtmohbkniekeafaaGreatDoorTW
import Derived.Test.YtmohbkniekeafaaGreatDoorTRefNS


namespace Go.Proofs.YtmohbkniekeafaaGreatDoor
open Go.RowKit

/-! ### Numbers of the reference -/
theorem rnumbers_any (k : Nat) (hk : widthB k = true) (A : Option Addr) (c : Nat) (b : List UInt8) (w : World) (h : Lies w w.heap.size A (b.map bv)) (hm : b.length % k = 0) (hs : b.length ≤ 35184372088832) :
    Calls Tryz.prog 95 #[.int .i64 (k : Int), .slice A b.length c] w fun e w' => ∃ A' c', e = .returned (.slice A' (b.length / k) c') ∧
      w'.ownsRow w.heap.size 22 1 (.slice A' (b.length / k) c') (b.length / k) ((nums k b).map uv) ∧ Below w.heap.size w w' := by
  have hk0 := (width_le hk).1
  have hk4 := (width_le hk).2
  have hb : (((b.length : Int) % (k : Int)) != 0) = false := by
    rw [bne_eq_false_iff_eq]
    omega
  have hdiv : b.length / k * k = b.length := by rw [Nat.mul_comm]; exact Nat.mul_div_cancel' (Nat.dvd_of_mod_eq_zero hm)
  have HD := Lib.hid hdiv
  have hle : b.length / k ≤ b.length := Nat.div_le_self _ _
  clear hdiv hm
  go_enter Tryz.func95, Tryz.ntmps95
  go_wp2_with (go_at_call 127; refine (right_any _ _).mono ?_; rintro e w' ⟨rfl, rfl⟩)
  go_loopw [5, 6] (fun v i wr => ∃ (j p : Nat) (A' : Option Addr) (c' : Nat), j ≤ b.length / k ∧ Hid (p = j * k) ∧ p ≤ b.length ∧ i = .int .i64 p ∧ v = .slice A' j c' ∧
      wr.ownsRow w.heap.size 22 1 (.slice A' j c') j (((nums k b).take j).map uv) ∧ Below w.heap.size w wr) (fun _ i _ => b.length - (intOf i).toNat)
  case atStart => exact ⟨0, 0, _, _, Nat.zero_le _, by unfold Hid; omega, Nat.zero_le _, rfl, rfl, World.ownsRow_nil _ _ _ _, Below.refl _ _⟩
  case round =>
    obtain ⟨j, p, A2, c2, hj, hp, hpl, rfl, rfl, hown, hbel⟩ := hrel
    by_cases hlt : j < b.length / k
    · have hpk : p + k ≤ b.length := by
        have h1 := hp.out
        have h2 := HD.out
        have h3 := Nat.mul_le_mul_right k (show j + 1 ≤ b.length / k by omega)
        rw [Nat.add_mul] at h3
        omega
      have hnum := rnumber_yes A c w.heap.size b p k wr (h.below hbel) (by omega) hk hpk
      have hx : numOf ((b.drop p).take k) = (numAt k b j).toNat := by rw [numAt_toNat, hp.out]
      rw [hx] at hnum
      have HN := Lib.hid hnum
      have HT := Lib.hid (nums_take k b j hlt)
      have hb1 := Lib.hid hbel.size
      clear hnum hx
      have hp3 : p < b.length := by omega
      go_wp2_with (first | (go_at_call 110; refine (HN.out).mono ?_; rintro e w' ⟨rfl, rfl⟩) | (at_builtin; refine wpList_append_lies _ rfl (.tmp 34) (.tmp 36) 23 rfl w.heap.size 22 _ 4 Tryz.underlying23 u32info rfl _ _ _ rfl (hown.alloc _) _ _ 1 1 _ rfl rfl (Lies.new1 _ _ _) (by intro u hu; rw [List.mem_singleton.1 hu]; rfl) (by omega) (by unfold maxLen; omega) (by simp; have := hb1.out; omega) ?_; intro A4 c4 w4 hown4 hgrow4 _))
      have hbel4 := below_own (hbel.alloc hbel.size _) (hown.alloc _) hgrow4 (Nat.le_refl _) (by simp; have := hbel.size; omega)
      have hown5 : w4.ownsRow w.heap.size 22 1 (.slice A4 (j + 1) c4) (j + 1) (((nums k b).take (j + 1)).map uv) := by
        rw [HT.out, List.map_append, List.map_singleton]
        exact hown4
      have H5 := Lib.hid hown5
      clear hown5 hown4 hown hgrow4
      go_wp2
      go_roundw
      case rel => exact ⟨j + 1, p + k, A4, c4, by omega, by unfold Hid; rw [Nat.add_mul, ← hp.out, Nat.one_mul], by omega, by go_num, rfl, H5.out, hbel4⟩
      case measure => simp [intOf]; omega
    · have hp3 : ¬ p < b.length := by
        have h1 := hp.out
        have h2 := HD.out
        have h3 : j = b.length / k := by omega
        rw [h3] at h1
        omega
      have hje : Hid (j = b.length / k) := by unfold Hid; omega
      have hown5 : wr.ownsRow w.heap.size 22 1 (.slice A2 (b.length / k) c2) (b.length / k) ((nums k b).map uv) := by
        have h3 := hje.out
        rw [h3, List.take_of_length_le (by rw [nums_len]; omega)] at hown
        exact hown
      have H5 := Lib.hid hown5
      clear hown5 hown
      go_wp2
      go_ret
      exact ⟨A2, c2, ret_slice (by rw [hje.out]), H5.out, hbel⟩

/-! ### Put of the reference -/
theorem be_four (k : Nat) (hk : k = 1 ∨ k = 2 ∨ k = 4) (x : UInt32) : be k x = (be 4 x).drop (4 - k) := by
  rcases hk with rfl | rfl | rfl <;> rfl
theorem be_cells (x : UInt32) : [Value.int .u8 ((x.toNat : Int) / 16777216 % 256), Value.int .u8 ((x.toNat : Int) / 65536 % 256), Value.int .u8 ((x.toNat : Int) / 256 % 256), Value.int .u8 ((x.toNat : Int) % 256)] = (be 4 x).map bv := by
  have h := fun s => shr_byte x s
  have h24 := h 24
  have h16 := h 16
  have h8 := h 8
  have h0 := h 0
  simp only [Int.reducePow, Int.pow_zero, Int.ediv_one] at h24 h16 h8 h0
  rw [h24, h16, h8, h0]
  rfl
theorem rput_any (k : Nat) (hk : k = 1 ∨ k = 2 ∨ k = 4) (A : Option Addr) (c : Nat) (l : List UInt32) (w : World) (h : Lies w w.heap.size A (l.map uv)) (hl : l.length ≤ 35184372088832) :
    Calls Tryz.prog 77 #[.int .i64 (k : Int), .slice A l.length c] w fun e w' => ∃ A' c', e = .returned (.slice A' (l.length * k) c') ∧
      w'.ownsRow w.heap.size 5 1 (.slice A' (l.length * k) c') (l.length * k) ((puts k l).map bv) ∧ Below w.heap.size w w' := by
  have hw : widthB k = true := by rcases hk with rfl | rfl | rfl <;> rfl
  have hk4 : k ≤ 4 := by omega
  have hk1 : 1 ≤ k := by omega
  have HB := Lib.hid (be_four k hk)
  clear hk
  go_enter Tryz.func77, Tryz.ntmps77
  go_wp2_with (go_at_call 127; refine (right_any _ _).mono ?_; rintro e w' ⟨rfl, rfl⟩)
  go_loopw [5, 6] (fun v i wr => ∃ (j : Nat) (A' : Option Addr) (c' : Nat), j ≤ l.length ∧ i = .int .i64 j ∧ v = .slice A' (j * k) c' ∧
      wr.ownsRow w.heap.size 5 1 (.slice A' (j * k) c') (j * k) ((puts k (l.take j)).map bv) ∧ Below w.heap.size w wr)
    (fun _ i _ => l.length - (intOf i).toNat)
  case atStart => exact ⟨0, _, _, Nat.zero_le _, rfl, by rw [Nat.zero_mul], by rw [Nat.zero_mul]; exact World.ownsRow_nil _ _ _ _, Below.refl _ _⟩
  case round =>
    obtain ⟨j, A2, c2, hj, rfl, rfl, hown2, hbel⟩ := hrel
    by_cases hlt : j < l.length
    · obtain ⟨ad, x, rfl, hb, hx, hc⟩ := (h.below hbel).word hlt
      have hi1 : (j : Int) < (l.length : Int) := by omega
      obtain ⟨wo, hwo⟩ : ∃ wo : World, wo = wr := ⟨_, rfl⟩
      rw [← hwo] at hown2 hbel hc ⊢
      clear hwo
      go_wp2
      have HC := Lib.hid (be_cells x)
      go_region
      obtain ⟨w4, hw4⟩ : ∃ w4 : World, w4 = (wo.alloc (.cells #[.int .u8 ((x.toNat : Int) / 16777216 % 256), .int .u8 ((x.toNat : Int) / 65536 % 256), .int .u8 ((x.toNat : Int) / 256 % 256), .int .u8 ((x.toNat : Int) % 256)] 5)).drew := ⟨_, rfl⟩
      rw [← hw4]
      have hl4 : Lies w4 (wo.heap.size + 1) (some ⟨wo.heap.size, 0, none⟩) ((be 4 x).map bv) := by
        rw [hw4, ← HC.out]
        exact Lies.newN wo _ _
      have ho4 : w4.ownsRow w.heap.size 5 1 (.slice A2 (j * k) c2) (j * k) ((puts k (l.take j)).map bv) := by
        rw [hw4]
        exact hown2.alloc _
      have hb4 : Below w.heap.size w w4 := by
        rw [hw4]
        exact (hbel.alloc hbel.size _).drew
      have hsz4 : w.heap.size ≤ w4.heap.size := hb4.size
      have hl5 : Lies w4 (wo.heap.size + 1) (some ((⟨wo.heap.size, 0, none⟩ : Addr).add (4 - k))) ((be k x).map bv) := by
        have := hl4.drop (k := 4 - k) (c := 5) (by simp [be_len])
        rw [if_neg (by omega), ← List.map_drop, ← HB.out] at this
        exact this
      rw [add_row] at hl5
      have HP := Lib.hid (puts_take (k := k) hx.out)
      have hjk : j * k + k ≤ l.length * k := by
        have := Nat.mul_le_mul_right k (show j + 1 ≤ l.length by omega)
        rw [Nat.add_mul] at this
        omega
      have hjl : l.length * k ≤ 140737488355328 := by
        have := Nat.mul_le_mul_left l.length hk4
        omega
      have hbl := Lib.hid (be_len k x)
      clear hw4 hl4 hc hown2
      have ec : ¬ (4 : Nat) = 4 - k := by omega
      go_wp2_with (at_builtin; refine wpList_append_lies _ rfl (.tmp 42) (.tmp 46) 41 rfl w.heap.size 5 _ 1 Tryz.underlying41 u8info rfl _ _ _ rfl ho4 _ _ _ _ ((be k x).map bv) rfl (by rw [List.length_map, be_len]; omega) hl5 (one_bytes _) (by omega) (by unfold maxLen; omega) hsz4 ?_; intro A5 c5 w5 hown5 hgrow5 _)
      have hbel5 := below_own hb4 ho4 hgrow5 (Nat.le_refl _) hb4.size
      have e4 : j * k + (4 - (4 - k)) = (j + 1) * k := by rw [Nat.add_mul, Nat.one_mul]; omega
      have H5 : Hid (w5.ownsRow w.heap.size 5 1 (.slice A5 ((j + 1) * k) c5) ((j + 1) * k) ((puts k (l.take (j + 1))).map bv)) := by
        rw [e4] at hown5
        unfold Hid
        rw [HP.out, List.map_append]
        exact hown5
      have H6 := Lib.hid e4
      clear e4 hown5 hgrow5 ho4 hl5 ec
      go_wp2
      go_roundw
      case rel => exact ⟨j + 1, A5, c5, by omega, by go_num, by rw [H6.out], H5.out, hbel5⟩
      case measure => simp [intOf]; omega
    · obtain rfl : j = l.length := by omega
      rw [List.take_length] at hown2
      have H5 := Lib.hid hown2
      clear hown2
      go_wp2
      go_ret
      exact ⟨A2, c2, rfl, H5.out, hbel⟩
end Go.Proofs.YtmohbkniekeafaaGreatDoor


