/- Layer 1, package wire: Put, for whatever numbers. -/
import Derived.Test.YtemeeeiglifpaaaDoorWireA

namespace Go.Proofs.YtemeeeiglifpaaaDoor
open Go.RowKit

def beByte (s : Nat) (x : UInt32) : UInt8 := UInt8.ofNat (x.toNat / 2 ^ s)
def be (k : Nat) (x : UInt32) : List UInt8 := (List.range k).map fun j => beByte (8 * (k - 1 - j)) x
def puts (k : Nat) (l : List UInt32) : List UInt8 := l.flatMap (be k)
theorem be_len (k : Nat) (x : UInt32) : (be k x).length = k := by simp [be]
theorem be_take (k j : Nat) (x : UInt32) (hj : j < k) : (be k x).take (j + 1) = (be k x).take j ++ [beByte (8 * (k - 1 - j)) x] :=
  take_some (by simp [be, hj])
theorem puts_len (k : Nat) (l : List UInt32) : (puts k l).length = l.length * k := by
  induction l with
  | nil => simp [puts]
  | cons x l ih => simp only [puts, List.flatMap_cons, List.length_append, be_len, List.length_cons] at ih ⊢; rw [ih, Nat.add_mul]; omega
theorem puts_take {k i : Nat} {l : List UInt32} {x : UInt32} (h : l[i]? = some x) : puts k (l.take (i + 1)) = puts k (l.take i) ++ be k x := by
  rw [take_some h]
  simp [puts]
theorem shr_byte (x : UInt32) (s : Nat) : ((x.toNat : Int) / 2 ^ s % 256) = ((beByte s x).toNat : Int) := by
  unfold beByte
  rw [UInt8.toNat_ofNat']
  have : ((2 : Int) ^ s) = ((2 ^ s : Nat) : Int) := by norm_cast
  rw [this]
  omega

theorem put_bad (k : Int) (A : Option Addr) (n c : Nat) (w : World) (hk : widthB k = false) :
    Calls Tryd.prog 37 #[.int .i64 k, .slice A n c] w fun e w' => e = .returned (.slice none 0 0) ∧ w = w' := by
  go_enter Tryd.func37, Tryd.ntmps37
  go_wp2_with (go_at_call 44; refine (isWidth_any _ _).mono ?_; rintro e w' ⟨rfl, rfl⟩)
  go_ret
  exact ⟨rfl, rfl⟩

set_option maxRecDepth 100000 in
theorem put_any (k : Nat) (hk : k = 1 ∨ k = 2 ∨ k = 4) (A : Option Addr) (c : Nat) (l : List UInt32) (w : World) (h : Lies w w.heap.size A (l.map uv)) (hl : l.length ≤ 35184372088832) :
    Calls Tryd.prog 37 #[.int .i64 (k : Int), .slice A l.length c] w fun e w' => ∃ A' c', e = .returned (.slice A' (l.length * k) c') ∧
      w'.ownsRow w.heap.size 5 1 (.slice A' (l.length * k) c') (l.length * k) ((puts k l).map bv) ∧ Below w.heap.size w w' := by
  have hw : widthB k = true := by rcases hk with rfl | rfl | rfl <;> rfl
  have hk4 : k ≤ 4 := by omega
  have hk1 : 1 ≤ k := by omega
  have hmul : ((k : Int) * (l.length : Int)) = ((l.length * k : Nat) : Int) := by rw [Int.natCast_mul, Int.mul_comm]
  have hmle : l.length * k ≤ 140737488355328 := by
    have := Nat.mul_le_mul_left l.length hk4
    omega
  have HM := Lib.hid hmul
  clear hmul hk
  obtain ⟨i0, hi, hz0, hz1, hz2⟩ := info_parts u8info
  go_enter Tryd.func37, Tryd.ntmps37
  have hmi : wrap64 ((k : Int) * (l.length : Int)) = ((l.length * k : Nat) : Int) := by rw [HM.out]; exact IntWalk.wrap64_in _ ⟨by omega, by omega⟩
  have HMI := Lib.hid hmi
  clear hmi
  go_wp2_with (first
    | (go_at_call 44; refine (isWidth_any _ _).mono ?_; rintro e w' ⟨rfl, rfl⟩)
    | (at_make; refine wpList_make_own _ rfl (.const (.int .i64 0)) (.tmp 15) 24 rfl w.heap.size 5 i0 _ 1 Tryd.underlying24 hi hz0 hz1 .i64 .i64 _ (l.length * k) rfl rfl HMI.out (by rw [hz2]; omega) (by unfold maxLen; omega) (Nat.le_refl _) ?_; intro w1 hown hgrow))
  go_loopw [5, 19] (fun v i wr => ∃ (j : Nat) (A' : Option Addr) (c' : Nat), j ≤ l.length ∧ i = .int .i64 j ∧ v = .slice A' (j * k) c' ∧
      wr.ownsRow w.heap.size 5 1 (.slice A' (j * k) c') (j * k) ((puts k (l.take j)).map bv) ∧ Below w.heap.size w wr)
    (fun _ i _ => l.length - (intOf i).toNat)
  case atStart => exact ⟨0, _, _, Nat.zero_le _, rfl, by rw [Nat.zero_mul], by rw [Nat.zero_mul]; exact hown, (Below.refl _ _).grown hgrow (Nat.le_refl _) (by simp)⟩
  case round =>
    obtain ⟨j, A2, c2, hj, rfl, rfl, hown2, hbel⟩ := hrel
    by_cases hlt : j < l.length
    · obtain ⟨ad, x, rfl, hb, hx, hc⟩ := (h.below hbel).word hlt
      go_wp2
      obtain ⟨wo, hwo⟩ : ∃ wo : World, wo = wr := ⟨_, rfl⟩
      rw [← hwo] at hown2 hbel hc ⊢
      clear hwo
      go_loopw [5, 8] (fun v s wi => ∃ (m : Nat) (A' : Option Addr) (c' : Nat), m ≤ k ∧ s = .int .i64 (8 * ((k : Int) - 1 - (m : Int))) ∧ v = .slice A' (j * k + m) c' ∧
          wi.ownsRow w.heap.size 5 1 (.slice A' (j * k + m) c') (j * k + m) ((puts k (l.take j) ++ (be k x).take m).map bv) ∧ Below w.heap.size w wi)
        (fun _ s _ => (intOf s + 8).toNat)
      case atStart => exact ⟨0, _, _, Nat.zero_le _, by go_num, rfl, by simpa using hown2, hbel⟩
      case round =>
        obtain ⟨m, A3, c3, hm, rfl, rfl, hown3, hbel3⟩ := hrel
        have hjk : j * k + k ≤ l.length * k := by
          have := Nat.mul_le_mul_right k (show j + 1 ≤ l.length by omega)
          rw [Nat.add_mul] at this
          omega
        by_cases hlm : m < k
        · have HB := Lib.hid (be_take k m x hlm)
          have HS := Lib.hid (shr_byte x (8 * (k - 1 - m)))
          go_wp2_with (at_builtin; refine wpList_append_lies _ rfl (.tmp 30) (.tmp 35) 24 rfl w.heap.size 5 _ 1 Tryd.underlying24 u8info rfl _ _ _ rfl (hown3.alloc _) _ _ 1 1 _ rfl rfl (Lies.new1 _ _ _) (by intro u hu; rw [List.mem_singleton.1 hu]; rfl) (by omega) (by unfold maxLen; omega) (by simp; have := hbel3.size; omega) ?_; intro A4 c4 w4 hown4 hgrow4 _)
          have hbel4 := below_own (hbel3.alloc hbel3.size _) (hown3.alloc _) hgrow4 (Nat.le_refl _) (by simp; have := hbel3.size; omega)
          have hown5 : w4.ownsRow w.heap.size 5 1 (.slice A4 (j * k + (m + 1)) c4) (j * k + (m + 1)) ((puts k (l.take j) ++ (be k x).take (m + 1)).map bv) := by
            rw [HB.out, ← List.append_assoc, List.map_append, List.map_singleton, bv, ← HS.out]
            exact hown4
          have H5 := Lib.hid hown5
          clear hown5 hown4 hown3 hgrow4
          go_wp2
          go_roundw
          case rel => exact ⟨m + 1, A4, c4, by omega, by go_num, rfl, H5.out, hbel4⟩
          case measure => simp [intOf]; omega
        · have hmk : m = k := by omega
          have HP := Lib.hid (puts_take (k := k) hx.out)
          have hown5 : wr.ownsRow w.heap.size 5 1 (.slice A3 ((j + 1) * k) c3) ((j + 1) * k) ((puts k (l.take (j + 1))).map bv) := by
            rw [hmk] at hown3
            rw [HP.out, Nat.add_mul, Nat.one_mul]
            rw [show (be k x).take k = be k x from List.take_of_length_le (by rw [be_len]; omega)] at hown3
            exact hown3
          have H5 := Lib.hid hown5
          have H6 : Hid (j * k + m = (j + 1) * k) := by unfold Hid; rw [hmk, Nat.add_mul, Nat.one_mul]
          clear hown5 hown3 hmk
          go_wp2
          go_roundw
          case rel => exact ⟨j + 1, A3, c3, by omega, by go_num, by rw [H6.out], H5.out, hbel3⟩
          case measure => simp [intOf]; omega
    · obtain rfl : j = l.length := by omega
      rw [List.take_length] at hown2
      have H5 := Lib.hid hown2
      clear hown2
      go_wp2
      go_ret
      exact ⟨A2, c2, rfl, H5.out, hbel⟩
end Go.Proofs.YtemeeeiglifpaaaDoor

