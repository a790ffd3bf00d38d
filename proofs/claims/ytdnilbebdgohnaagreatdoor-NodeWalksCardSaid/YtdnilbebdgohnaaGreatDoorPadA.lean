/- Layer 3, package pad and its reference: Gap, Up, Zero, Next, for whatever numbers and bytes. They write nothing that was there. -/
import Derived.Test.YtdnilbebdgohnaaGreatDoorChecked
import Derived.Test.YtdnilbebdgohnaaGreatDoorSame


namespace Go.Proofs.YtdnilbebdgohnaaGreatDoor
open Go.RowKit

/-! ### the numbers -/
def gap (n : Nat) : Nat := (4 - n % 4) % 4
def up (n : Nat) : Nat := n + gap n
theorem gap_lt (n : Nat) : gap n < 4 := Nat.mod_lt _ (by omega)
theorem neg_and3 (n : Nat) (hn : n < 4611686018427387904) : bits BinOp.and IntKind.i64 (-(n : Int)) 3 = ((gap n : Nat) : Int) := by
  show IntKind.i64.wrap ((BitVec.ofInt 64 (-(n : Int)) &&& BitVec.ofInt 64 3).toNat : Int) = _
  have e3 : (BitVec.ofInt 64 3).toNat = 2 ^ 2 - 1 := by decide
  rw [BitVec.toNat_and, e3, Nat.and_two_pow_sub_one_eq_mod, BitVec.toNat_ofInt, IntKind.wrap_i64]
  unfold gap
  omega

theorem gap_any (n : Nat) (hn : n < 4611686018427387904) (w : World) : Calls Tryz.prog 74 #[.int .i64 (n : Int)] w fun e w' => e = .returned (.int .i64 (gap n : Nat)) ∧ w = w' := by
  have H := Lib.hid (neg_and3 n hn)
  go_enter Tryz.func74, Tryz.ntmps74
  go_wp2
  go_ret
  exact ⟨ret_int (by rw [← H.out]), rfl⟩
theorem up_any (n : Nat) (hn : n < 4611686018427387904) (w : World) : Calls Tryz.prog 63 #[.int .i64 (n : Int)] w fun e w' => e = .returned (.int .i64 (up n : Nat)) ∧ w = w' := by
  have hg := gap_lt n
  have H : Hid (up n = n + gap n) := rfl
  generalize up n = u at *
  go_enter Tryz.func63, Tryz.ntmps63
  go_wp2_with (go_at_call 74; refine (gap_any n hn _).mono ?_; rintro e w' ⟨rfl, rfl⟩)
  go_ret
  exact ⟨ret_int (by rw [H.out]; go_num), rfl⟩
/-! ### Zero -/
def zeroB (l : List UInt8) : Bool := l.all (· == 0)
theorem zeroB_take {l : List UInt8} {k : Nat} {x : UInt8} (h : l[k]? = some x) (h0 : zeroB (l.take k) = true) (hx : x = 0) : zeroB (l.take (k + 1)) = true := by
  rw [take_some h]
  unfold zeroB at h0 ⊢
  rw [List.all_append, h0, hx]
  rfl
theorem zeroB_no {l : List UInt8} {k : Nat} {x : UInt8} (h : l[k]? = some x) (hx : x ≠ 0) : zeroB l = false := by
  unfold zeroB
  rw [List.all_eq_false]
  exact ⟨x, List.mem_of_getElem? h, by simpa using hx⟩
theorem zero_any (A : Option Addr) (c B : Nat) (l : List UInt8) (w : World) (h : Lies w B A (l.map bv)) (hn : l.length ≤ maxLen) :
    Calls Tryz.prog 86 #[.slice A l.length c] w fun e w' => e = .returned (.bool (zeroB l)) ∧ w = w' := by
  unfold maxLen at hn
  go_enter Tryz.func86, Tryz.ntmps86
  go_wp2
  go_loop [7] (fun i => ∃ k : Nat, k ≤ l.length ∧ i = .int .i64 k ∧ Hid (zeroB (l.take k) = true)) (fun i => l.length - (intOf i).toNat)
  case atStart => exact ⟨0, Nat.zero_le _, rfl, rfl⟩
  case round =>
    obtain ⟨k, hk, rfl, hz⟩ := hrel
    by_cases hlt : k < l.length
    · obtain ⟨ad, x, rfl, hb, hx, hc⟩ := h.byte hlt
      by_cases h0 : x = 0
      · have HT := Lib.hid (zeroB_take hx.out hz.out h0)
        have hne : ((x.toNat : Int) != 0) = false := by rw [h0]; rfl
        clear h0
        go_wp2
        go_round
        case rel => exact ⟨k + 1, by omega, by go_num, HT⟩
        case measure => simp [intOf]; omega
      · have HN := Lib.hid (zeroB_no hx.out h0)
        have hne : ((x.toNat : Int) != 0) = true := by
          rw [bne_iff_ne]
          intro h
          exact h0 (UInt8.toNat_inj.1 (by simpa using h))
        clear h0
        go_wp2
        go_ret
        exact ⟨ret_bool (by rw [HN.out]), rfl⟩
    · have HE : Hid (zeroB l = true) := by
        have := hz.out
        rw [List.take_of_length_le (by omega)] at this
        exact this
      go_wp2
      go_ret
      exact ⟨ret_bool (by rw [HE.out]), rfl⟩
end Go.Proofs.YtdnilbebdgohnaaGreatDoor

