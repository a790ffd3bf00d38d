/- Layer 3, package pad and its reference: Gap, Up, Zero, Next, for whatever numbers and bytes. They write nothing that was there. -/
import Derived.Test.YtdnilbebdgohnaaChecked
import Derived.Test.YtdnilbebdgohnaaSame


namespace Go.Proofs.Ytdnilbebdgohnaa
open Go.RowKit

/-! ### the numbers -/
def gap (n : Nat) : Nat := (4 - n % 4) % 4
def up (n : Nat) : Nat := n + gap n
theorem gap_lt (n : Nat) : gap n < 4 := Nat.mod_lt _ (by omega)
theorem neg_and3 (n : Nat) (hn : n < 4611686018427387904) : bits BinOp.and IntKind.i64 (-(n : Int)) 3 = ((gap n : Nat) : Int) := by
  show IntKind.i64.wrap ((BitVec.ofInt 64 (-(n : Int)) &&& BitVec.ofInt 64 3).toNat : Int) = _
  have e3 : (BitVec.ofInt 64 3).toNat = 2 ^ 2 - 1 := by decide
  rw [BitVec.toNat_and, e3, Nat.and_two_pow_sub_one_eq_mod, BitVec.toNat_ofInt, IntKind.wrap_i64]
  unfold gap
  omega

theorem gap_any (n : Nat) (hn : n < 4611686018427387904) (w : World) : Calls Try.prog 76 #[.int .i64 (n : Int)] w fun e w' => e = .returned (.int .i64 (gap n : Nat)) ∧ w = w' := by
  have H := Lib.hid (neg_and3 n hn)
  go_enter Try.func76, Try.ntmps76
  go_wp2
  go_ret
  exact ⟨ret_int (by rw [← H.out]), rfl⟩
theorem up_any (n : Nat) (hn : n < 4611686018427387904) (w : World) : Calls Try.prog 75 #[.int .i64 (n : Int)] w fun e w' => e = .returned (.int .i64 (up n : Nat)) ∧ w = w' := by
  have hg := gap_lt n
  have H : Hid (up n = n + gap n) := rfl
  generalize up n = u at *
  go_enter Try.func75, Try.ntmps75
  go_wp2_with (go_at_call 76; refine (gap_any n hn _).mono ?_; rintro e w' ⟨rfl, rfl⟩)
  go_ret
  exact ⟨ret_int (by rw [H.out]; go_num), rfl⟩
/-! ### Zero -/
def zeroB (l : List UInt8) : Bool := l.all (· == 0)
end Go.Proofs.Ytdnilbebdgohnaa

