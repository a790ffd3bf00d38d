/- Layer 4, package poly and its reference: a coefficient, the degree, the reduced list, the powers, for whatever lists. -/
import Derived.Test.YtgjedidpimncaaaPolyA
namespace Go.Proofs.Ytgjedidpimncaaa
open Go.RowKit

abbrev iv (n : Nat) : Value := .int .i64 (n : Int)
theorem Lies.int {w : World} {B : Nat} {A : Option Addr} {l : List Nat} (h : Lies w B A (l.map iv)) {k : Nat} (hk : k < l.length) :
    ∃ ad x, A = some ad ∧ ad.block < B ∧ Hid (l[k]? = some x) ∧ w.cell? (ad.add k) = some (.int .i64 (x : Int)) := h.of_map hk
theorem b8_odd (x : UInt8) : ((b8 (odd x)).toNat : Int) = (x.toNat : Int) % 2 := by
  unfold odd b8
  rcases Nat.mod_two_eq_zero_or_one x.toNat with h | h
  · rw [h]; simp; omega
  · rw [h]; simp; omega
theorem and_one (x : UInt8) : bits BinOp.and IntKind.u8 (x.toNat : Int) 1 = ((b8 (odd x)).toNat : Int) := by
  rw [b8_odd]
  show IntKind.u8.wrap ((BitVec.ofInt 8 (x.toNat : Int) &&& BitVec.ofInt 8 1).toNat : Int) = _
  have e1 : (BitVec.ofInt 8 1).toNat = 2 ^ 1 - 1 := by decide
  have := x.toNat_lt
  rw [BitVec.toNat_and, e1, Nat.and_two_pow_sub_one_eq_mod, BitVec.toNat_ofInt, IntKind.wrap_u8]
  omega

theorem one_any (x : UInt8) (w : World) : Calls Try.prog 42 #[.int .u8 (x.toNat : Int)] w fun e w' => e = .returned (.int .u8 ((b8 (odd x)).toNat : Int)) ∧ w = w' := by
  have H := Lib.hid (and_one x)
  go_enter Try.func42, Try.ntmps42
  go_wp2
  go_ret
  exact ⟨ret_int (by rw [← H.out]), rfl⟩

theorem b8_eq_one (b : Bool) : (((b8 b).toNat : Int) == 1) = b := by cases b <;> rfl
theorem top_snoc_down (f : Nat → Bool) (n : Nat) (h : f n = false) : top f (n + 1) = top f n := by simp [top, h]
theorem top_hit (f : Nat → Bool) (n : Nat) (h : f n = true) : top f (n + 1) = n + 1 := by simp [top, h]

theorem degree_any (A : Option Addr) (c B : Nat) (l : List UInt8) (w : World) (h : Lies w B A (l.map bv)) (hn : l.length ≤ 100000) :
    Calls Try.prog 40 #[.slice A l.length c] w fun e w' => e = .returned (.int .i64 ((rl l : Int) - 1)) ∧ w = w' := by
  go_enter Try.func40, Try.ntmps40
  go_wp2
  go_loop [7] (fun i => ∃ k : Nat, k ≤ l.length ∧ i = .int .i64 k ∧ Hid (rl l = top (co l) (l.length - k))) (fun i => l.length - (intOf i).toNat)
  case atStart => exact ⟨0, Nat.zero_le _, rfl, rfl⟩
  case round =>
    obtain ⟨k, hk, rfl, ht⟩ := hrel
    by_cases hlt : k < l.length
    · obtain ⟨m, hm⟩ : ∃ m, m = l.length - 1 - k := ⟨_, rfl⟩
      obtain ⟨ad, x, rfl, hb, hx, hc⟩ := h.byte (k := m) (by omega)
      have hmk : l.length - k = m + 1 := by omega
      have hidx : (l.length : Int) - 1 - (k : Int) = (m : Int) := by omega
      have hO := fun w => one_any x w
      have hE := b8_eq_one (odd x)
      have HC := Lib.hid (co_some hx.out)
      cases hodd : odd x with
      | true =>
        have HR : Hid (rl l = m + 1) := by rw [Hid, ht.out, hmk, top_hit _ _ (by rw [HC.out, hodd])]
        rw [hodd] at hO hE
        clear hm HC
        go_wp2_with (go_at_call 42; refine (hO _).mono ?_; rintro e w' ⟨rfl, rfl⟩)
        go_ret
        exact ⟨ret_int (by rw [HR.out]; go_num), rfl⟩
      | false =>
        have HR : Hid (rl l = top (co l) (l.length - (k + 1))) := by
          rw [Hid, ht.out, hmk, top_snoc_down _ _ (by rw [HC.out, hodd]), show l.length - (k + 1) = m by omega]
        rw [hodd] at hO hE
        clear hm HC
        go_wp2_with (go_at_call 42; refine (hO _).mono ?_; rintro e w' ⟨rfl, rfl⟩)
        go_round
        case rel => exact ⟨k + 1, by omega, by go_num, HR⟩
        case measure => simp [intOf]; omega
    · have HR : Hid (rl l = 0) := by rw [Hid, ht.out, show l.length - k = 0 by omega]; rfl
      go_wp2
      go_ret
      exact ⟨ret_int (by rw [HR.out]; rfl), rfl⟩
end Go.Proofs.Ytgjedidpimncaaa
