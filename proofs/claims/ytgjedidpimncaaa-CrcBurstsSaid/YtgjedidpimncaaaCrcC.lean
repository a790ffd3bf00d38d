/- Layer 5, the reference: the checksum bit by bit, for whatever bytes. -/
import Derived.Test.YtgjedidpimncaaaCrcB
namespace Go.Proofs.Ytgjedidpimncaaa
open Go.RowKit

/-- the state after q bits of a byte -/
def part8 (s x q : Nat) : Nat := nxs q (s ^^^ x % 2 ^ q)
theorem part8_zero (s x : Nat) : part8 s x 0 = s := by simp [part8, nxs, Nat.mod_one]
theorem part8_all (s : Nat) (x : UInt8) : part8 s x.toNat 8 = nxs 8 (s ^^^ x.toNat) := by
  unfold part8
  rw [Nat.mod_eq_of_lt x.toNat_lt]
theorem part8_lt {s : Nat} (h : s < 4294967296) (x : UInt8) (q : Nat) : part8 s x.toNat q < 4294967296 :=
  nxs_lt (Nat.xor_lt_two_pow (n := 32) h (Nat.lt_of_le_of_lt (Nat.mod_le _ _) (byte_lt x))) q
theorem part8_next (s x q : Nat) : part8 s x (q + 1) = nx (part8 s x q ^^^ x / 2 ^ q % 2) := by
  unfold part8
  show nx (nxs q _) = _
  congr 1
  rw [← nxs_add, Nat.xor_assoc]
  congr 2
  have h : x % 2 ^ q < 2 ^ q := Nat.mod_lt _ (Nat.two_pow_pos q)
  rw [Nat.xor_comm, Nat.pow_succ, Nat.mod_mul, Nat.add_comm]
  refine Nat.eq_of_testBit_eq fun j => ?_
  rw [Nat.two_pow_add_eq_or_of_lt h, Nat.testBit_or, Nat.testBit_xor, Nat.testBit_two_pow_mul]
  rcases Nat.lt_or_ge j q with h1 | h1
  · rw [decide_eq_false (by omega)]; simp
  · rw [Nat.testBit_lt_two_pow (x := x % 2 ^ q) (Nat.lt_of_lt_of_le h (Nat.pow_le_pow_right (by omega) h1))]; simp
theorem xor_u32 {a b : Nat} (ha : a < 4294967296) (hb : b < 4294967296) : bits BinOp.xor IntKind.u32 (a : Int) (b : Int) = ((a ^^^ b : Nat) : Int) := by
  show IntKind.u32.wrap ((BitVec.ofInt 32 (a : Int) ^^^ BitVec.ofInt 32 (b : Int)).toNat : Int) = _
  have h3 : a ^^^ b < 2 ^ 32 := Nat.xor_lt_two_pow (by omega) (by omega)
  have e1 : ((a : Int) % ((2 ^ 32 : Nat) : Int)).toNat = a := by omega
  have e2 : ((b : Int) % ((2 ^ 32 : Nat) : Int)).toNat = b := by omega
  rw [BitVec.toNat_xor, BitVec.toNat_ofInt, BitVec.toNat_ofInt, e1, e2, IntKind.wrap_u32]
  omega
theorem xor_01 {a b : Nat} (ha : a < 2) (hb : b < 2) : a ^^^ b = (a + b) % 2 := by
  have h1 : a = 0 ∨ a = 1 := by omega
  have h2 : b = 0 ∨ b = 1 := by omega
  rcases h1 with rfl | rfl <;> rcases h2 with rfl | rfl <;> rfl
theorem nx_01 (r : Nat) {b : Nat} (hb : b < 2) : nx (r ^^^ b) = r / 2 ^^^ ((r % 2 ^^^ b) * 2197175160) := by
  have h1 : (r ^^^ b) / 2 = r / 2 := by
    rw [show (2 : Nat) = 2 ^ 1 from rfl, Nat.xor_div_two_pow, Nat.div_eq_of_lt (a := b) (by omega), Nat.xor_zero]
  have h2 : (r ^^^ b) % 2 = r % 2 ^^^ b := by
    rw [show (2 : Nat) = 2 ^ 1 from rfl, Nat.xor_mod_two_pow, Nat.mod_eq_of_lt (a := b) (by omega)]
  unfold nx
  rw [h1, h2]
theorem rfast_any (A : Option Addr) (c B : Nat) (b : List UInt8) (w : World) (h : Lies w B A (b.map bv)) (hn : b.length ≤ 10000000) :
    Calls Try.prog 12 #[.slice A b.length c] w fun e w' => e = .returned (.int .u32 (crcN b : Nat)) ∧ w = w' := by
  have HE : Hid (crcN b = 4294967295 - feed 4294967295 b) := rfl
  have HZ : Hid (feed 4294967295 (b.take 0) = 4294967295) := rfl
  have HN : Hid (∀ (k : Nat) (x : UInt8), b[k]? = some x → feed 4294967295 (b.take (k + 1)) = nxs 8 (feed 4294967295 (b.take k) ^^^ x.toNat)) := fun k x hx => by rw [take_some hx, feed_snoc]
  have HL : Hid (∀ k, feed 4294967295 (b.take k) < 4294967296) := fun k => feed_lt (by decide) _
  go_enter Try.func12, Try.ntmps12
  go_wp2
  go_loop [4, 3] (fun i v => ∃ k : Nat, k ≤ b.length ∧ i = .int .i64 k ∧ v = .int .u32 (feed 4294967295 (b.take k) : Nat)) (fun i _ => b.length - (intOf i).toNat)
  case atStart => exact ⟨0, Nat.zero_le _, rfl, by rw [HZ.out]; rfl⟩
  case round =>
    obtain ⟨k, hk, rfl, rfl⟩ := hrel
    by_cases hlt : k < b.length
    · obtain ⟨ad, x, rfl, hbl, hx, hcx⟩ := h.byte hlt
      have h2 := Lib.hid (HN.out k x hx.out)
      have h1 := HL.out k
      generalize feed 4294967295 (b.take k) = s at *
      go_wp2
      go_loop [5, 3] (fun i v => ∃ q : Nat, q ≤ 8 ∧ i = .int .i64 q ∧ v = .int .u32 (part8 s x.toNat q : Nat)) (fun i _ => 8 - (intOf i).toNat)
      case atStart => exact ⟨0, Nat.zero_le _, rfl, by rw [part8_zero]⟩
      case round =>
        obtain ⟨q, hq, rfl, rfl⟩ := hrel
        by_cases hlt : q < 8
        · have h3 := part8_lt h1 x q
          have h4 := part8_next s x.toNat q
          generalize part8 s x.toNat q = r at *
          have hy : ((x.toNat : Int) / 2 ^ q) % 2 = ((x.toNat / 2 ^ q % 2 : Nat) : Int) := by simp
          have hyl : x.toNat / 2 ^ q % 2 < 2 := Nat.mod_lt _ (by omega)
          have hrl : r % 2 < 2 := Nat.mod_lt _ (by omega)
          rw [nx_01 r hyl] at h4
          have h5 : bits BinOp.xor IntKind.u32 ((r : Int) % 2) ((x.toNat : Int) / 2 ^ q % 2) = ((r % 2 ^^^ x.toNat / 2 ^ q % 2 : Nat) : Int) := by
            rw [hy, ← xor_u32 (a := r % 2) (b := x.toNat / 2 ^ q % 2) (by omega) (by omega)]
            rfl
          rw [xor_01 hrl hyl] at h4 h5
          have ho : (r % 2 + x.toNat / 2 ^ q % 2) % 2 = 0 ∨ (r % 2 + x.toNat / 2 ^ q % 2) % 2 = 1 := by omega
          generalize (r % 2 + x.toNat / 2 ^ q % 2) % 2 = o at *
          clear hy hyl hrl
          have h6 : bits BinOp.xor IntKind.u32 ((r : Int) / 2) 2197175160 = ((r / 2 ^^^ 2197175160 : Nat) : Int) := xor_u32 (a := r / 2) (b := 2197175160) (by omega) (by omega)
          rcases ho with rfl | rfl
          · rw [Nat.zero_mul, Nat.xor_zero] at h4
            have h4 := Lib.hid h4
            have h5 : (bits BinOp.xor IntKind.u32 ((r : Int) % 2) ((x.toNat : Int) / 2 ^ q % 2) == 1) = false := by rw [h5]; rfl
            go_wp2
            go_round
            case rel => exact ⟨q + 1, by omega, by go_num, by rw [h4.out]; rfl⟩
            case measure => simp [intOf]; omega
          · rw [Nat.one_mul] at h4
            have h4 := Lib.hid h4
            have h5 : (bits BinOp.xor IntKind.u32 ((r : Int) % 2) ((x.toNat : Int) / 2 ^ q % 2) == 1) = true := by rw [h5]; rfl
            go_wp2
            go_round
            case rel => exact ⟨q + 1, by omega, by go_num, by rw [h4.out, ← h6]⟩
            case measure => simp [intOf]; omega
        · have hq : q = 8 := by omega
          subst hq
          go_wp2
          go_round
          case rel => exact ⟨k + 1, by omega, by go_num, by rw [h2.out, part8_all]⟩
          case measure => simp [intOf]; omega
    · have hk : k = b.length := by omega
      subst hk
      have h1 := HL.out b.length
      have h3 : Hid (feed 4294967295 (b.take b.length) = feed 4294967295 b) := by rw [Hid, List.take_length]
      generalize feed 4294967295 (b.take b.length) = s at *
      go_wp2
      go_ret
      exact ⟨ret_int (by rw [HE.out, ← h3.out]; omega), rfl⟩
end Go.Proofs.Ytgjedidpimncaaa
