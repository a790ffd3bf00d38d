/- Layer 5: one byte more (follow), and the checksum of parts (Sum), for whatever bytes. -/
import Derived.Test.YtgjedidpimncaaaCrcG
namespace Go.Proofs.Ytgjedidpimncaaa
open Go.RowKit

theorem nxs_shift (n s : Nat) : nxs (n + 1) s = nxs n (nx s) := nxs_more n 1 s
theorem and_one_u32 {x : Nat} (h : x < 4294967296) : bits BinOp.and IntKind.u32 (x : Int) 1 = ((x % 2 : Nat) : Int) := by
  show IntKind.u32.wrap ((BitVec.ofInt 32 (x : Int) &&& BitVec.ofInt 32 1).toNat : Int) = _
  have e3 : (BitVec.ofInt 32 1).toNat = 2 ^ 1 - 1 := by decide
  have e1 : ((x : Int) % ((2 ^ 32 : Nat) : Int)).toNat = x := by omega
  rw [BitVec.toNat_and, e3, Nat.and_two_pow_sub_one_eq_mod, BitVec.toNat_ofInt, IntKind.wrap_u32, e1]
  omega
theorem follow_any (s : Nat) (x : UInt8) (w : World) (hs : s < 4294967296) :
    Calls Try.prog 27 #[.int .u32 (s : Int), .int .u8 (x.toNat : Int)] w fun e w' => e = .returned (.int .u32 (nxs 8 (s ^^^ x.toNat) : Nat)) ∧ Below w.heap.size w w' := by
  have hx := x.toNat_lt
  have HX : bits BinOp.xor IntKind.u32 (s : Int) (x.toNat : Int) = ((s ^^^ x.toNat : Nat) : Int) := xor_u32 hs (by omega)
  have hl : s ^^^ x.toNat < 4294967296 := Nat.xor_lt_two_pow (n := 32) hs (byte_lt x)
  have HL : Hid (∀ k, nxs k (s ^^^ x.toNat) < 4294967296) := fun k => nxs_lt hl k
  have HN : Hid (∀ k, nxs (k + 1) (s ^^^ x.toNat) = nx (nxs k (s ^^^ x.toNat))) := fun k => rfl
  have HZ : Hid (nxs 0 (s ^^^ x.toNat) = s ^^^ x.toNat) := rfl
  generalize s ^^^ x.toNat = t at *
  go_enter Try.func27, Try.ntmps27
  go_wp2
  go_loop [0, 9] (fun v i => ∃ k : Nat, k ≤ 8 ∧ i = .int .i64 k ∧ v = .int .u32 (nxs k t : Nat)) (fun _ i => 8 - (intOf i).toNat)
  case atStart => exact ⟨0, Nat.zero_le _, rfl, by rw [HZ.out]⟩
  case round =>
    obtain ⟨k, hk, rfl, rfl⟩ := hrel
    by_cases hlt : k < 8
    · have h1 := HL.out k
      have h2 := HN.out k
      generalize nxs k t = r at *
      have hA := and_one_u32 h1
      have h7 : Hid (bits BinOp.xor IntKind.u32 ((r : Int) / 2) (2197175160 * bits BinOp.and IntKind.u32 (r : Int) 1 % 4294967296) = ((nx r : Nat) : Int)) := by
        have ho : r % 2 = 0 ∨ r % 2 = 1 := by omega
        rw [Hid, hA]
        unfold nx
        rcases ho with ho | ho
        · rw [ho, Nat.zero_mul]
          exact xor_u32 (a := r / 2) (b := 0) (by omega) (by omega)
        · rw [ho, Nat.one_mul]
          exact xor_u32 (a := r / 2) (b := 2197175160) (by omega) (by omega)
      have h2 := Lib.hid h2
      clear hA
      go_wp2
      go_round
      case rel => exact ⟨k + 1, by omega, by go_num, by rw [h2.out, ← h7.out]⟩
      case measure => simp [intOf]; omega
    · obtain rfl : k = 8 := by omega
      go_wp2
      go_ret
      exact ⟨rfl, Below.refl _ _⟩

theorem sum_any (A : Option Addr) (c : Nat) (vs : List Value) (ps : List (List UInt8)) (w : World) (h : Parts w w.heap.size A vs ps) (hn : ps.length ≤ 1000) (ht : tot ps ≤ 10000000) :
    Calls Try.prog 10 #[.slice A ps.length c] w fun e w' => e = .returned (.int .u32 (crcN ps.flatten : Nat)) ∧ Below w.heap.size w w' := by
  have HE : Hid (∀ n : Nat, n = feed 4294967295 ps.flatten → 4294967295 - n = crcN ps.flatten) := fun n e => by rw [e]; rfl
  have HZ : Hid (feed 4294967295 (ps.take 0).flatten = 4294967295) := rfl
  have HL : Hid (∀ l, feed 4294967295 l < 4294967296) := fun l => feed_lt (by decide) l
  go_enter Try.func10, Try.ntmps10
  go_wp2_with fail
  go_loopw [3, 10] (fun v i wr => ∃ k : Nat, k ≤ ps.length ∧ i = .int .i64 k ∧ v = .int .u32 (feed 4294967295 (ps.take k).flatten : Nat) ∧ Below w.heap.size w wr) (fun _ i _ => ps.length - (intOf i).toNat)
  case atStart => exact ⟨0, Nat.zero_le _, rfl, by rw [HZ.out]; rfl, Below.refl _ _⟩
  case round =>
    obtain ⟨k, hk, rfl, rfl, hbk⟩ := hrel
    by_cases hlt : k < ps.length
    · obtain ⟨ad, A', c', p, rfl, hbl, hp, hc1, hlp, hl1, hl2⟩ := h.at_ hlt
      have hc0 := (hbk.cell (p := ad.add k) (by rw [blk_add]; exact hbl)).trans hc1
      clear hc1
      have H2 := Lib.hid (tot_take hp.out)
      have t2 := tot_le ps (k + 1)
      have hpl : p.length ≤ 10000000 := by have := H2.out; omega
      have HF : Hid (feed 4294967295 (ps.take (k + 1)).flatten = feed (feed 4294967295 (ps.take k).flatten) p) := by
        rw [Hid, take_some hp.out, List.flatten_append, feed_append]; simp
      have hs := HL.out (ps.take k).flatten
      clear t2
      generalize feed 4294967295 (ps.take k).flatten = s at *
      have HL2 : Hid (∀ l, feed s l < 4294967296) := fun l => feed_lt hs l
      have HN2 : Hid (∀ (j : Nat) (x : UInt8), p[j]? = some x → feed s (p.take (j + 1)) = nxs 8 (feed s (p.take j) ^^^ x.toNat)) := fun j x hx => by rw [take_some hx, feed_snoc]
      have HZ2 : Hid (feed s (p.take 0) = s) := rfl
      go_wp2_with fail
      go_loopw [3, 16] (fun v i wr => ∃ j : Nat, j ≤ p.length ∧ i = .int .i64 j ∧ v = .int .u32 (feed s (p.take j) : Nat) ∧ Below w.heap.size w wr) (fun _ i _ => p.length - (intOf i).toNat)
      case atStart => exact ⟨0, Nat.zero_le _, rfl, by rw [HZ2.out], hbk⟩
      case round =>
        obtain ⟨j, hj, rfl, rfl, hbj⟩ := hrel
        by_cases hlt2 : j < p.length
        · have hlp' := hlp.below hbj
          obtain ⟨ad2, x, rfl, _, hx, hcx⟩ := hlp'.byte hlt2
          have h3 := Lib.hid (HN2.out j x hx.out)
          have h1 := HL2.out (p.take j)
          generalize feed s (p.take j) = r at *
          have hF := follow_any r x wr h1
          go_wp2_with fail
          refine hF.mono ?_
          rintro e w4 ⟨rfl, b4⟩
          have HB4 := Lib.hid (hbj.trans (b4.mono hbj.size))
          clear b4
          go_wp2_with fail
          go_roundw
          case rel => exact ⟨j + 1, by omega, by go_num, by rw [h3.out], HB4.out⟩
          case measure => simp [intOf]; omega
        · have e1 : Hid (feed s (p.take j) = feed s p) := by rw [Hid, List.take_of_length_le (by omega)]
          generalize feed s (p.take j) = r at *
          go_wp2_with fail
          go_roundw
          case rel => exact ⟨k + 1, by omega, by go_num, by rw [HF.out, e1.out], hbj⟩
          case measure => simp [intOf]; omega
    · have e1 : ps.take k = ps := List.take_of_length_le (by omega)
      rw [e1]
      have h1 := HL.out ps.flatten
      have h2 := Lib.hid (HE.out _ rfl)
      have HW := Lib.hid (not_u32 h1)
      generalize feed 4294967295 ps.flatten = r at *
      clear e1
      go_wp2_with fail
      go_ret
      exact ⟨ret_int (by rw [HW.out, h2.out]), hbk⟩
end Go.Proofs.Ytgjedidpimncaaa
