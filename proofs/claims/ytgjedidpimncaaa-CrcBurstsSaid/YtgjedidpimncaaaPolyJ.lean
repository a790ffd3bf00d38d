/- Layer 4, package poly: the polynomial of bytes, and words, for whatever arguments. -/
import Derived.Test.YtgjedidpimncaaaPolyI
namespace Go.Proofs.Ytgjedidpimncaaa
open Go.RowKit

/-! ### Of -/
def ofB (b : List UInt8) (j : Nat) : Bool := decide (j < 8 * b.length) && match b[b.length - 1 - j / 8]? with
  | some x => x.toNat.testBit (7 - j % 8)
  | none => false
theorem ofB_out {b : List UInt8} {j : Nat} (h : 8 * b.length ≤ j) : ofB b j = false := by
  unfold ofB
  rw [decide_eq_false (by omega)]
  rfl
theorem ofB_at {b : List UInt8} {i k j : Nat} {x : UInt8} (h : b[i]? = some x) (hk : k < 8) (hj : j + 1 + 8 * i + k = 8 * b.length) : ofB b j = x.toNat.testBit k := by
  have hi := (List.getElem?_eq_some_iff.1 h).1
  have e1 : b.length - 1 - j / 8 = i := by omega
  have e2 : 7 - j % 8 = k := by omega
  unfold ofB
  rw [e1, e2, h, decide_eq_true (by omega)]
  rfl
theorem shr_odd (x : UInt8) (k : Nat) : ∃ y : UInt8, (x.toNat : Int) / 2 ^ k = (y.toNat : Int) ∧ odd y = x.toNat.testBit k := by
  have hx := x.toNat_lt
  have hd : x.toNat / 2 ^ k ≤ x.toNat := Nat.div_le_self _ _
  refine ⟨UInt8.ofNat (x.toNat / 2 ^ k), ?_, ?_⟩
  · rw [UInt8.toNat_ofNat', Nat.mod_eq_of_lt (by omega)]
    simp
  · unfold odd
    rw [UInt8.toNat_ofNat', Nat.mod_eq_of_lt (a := x.toNat / 2 ^ k) (by omega), Nat.testBit_eq_decide_div_mod_eq]
    rcases Nat.mod_two_eq_zero_or_one (x.toNat / 2 ^ k) with h | h <;> rw [h] <;> rfl
theorem of_step {b : List UInt8} {m t j : Nat} {y : UInt8} (hy : odd y = ofB b j) (hj : j + 1 + t = m) : (bits8 (fun i => decide (m ≤ i + t) && ofB b i) m).set j (b8 (odd y)) = bits8 (fun i => decide (m ≤ i + (t + 1)) && ofB b i) m := by
  rw [bits8_set]
  refine bits8_congr fun i _ => ?_
  unfold upd
  by_cases e : i = j
  · rw [if_pos e, e, hy, decide_eq_true (by omega)]; rfl
  · rw [if_neg e, show decide (m ≤ i + (t + 1)) = decide (m ≤ i + t) from decide_eq_decide.2 (by omega)]

theorem of_any (A : Option Addr) (c : Nat) (b : List UInt8) (w : World) (h : Lies w w.heap.size A (b.map bv)) (hn : b.length ≤ 1000) :
    Calls Try.prog 29 #[.slice A b.length c] w fun e w' => ∃ A' n' c' L, e = .returned (.slice A' n' c') ∧
      Holds w' (ofB b) A' n' c' L ∧ Below w.heap.size w w' := by
  obtain ⟨m, hm1, hm2⟩ : ∃ m, m ≤ 8 * b.length ∧ 8 * b.length ≤ m := ⟨_, Nat.le_refl _, Nat.le_refl _⟩
  go_enter Try.func29, Try.ntmps29
  go_wp2_with (at_make; refine wpList_make_zeros _ rfl (.tmp 9) (.tmp 9) 50 rfl Try.underlying50 _ m rfl rfl (by omega) (by omega) ?_; intro w1 hrow hb1)
  have H0 : Hid (Row w1 w.heap.size (bits8 (fun i => decide (m ≤ i + 8 * 0) && ofB b i) m)) := by
    rw [Hid, bits8_congr (f := fun i => decide (m ≤ i + 8 * 0) && ofB b i) (g := fun _ => false) fun i hi => by rw [decide_eq_false (by omega)]; rfl]
    exact hrow
  go_loopw [13] (fun i wr => ∃ k : Nat, k ≤ b.length ∧ i = .int .i64 k ∧ Row wr w.heap.size (bits8 (fun i => decide (m ≤ i + 8 * k) && ofB b i) m) ∧ Below w.heap.size w wr) (fun i _ => b.length - (intOf i).toNat)
  case atStart => exact ⟨0, Nat.zero_le _, rfl, H0.out, hb1⟩
  case round =>
    obtain ⟨k, hk, rfl, hrk, hbk⟩ := hrel
    clear hrow
    by_cases hlt : k < b.length
    · obtain ⟨ad, x, rfl, hbl, hx, hcx⟩ := (h.below hbk).byte hlt
      have HK : Hid (Row wr w.heap.size (bits8 (fun i => decide (m ≤ i + (8 * k + 0)) && ofB b i) m)) := hrk
      clear hrk
      go_wp2_with fail
      go_loopw [18] (fun i wr => ∃ q : Nat, q ≤ 8 ∧ i = .int .i64 q ∧ Row wr w.heap.size (bits8 (fun i => decide (m ≤ i + (8 * k + q)) && ofB b i) m) ∧ Below w.heap.size w wr) (fun i _ => 8 - (intOf i).toNat)
      case atStart => exact ⟨0, Nat.zero_le _, rfl, HK.out, hbk⟩
      case round =>
        obtain ⟨q, hq, rfl, hrq, hbq⟩ := hrel
        by_cases hlt2 : q < 8
        · obtain ⟨j, hj⟩ : ∃ j, j + 1 + (8 * k + q) = m := ⟨m - 1 - (8 * k + q), by omega⟩
          obtain ⟨y, hy1, hy2⟩ := shr_odd x q
          have hO := fun w => one_any y w
          rw [← hy1] at hO
          have hidx : (m : Int) - 1 - 8 * (k : Int) - (q : Int) = (j : Int) := by omega
          have hc2 := hrq.byte (bits8_at (fun i => decide (m ≤ i + (8 * k + q)) && ofB b i) (i := j) (by omega))
          have hf2 := Whole.frozen hrq j
          have HS := Lib.hid (hrq.store j (b8 (odd y)))
          rw [of_step (by rw [hy2, ofB_at hx.out hlt2 (by omega)]) hj] at HS
          have HB := Lib.hid (hbq.setCell (p := ⟨w.heap.size, j, none⟩) (Nat.le_refl _) (.int .u8 ((b8 (odd y)).toNat : Int)))
          have hjm : (j : Int) < (m : Int) := by omega
          have hj0 : (0 : Int) ≤ (j : Int) := by omega
          have HY := Lib.hid hy2
          have HJ := Lib.hid hj
          clear hrq hy1 hy2 hj
          go_wp2_with fail
          refine (hO _).mono ?_
          rintro e w' ⟨rfl, rfl⟩
          go_wp2_with fail
          go_roundw
          case rel => exact ⟨q + 1, by omega, by go_num, HS.out, HB.out⟩
          case measure => simp [intOf]; omega
        · have hq8 : q = 8 := by omega
          have HK2 : Hid (Row wr w.heap.size (bits8 (fun i => decide (m ≤ i + 8 * (k + 1)) && ofB b i) m)) := by
            rw [hq8] at hrq
            exact hrq
          clear hrq
          go_wp2_with fail
          go_roundw
          case rel => exact ⟨k + 1, by omega, by go_num, HK2.out, hbq⟩
          case measure => simp [intOf]; omega
    · have hkb : k = b.length := by omega
      have HE : Hid (bits8 (fun i => decide (m ≤ i + 8 * k) && ofB b i) m = bits8 (ofB b) m) := bits8_congr fun i _ => by rw [decide_eq_true (by omega)]; rfl
      have HK := Lib.hid hrk
      rw [HE.out] at HK
      have HF : Hid (∀ i, (decide (i < m) && ofB b i) = ofB b i) := fun i => by
        by_cases hi : i < m
        · simp [hi]
        · rw [ofB_out (by omega)]; simp
      clear hrk HE
      go_wp2_with fail
      refine (reduce_row w.heap.size m (ofB b) wr HK.out (by omega)).mono ?_
      rintro e w4 ⟨A4, n4, c4, L, rfl, h4, b4⟩
      go_wp2_with fail
      go_ret
      exact ⟨A4, n4, c4, L, rfl, ⟨h4.len, h4.cap, h4.can.congr HF.out, h4.lies⟩, hbk.trans (b4.mono hbk.size)⟩

/-! ### Word -/
/-- the number of the first k bits, the first one the highest -/
def rn (f : Nat → Bool) : Nat → Nat
  | 0 => 0
  | k + 1 => 2 * rn f k + (f k).toNat
theorem rn_lt (f : Nat → Bool) (k : Nat) : rn f k < 2 ^ k := by
  induction k with
  | zero => simp [rn]
  | succ k ih =>
    have := Bool.toNat_lt (f k)
    simp only [rn, Nat.pow_succ]
    omega
/-- .. as the highest of 32 bits -/
def wd (f : Nat → Bool) (k : Nat) : Nat := rn f k * 2 ^ (32 - k)
theorem wd_lt (f : Nat → Bool) {k : Nat} (hk : k ≤ 32) : wd f k < 4294967296 := by
  unfold wd
  have h1 := rn_lt f k
  have h2 : 2 ^ k * 2 ^ (32 - k) = 4294967296 := by
    rw [← Nat.pow_add, Nat.add_sub_cancel' hk]
  rw [← h2]
  exact (Nat.mul_lt_mul_right (Nat.two_pow_pos _)).2 h1
theorem wd_next (f : Nat → Bool) {k : Nat} (hk : k < 32) : wd f (k + 1) = wd f k + (f k).toNat * 2 ^ (31 - k) := by
  unfold wd
  rw [show 32 - k = 31 - k + 1 by omega, show 32 - (k + 1) = 31 - k by omega, Nat.pow_succ, rn, Nat.add_mul]
  congr 1
  rw [Nat.mul_comm 2, Nat.mul_assoc, Nat.mul_comm 2]
theorem wd_or (f : Nat → Bool) {k : Nat} (hk : k < 32) : wd f k ||| (f k).toNat * 2 ^ (31 - k) = wd f (k + 1) := by
  rw [wd_next f hk]
  unfold wd
  have h : (f k).toNat * 2 ^ (31 - k) < 2 ^ (32 - k) := by
    have h1 := Bool.toNat_lt (f k)
    rw [show 32 - k = 31 - k + 1 by omega, Nat.pow_succ, Nat.mul_comm]
    exact (Nat.mul_lt_mul_left (Nat.two_pow_pos _)).2 h1
  rw [Nat.mul_comm (rn f k), Nat.two_pow_add_eq_or_of_lt h]
theorem wd_stay (f : Nat → Bool) {d k : Nat} (h : ∀ i, d ≤ i → f i = false) (hd : d ≤ k) (hk : k ≤ 32) : wd f k = wd f d := by
  induction k with
  | zero => rw [show d = 0 by omega]
  | succ k ih =>
    rcases Nat.lt_or_ge d (k + 1) with h1 | h1
    · rw [wd_next f (by omega), h k (by omega), ih (by omega) (by omega)]; simp
    · rw [show d = k + 1 by omega]
theorem or_u32 {a b : Nat} (ha : a < 4294967296) (hb : b < 4294967296) : bits BinOp.or IntKind.u32 (a : Int) (b : Int) = ((a ||| b : Nat) : Int) := by
  show IntKind.u32.wrap ((BitVec.ofInt 32 (a : Int) ||| BitVec.ofInt 32 (b : Int)).toNat : Int) = _
  have h3 : a ||| b < 2 ^ 32 := Nat.or_lt_two_pow (by omega) (by omega)
  have e1 : ((a : Int) % ((2 ^ 32 : Nat) : Int)).toNat = a := by omega
  have e2 : ((b : Int) % ((2 ^ 32 : Nat) : Int)).toNat = b := by omega
  rw [BitVec.toNat_or, BitVec.toNat_ofInt, BitVec.toNat_ofInt, e1, e2, IntKind.wrap_u32]
  omega
theorem word_or (f : Nat → Bool) {k : Nat} {x : UInt8} (hk : k < 32) (hx : f k = odd x) :
    bits BinOp.or IntKind.u32 (wd f k : Int) (((b8 (odd x)).toNat : Int) % 4294967296 * 2 ^ (31 - k) % 4294967296) = ((wd f (k + 1) : Nat) : Int) := by
  have h1 := wd_lt f (k := k) (by omega)
  have hb : (b8 (odd x)).toNat = (f k).toNat := by rw [hx]; cases odd x <;> rfl
  have h2 : (f k).toNat * 2 ^ (31 - k) < 4294967296 := by
    have h3 := Bool.toNat_le (f k)
    have h4 : 2 ^ (31 - k) ≤ 2 ^ 31 := Nat.pow_le_pow_right (by omega) (by omega)
    have h5 := Nat.mul_le_mul h3 h4
    omega
  have e : ((b8 (odd x)).toNat : Int) % 4294967296 * 2 ^ (31 - k) % 4294967296 = (((f k).toNat * 2 ^ (31 - k) : Nat) : Int) := by
    rw [hb]
    have h3 := Bool.toNat_le (f k)
    rw [Int.emod_eq_of_lt (a := ((f k).toNat : Int)) (by omega) (by omega)]
    have h6 : ((f k).toNat : Int) * 2 ^ (31 - k) = (((f k).toNat * 2 ^ (31 - k) : Nat) : Int) := by simp
    rw [h6]
    omega
  rw [e, or_u32 h1 h2, wd_or f hk]

theorem word_big (A : Option Addr) (c B : Nat) (p : List UInt8) (w : World) (hp : Lies w B A (p.map bv)) (hlp : p.length ≤ 10000) (h0 : 32 < rl p) :
    Calls Try.prog 45 #[.slice A p.length c] w fun e w' => e = .returned (.tuple #[.int .u32 0, .bool false]) ∧ w = w' := by
  have hD := fun w' h' => degree_any A c B p w' h' (by omega)
  have hd : (31 : Int) < ((rl p : Nat) : Int) - 1 := by omega
  have hr := rl_le p
  generalize rl p = d at *
  go_enter Try.func45, Try.ntmps45
  go_wp2_with (go_at_call 40; refine (hD _ hp).mono ?_; rintro e w' ⟨rfl, rfl⟩)
  go_ret2
  exact ⟨rfl, rfl⟩
theorem word_any (A : Option Addr) (c B : Nat) (p : List UInt8) (w : World) (hp : Lies w B A (p.map bv)) (hlp : p.length ≤ 10000) (h0 : rl p ≤ 32) :
    Calls Try.prog 45 #[.slice A p.length c] w fun e w' => e = .returned (.tuple #[.int .u32 (wd (co p) 32 : Nat), .bool true]) ∧ w = w' := by
  have hD := fun w' h' => degree_any A c B p w' h' (by omega)
  have hd : ((rl p : Nat) : Int) - 1 + 1 = (rl p : Int) := by omega
  have hd2 : ((rl p : Nat) : Int) - 1 ≤ 31 := by omega
  have hr := rl_le p
  have HS : Hid (∀ k, rl p ≤ k → k ≤ 32 → wd (co p) k = wd (co p) 32) := fun k h1 h2 => by
    rw [wd_stay (co p) (fun i hi => rl_above hi) h1 h2, wd_stay (co p) (fun i hi => rl_above hi) h0 (Nat.le_refl 32)]
  generalize rl p = d at *
  go_enter Try.func45, Try.ntmps45
  go_wp2_with (go_at_call 40; refine (hD _ hp).mono ?_; rintro e w' ⟨rfl, rfl⟩)
  go_loop [13, 5] (fun i v => ∃ k : Nat, k ≤ d ∧ i = .int .i64 k ∧ v = .int .u32 (wd (co p) k : Nat)) (fun i _ => d - (intOf i).toNat)
  case atStart => exact ⟨0, Nat.zero_le _, rfl, by rw [show wd (co p) 0 = 0 by simp [wd, rn]]; rfl⟩
  case round =>
    obtain ⟨k, hk, rfl, rfl⟩ := hrel
    by_cases hlt : k < d
    · obtain ⟨ad, x, rfl, hbl, hx, hcx⟩ := hp.byte (k := k) (by omega)
      have hO := fun w => one_any x w
      have HW := Lib.hid (word_or (co p) (show k < 32 by omega) (co_some hx.out))
      go_wp2_with (go_at_call 42; refine (hO _).mono ?_; rintro e w' ⟨rfl, rfl⟩)
      go_round
      case rel => exact ⟨k + 1, by omega, by go_num, by rw [← HW.out]⟩
      case measure => simp [intOf]; omega
    · have HE := Lib.hid (HS.out k (by omega) (by omega))
      generalize wd (co p) k = v at *
      go_wp2_with fail
      go_ret2
      exact ⟨by rw [← HE.out]; rfl, rfl⟩
end Go.Proofs.Ytgjedidpimncaaa
