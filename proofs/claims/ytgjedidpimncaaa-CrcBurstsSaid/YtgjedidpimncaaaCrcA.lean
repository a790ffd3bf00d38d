/- Checksums: the polynomial of a word, one step, bytes, and that the state is the remainder. Plain facts, over no program. -/
import Derived.Test.YtgjedidpimncaaaPolyQ
namespace Go.Proofs.Ytgjedidpimncaaa
open Go.RowKit

/-! ### multiples, moved -/
section
variable {a b g r s : Nat → Bool}
theorem Quo.trans (h1 : Quo a g r) (h2 : Quo r g s) : Quo a g s := by
  obtain ⟨p, hp, h1⟩ := h1
  obtain ⟨q, hq, h2⟩ := h2
  refine ⟨fun i => p i ^^ q i, hp.add hq, fun i => ?_⟩
  rw [cv_add, h1, h2]
  cases cv p g i <;> cases cv q g i <;> cases s i <;> rfl
theorem shl_zero (f : Nat → Bool) (i : Nat) : shl f 0 i = f i := by simp [shl]
theorem shl_succ (f : Nat → Bool) (n i : Nat) : shl f (n + 1) i = front false (shl f n) i := by
  cases i with
  | zero => simp [shl, front]
  | succ i => simp [shl, front]
theorem shl_shl (f : Nat → Bool) (m n i : Nat) : shl (shl f m) n i = shl f (m + n) i := by
  unfold shl
  by_cases h : n ≤ i
  · by_cases h' : m + n ≤ i
    · rw [decide_eq_true h, decide_eq_true h', decide_eq_true (show m ≤ i - n by omega), show i - n - m = i - (m + n) by omega]; rfl
    · rw [decide_eq_false h', decide_eq_false (show ¬ m ≤ i - n by omega)]; simp
  · rw [decide_eq_false h, decide_eq_false (show ¬ m + n ≤ i by omega)]; rfl
theorem shl_xor (f h : Nat → Bool) (n i : Nat) : shl (fun i => f i ^^ h i) n i = (shl f n i ^^ shl h n i) := by
  unfold shl
  cases decide (n ≤ i) <;> simp
theorem shl_congr {f h : Nat → Bool} (e : ∀ i, f i = h i) (n i : Nat) : shl f n i = shl h n i := by unfold shl; rw [e]
theorem Quo.shl (h : Quo a g r) (n : Nat) : Quo (Go.Proofs.Ytgjedidpimncaaa.shl a n) g (Go.Proofs.Ytgjedidpimncaaa.shl r n) := by
  induction n with
  | zero => exact h.congr (fun i => (shl_zero a i).symm) fun i => (shl_zero r i).symm
  | succ n ih => exact (ih.front false).congr (fun i => (shl_succ a n i).symm) fun i => (shl_succ r n i).symm
end

/-! ### words -/
/-- the polynomial of a word: its lowest bit is the highest power -/
def cof (s i : Nat) : Bool := decide (i < 32) && s.testBit (31 - i)
/-- the state after one more bit 0 -/
def nx (s : Nat) : Nat := s / 2 ^^^ (s % 2 * 2197175160)
def nxs : Nat → Nat → Nat
  | 0, s => s
  | n + 1, s => nx (nxs n s)
theorem cof_out {s i : Nat} (h : 32 ≤ i) : cof s i = false := by unfold cof; rw [decide_eq_false (by omega)]; rfl
theorem cof_xor (s t i : Nat) : cof (s ^^^ t) i = (cof s i ^^ cof t i) := by
  unfold cof
  rw [Nat.testBit_xor]
  cases decide (i < 32) <;> simp
theorem cof_inj {s t : Nat} (hs : s < 2 ^ 32) (ht : t < 2 ^ 32) (h : ∀ i, cof s i = cof t i) : s = t := by
  refine Nat.eq_of_testBit_eq fun j => ?_
  rcases Nat.lt_or_ge j 32 with h1 | h1
  · have := h (31 - j)
    unfold cof at this
    rw [decide_eq_true (show 31 - j < 32 by omega), show 31 - (31 - j) = j by omega] at this
    simpa using this
  · rw [Nat.testBit_lt_two_pow (Nat.lt_of_lt_of_le hs (Nat.pow_le_pow_right (by omega) h1)), Nat.testBit_lt_two_pow (Nat.lt_of_lt_of_le ht (Nat.pow_le_pow_right (by omega) h1))]
theorem gen_low : ∀ i, i < 32 → co genL i = (2197175160 : Nat).testBit (31 - i) := by decide
theorem gen_top : co genL 32 = true := by decide
theorem gen_over {i : Nat} (h : 32 < i) : co genL i = false := co_out (by rw [gen_len]; omega)
theorem testBit_half (s j : Nat) : (s / 2).testBit j = s.testBit (j + 1) := by rw [Nat.testBit_succ]
theorem odd_mul (s j K : Nat) : (s % 2 * K).testBit j = (s.testBit 0 && K.testBit j) := by
  rw [Nat.testBit_zero]
  rcases Nat.mod_two_eq_zero_or_one s with h | h <;> simp [h]
theorem nx_bit (s j : Nat) : (nx s).testBit j = (s.testBit (j + 1) ^^ (s.testBit 0 && (2197175160 : Nat).testBit j)) := by
  unfold nx
  rw [Nat.testBit_xor, testBit_half, odd_mul]
theorem nx_lt {s : Nat} (h : s < 2 ^ 32) : nx s < 2 ^ 32 := by
  unfold nx
  refine Nat.xor_lt_two_pow (by omega) ?_
  rcases Nat.mod_two_eq_zero_or_one s with h | h <;> rw [h] <;> decide
theorem nxs_lt {s : Nat} (h : s < 2 ^ 32) (n : Nat) : nxs n s < 2 ^ 32 := by
  induction n with
  | zero => exact h
  | succ n ih => exact nx_lt ih
theorem nx_cof {s : Nat} (h : s < 2 ^ 32) (i : Nat) : (front false (cof s) i ^^ (s.testBit 0 && co genL i)) = cof (nx s) i := by
  rcases Nat.lt_or_ge i 32 with h1 | h1
  · rw [gen_low i h1]
    unfold cof
    rw [nx_bit, decide_eq_true h1]
    cases i with
    | zero => rw [Nat.testBit_lt_two_pow (i := 31 - 0 + 1) h]; rfl
    | succ i =>
      show (decide (i < 32) && s.testBit (31 - i) ^^ _) = _
      rw [decide_eq_true (show i < 32 by omega), show 31 - (i + 1) + 1 = 31 - i by omega]; simp
  · rw [cof_out h1]
    rcases Nat.lt_or_ge 32 i with h2 | h2
    · rw [gen_over h2]
      cases i with
      | zero => omega
      | succ i =>
        show (cof s i ^^ _) = _
        rw [cof_out (by omega)]; simp
    · have e : i = 32 := by omega
      subst e
      show (cof s 31 ^^ _) = _
      rw [gen_top]
      simp [cof]
theorem nx_quo {s : Nat} (h : s < 2 ^ 32) : Quo (front false (cof s)) (co genL) (cof (nx s)) := by
  have hq := nx_cof h
  cases hb : s.testBit 0 with
  | false => exact (Quo.self _ _).congr (fun _ => rfl) fun i => by rw [← hq i, hb]; simp
  | true => exact ((Quo.self (front false (cof s)) (co genL)).less 0).congr (fun _ => rfl) fun i => by rw [← hq i, hb]; simp
theorem nxs_quo {s : Nat} (h : s < 2 ^ 32) (n : Nat) : Quo (shl (cof s) n) (co genL) (cof (nxs n s)) := by
  induction n with
  | zero => exact (Quo.self _ _).congr (fun _ => rfl) fun i => shl_zero _ i
  | succ n ih => exact ((ih.front false).congr (fun i => (shl_succ _ n i).symm) fun _ => rfl).trans (nx_quo (nxs_lt h n))
theorem nx_add (a y : Nat) : nx (a ^^^ 2 * y) = nx a ^^^ y := by
  refine Nat.eq_of_testBit_eq fun j => ?_
  have h0 : (2 * y).testBit 0 = false := by rw [Nat.testBit_zero]; exact decide_eq_false (by omega)
  rw [nx_bit, Nat.testBit_xor, Nat.testBit_xor, Nat.testBit_xor, nx_bit, h0, ← testBit_half (2 * y), Nat.mul_div_cancel_left y (by omega)]
  cases a.testBit (j + 1) <;> cases a.testBit 0 <;> cases y.testBit j <;> cases (Nat.testBit 2197175160 j) <;> rfl
theorem nxs_add (n a y : Nat) : nxs n (a ^^^ 2 ^ n * y) = nxs n a ^^^ y := by
  induction n generalizing y with
  | zero => simp [nxs]
  | succ n ih =>
    show nx (nxs n _) = nx (nxs n a) ^^^ y
    rw [Nat.pow_succ, Nat.mul_assoc, ih, nx_add]
theorem nx_top {s : Nat} (h : s < 2 ^ 32) : (nx s).testBit 31 = s.testBit 0 := by
  rw [nx_bit, Nat.testBit_lt_two_pow (i := 31 + 1) h, show Nat.testBit 2197175160 31 = true by decide]
  cases s.testBit 0 <;> rfl
theorem nx_inj {s t : Nat} (hs : s < 2 ^ 32) (ht : t < 2 ^ 32) (h : nx s = nx t) : s = t := by
  have h0 : s.testBit 0 = t.testBit 0 := by rw [← nx_top hs, ← nx_top ht, h]
  refine Nat.eq_of_testBit_eq fun j => ?_
  cases j with
  | zero => exact h0
  | succ j =>
    have := congrArg (fun n => n.testBit j) h
    simp only [nx_bit, h0] at this
    revert this
    cases s.testBit (j + 1) <;> cases t.testBit (j + 1) <;> cases (t.testBit 0 && Nat.testBit 2197175160 j) <;> simp
theorem nxs_inj {s t : Nat} (hs : s < 2 ^ 32) (ht : t < 2 ^ 32) (n : Nat) (h : nxs n s = nxs n t) : s = t := by
  induction n with
  | zero => exact h
  | succ n ih => exact ih (nx_inj (nxs_lt hs n) (nxs_lt ht n) h)
theorem nxs_more (m n s : Nat) : nxs (m + n) s = nxs m (nxs n s) := by
  induction m with
  | zero => rw [Nat.zero_add]; rfl
  | succ m ih => rw [Nat.succ_add]; show nx (nxs (m + n) s) = nx (nxs m _); rw [ih]
theorem nxs_none (n : Nat) : nxs n 0 = 0 := by
  induction n with
  | zero => rfl
  | succ n ih => show nx (nxs n 0) = 0; rw [ih]; rfl

/-! ### bytes -/
def feed (s : Nat) (l : List UInt8) : Nat := l.foldl (fun s x => nxs 8 (s ^^^ x.toNat)) s
theorem feed_snoc (s : Nat) (l : List UInt8) (x : UInt8) : feed s (l ++ [x]) = nxs 8 (feed s l ^^^ x.toNat) := by simp [feed]
theorem feed_append (s : Nat) (l m : List UInt8) : feed s (l ++ m) = feed (feed s l) m := by simp [feed]
theorem feed_cons (s : Nat) (x : UInt8) (l : List UInt8) : feed s (x :: l) = feed (nxs 8 (s ^^^ x.toNat)) l := rfl
theorem byte_lt (x : UInt8) : x.toNat < 2 ^ 32 := Nat.lt_trans x.toNat_lt (by decide)
theorem feed_lt {s : Nat} (h : s < 2 ^ 32) (l : List UInt8) : feed s l < 2 ^ 32 := by
  induction l generalizing s with
  | nil => exact h
  | cons x l ih => rw [feed_cons]; exact ih (nxs_lt (Nat.xor_lt_two_pow h (byte_lt x)) 8)
/-- the bits of a byte: the lowest is the highest power -/
def bb (x : UInt8) (j : Nat) : Bool := decide (j < 8) && x.toNat.testBit (7 - j)
theorem bb_cof (x : UInt8) (i : Nat) : shl (cof x.toNat) 8 i = shl (bb x) 32 i := by
  unfold shl cof bb
  rcases Nat.lt_or_ge i 32 with h | h
  · rw [decide_eq_false (show ¬ 32 ≤ i by omega)]
    rcases Nat.lt_or_ge i 8 with h1 | h1
    · rw [decide_eq_false (show ¬ 8 ≤ i by omega)]; rfl
    · rw [decide_eq_true h1, decide_eq_true (show i - 8 < 32 by omega), Nat.testBit_lt_two_pow (Nat.lt_of_lt_of_le x.toNat_lt (Nat.pow_le_pow_right (by omega) (show 8 ≤ 31 - (i - 8) by omega)))]
      rfl
  · rw [decide_eq_true h, decide_eq_true (show 8 ≤ i by omega)]
    by_cases h1 : i < 40
    · rw [decide_eq_true (show i - 8 < 32 by omega), decide_eq_true (show i - 32 < 8 by omega), show 31 - (i - 8) = 7 - (i - 32) by omega]
    · rw [decide_eq_false (show ¬ i - 8 < 32 by omega), decide_eq_false (show ¬ i - 32 < 8 by omega)]; rfl
theorem byte_quo {A : Nat → Bool} {s : Nat} (hs : s < 2 ^ 32) (h : Quo A (co genL) (cof s)) (x : UInt8) :
    Quo (fun i => shl A 8 i ^^ shl (bb x) 32 i) (co genL) (cof (nxs 8 (s ^^^ x.toNat))) := by
  refine Quo.trans ((h.shl 8).add (Quo.self (shl (bb x) 32) (co genL))) ?_
  refine (nxs_quo (Nat.xor_lt_two_pow hs (byte_lt x)) 8).congr (fun i => ?_) fun _ => rfl
  rw [← bb_cof, ← shl_xor]
  exact shl_congr (fun i => cof_xor s x.toNat i) 8 i
theorem ofB_cons (x : UInt8) (l : List UInt8) (j : Nat) : ofB (x :: l) j = (ofB l j ^^ shl (bb x) (8 * l.length) j) := by
  rcases Nat.lt_or_ge j (8 * l.length) with h | h
  · obtain ⟨i, k, hk, e⟩ : ∃ i k, k < 8 ∧ j + 1 + 8 * i + k = 8 * l.length := ⟨(8 * l.length - 1 - j) / 8, (8 * l.length - 1 - j) % 8, Nat.mod_lt _ (by omega), by omega⟩
    obtain ⟨y, hy⟩ : ∃ y, l[i]? = some y := ⟨_, List.getElem?_eq_getElem (by omega)⟩
    rw [ofB_at hy hk e, ofB_at (b := x :: l) (i := i + 1) (by simpa using hy) hk (by simp; omega)]
    unfold shl
    rw [decide_eq_false (show ¬ 8 * l.length ≤ j by omega)]; simp
  · rw [ofB_out h]
    unfold shl
    rw [decide_eq_true h]
    unfold bb
    by_cases h1 : j < 8 * l.length + 8
    · rw [decide_eq_true (show j - 8 * l.length < 8 by omega), ofB_at (b := x :: l) (i := 0) (k := 7 - (j - 8 * l.length)) (x := x) rfl (by omega) (by simp; omega)]; simp
    · rw [decide_eq_false (show ¬ j - 8 * l.length < 8 by omega), ofB_out (by simp; omega)]; rfl
theorem feed_quo {A : Nat → Bool} {s : Nat} (hs : s < 2 ^ 32) (h : Quo A (co genL) (cof s)) (l : List UInt8) :
    Quo (fun i => shl A (8 * l.length) i ^^ shl (ofB l) 32 i) (co genL) (cof (feed s l)) := by
  induction l generalizing A s with
  | nil => exact h.congr (fun i => by rw [show 8 * ([] : List UInt8).length = 0 from rfl, shl_zero, shl_none (fun i => ofB_out (Nat.zero_le _))]; simp) fun _ => rfl
  | cons x l ih =>
    rw [feed_cons]
    refine (ih (nxs_lt (Nat.xor_lt_two_pow hs (byte_lt x)) 8) (byte_quo hs h x)).congr (fun i => ?_) fun _ => rfl
    rw [shl_xor, shl_shl, shl_shl, shl_congr (ofB_cons x l), shl_xor, shl_shl, Nat.add_comm 32, List.length_cons, show 8 + 8 * l.length = 8 * (l.length + 1) by omega]
    cases shl A (8 * (l.length + 1)) i <;> cases shl (bb x) (8 * l.length + 32) i <;> cases shl (ofB l) 32 i <;> rfl
/-- the checksum of bytes -/
def crcN (l : List UInt8) : Nat := 4294967295 - feed 4294967295 l
theorem crcN_lt (l : List UInt8) : crcN l < 4294967296 := by unfold crcN; omega
/-- what is divided: the bytes times x^32, and 32 ones in front -/
def msg (l : List UInt8) (i : Nat) : Bool := shl (ofB l) 32 i ^^ shl (fun i => decide (i < 32)) (8 * l.length) i
theorem cof_ones (i : Nat) : cof 4294967295 i = decide (i < 32) := by
  unfold cof
  by_cases h : i < 32
  · rw [decide_eq_true h, show (4294967295 : Nat) = 2 ^ 32 - 1 from rfl, Nat.testBit_two_pow_sub_one, decide_eq_true (by omega)]; rfl
  · rw [decide_eq_false h]; rfl
theorem msg_rem (l : List UInt8) : Rem (msg l) (co genL) 32 (cof (feed 4294967295 l)) := by
  refine ⟨(feed_quo (A := fun i => decide (i < 32)) (s := 4294967295) (by decide) ((Quo.self _ _).congr (fun _ => rfl) fun i => (cof_ones i).symm) l).congr (fun i => ?_) fun _ => rfl, fun i hi => cof_out hi⟩
  unfold msg
  cases shl (ofB l) 32 i <;> simp
theorem rn_congr {f g : Nat → Bool} {k : Nat} (h : ∀ i, i < k → f i = g i) : rn f k = rn g k := by
  induction k with
  | zero => rfl
  | succ k ih => simp only [rn]; rw [ih fun i hi => h i (by omega), h k (by omega)]
theorem rn_bits (k s : Nat) : rn (fun i => s.testBit (k - 1 - i)) k = s % 2 ^ k := by
  induction k generalizing s with
  | zero => simp [rn, Nat.mod_one]
  | succ k ih =>
    simp only [rn]
    rw [rn_congr (g := fun i => (s / 2).testBit (k - 1 - i)) fun i hi => by rw [testBit_half]; congr 1; omega, ih]
    rw [show k + 1 - 1 - k = 0 by omega, Nat.testBit_zero, Nat.pow_succ]
    have h1 : s % (2 ^ k * 2) = 2 * (s / 2 % 2 ^ k) + s % 2 := by
      rw [Nat.mul_comm (2 ^ k) 2, Nat.mod_mul, Nat.add_comm]
    rw [h1]
    rcases Nat.mod_two_eq_zero_or_one s with h | h <;> simp [h]
theorem wd_cof {s : Nat} (h : s < 2 ^ 32) : wd (cof s) 32 = s := by
  unfold wd
  rw [rn_congr (g := fun i => s.testBit (32 - 1 - i)) fun i hi => by unfold cof; rw [decide_eq_true hi]; rfl, rn_bits, Nat.mod_eq_of_lt h]
  simp
theorem wd_congr {f g : Nat → Bool} (h : ∀ i, f i = g i) (k : Nat) : wd f k = wd g k := by unfold wd; rw [rn_congr fun i _ => h i]
theorem msg_word {l : List UInt8} {R : Nat → Bool} (h : Rem (msg l) (co genL) 32 R) : wd R 32 = feed 4294967295 l := by
  rw [wd_congr fun i => h.uniq gen_top (fun _ h => gen_over h) (msg_rem l) i, wd_cof (feed_lt (by decide) l)]
end Go.Proofs.Ytgjedidpimncaaa
