/- Sealed bytes: the field, its bits, and that few inverted bits are no multiple of the generator. Plain facts, over no program. -/
import Derived.Test.YtgjedidpimncaaaCrcA
namespace Go.Proofs.Ytgjedidpimncaaa
open Go.RowKit

/-! ### bits of bytes, and the field -/
def bt (b : List UInt8) (p : Nat) : Bool := match b[p / 8]? with
  | some x => x.toNat.testBit (p % 8)
  | none => false
theorem bt_some {b : List UInt8} {p : Nat} {x : UInt8} (h : b[p / 8]? = some x) : bt b p = x.toNat.testBit (p % 8) := by simp [bt, h]
theorem bt_out {b : List UInt8} {p : Nat} (h : 8 * b.length ≤ p) : bt b p = false := by
  unfold bt
  rw [List.getElem?_eq_none (by omega)]
theorem ofB_bt {b : List UInt8} {j : Nat} (h : j < 8 * b.length) : ofB b j = bt b (8 * b.length - 1 - j) := by
  obtain ⟨y, hy⟩ : ∃ y, b[(8 * b.length - 1 - j) / 8]? = some y := ⟨_, List.getElem?_eq_getElem (by omega)⟩
  rw [bt_some hy, ofB_at (k := (8 * b.length - 1 - j) % 8) hy (Nat.mod_lt _ (by omega)) (by omega)]
/-- byte i of a word, the lowest first -/
def fb (x i : Nat) : UInt8 := UInt8.ofNat (x / 256 ^ i)
theorem fb_toNat (x i : Nat) : (fb x i).toNat = x / 256 ^ i % 256 := by simp [fb]
theorem fb_bit (x i k : Nat) (hk : k < 8) : (fb x i).toNat.testBit k = x.testBit (8 * i + k) := by
  rw [fb_toNat, show (256 : Nat) = 2 ^ 8 from rfl, ← Nat.pow_mul, Nat.testBit_mod_two_pow, decide_eq_true hk, Nat.testBit_div_two_pow, Bool.true_and, Nat.add_comm k]
def setF (b : List UInt8) (x : Nat) : List UInt8 := (((b.set 8 (fb x 0)).set 9 (fb x 1)).set 10 (fb x 2)).set 11 (fb x 3)
theorem setF_len (b : List UInt8) (x : Nat) : (setF b x).length = b.length := by simp [setF]
theorem setF_at (b : List UInt8) (x : Nat) (h : 12 ≤ b.length) (i : Nat) : (setF b x)[i]? = if 8 ≤ i ∧ i < 12 then some (fb x (i - 8)) else b[i]? := by
  unfold setF
  simp only [List.getElem?_set, List.length_set]
  by_cases h1 : i = 11
  · subst h1; simp; omega
  by_cases h2 : i = 10
  · subst h2; simp; omega
  by_cases h3 : i = 9
  · subst h3; simp; omega
  by_cases h4 : i = 8
  · subst h4; simp; omega
  rw [if_neg (fun e => h1 e.symm), if_neg (fun e => h2 e.symm), if_neg (fun e => h3 e.symm), if_neg (fun e => h4 e.symm), if_neg (by omega)]
theorem setF_setF (b : List UInt8) (x y : Nat) (h : 12 ≤ b.length) : setF (setF b x) y = setF b y := by
  refine List.ext_getElem? fun i => ?_
  rw [setF_at _ _ (by rw [setF_len]; exact h), setF_at _ _ h, setF_at _ _ h]
  split <;> rfl
theorem bt_setF (b : List UInt8) (x : Nat) (h : 12 ≤ b.length) (p : Nat) : bt (setF b x) p = if 64 ≤ p ∧ p < 96 then x.testBit (p - 64) else bt b p := by
  unfold bt
  rw [setF_at b x h]
  by_cases h1 : 64 ≤ p ∧ p < 96
  · rw [if_pos (show 8 ≤ p / 8 ∧ p / 8 < 12 by omega), if_pos h1]
    show (fb x (p / 8 - 8)).toNat.testBit (p % 8) = _
    rw [fb_bit _ _ _ (Nat.mod_lt _ (by omega)), show 8 * (p / 8 - 8) + p % 8 = p - 64 by omega]
  · rw [if_neg (show ¬ (8 ≤ p / 8 ∧ p / 8 < 12) by omega), if_neg h1]
/-- the bytes with a field of zeros -/
def zf (b : List UInt8) : List UInt8 := setF b 0
def sealL (b : List UInt8) : List UInt8 := setF b (crcN (zf b))
def isSealed (b : List UInt8) : Bool := decide (12 ≤ b.length) && decide (sealL b = b)
theorem sealL_len (b : List UInt8) : (sealL b).length = b.length := setF_len _ _
theorem sealL_sealed {b : List UInt8} (h : 12 ≤ b.length) : isSealed (sealL b) = true := by
  unfold isSealed
  rw [decide_eq_true (by rw [sealL_len]; exact h)]
  refine decide_eq_true ?_
  have e : zf (sealL b) = zf b := setF_setF b _ _ h
  show setF (sealL b) (crcN (zf (sealL b))) = _
  rw [e]
  exact setF_setF b _ _ h
theorem sealed_len {b : List UInt8} (h : isSealed b = true) : 12 ≤ b.length := by
  unfold isSealed at h
  simp at h
  exact h.1
theorem sealed_bit {b : List UInt8} (h : isSealed b = true) {i : Nat} (hi : i < 32) : bt b (64 + i) = !(feed 4294967295 (zf b)).testBit i := by
  have hl := sealed_len h
  unfold isSealed at h
  simp at h
  have e : bt b (64 + i) = bt (sealL b) (64 + i) := by rw [h.2]
  rw [e]
  unfold sealL
  rw [bt_setF _ _ hl, if_pos ⟨by omega, by omega⟩, show 64 + i - 64 = i by omega]
  unfold crcN
  have hf := feed_lt (s := 4294967295) (by decide) (zf b)
  rw [show 4294967295 - feed 4294967295 (zf b) = 2 ^ 32 - (feed 4294967295 (zf b) + 1) by omega, Nat.testBit_two_pow_sub_succ hf, decide_eq_true hi]
  rfl
/-! ### what two sealed packets of one length differ by -/
def pof (k : Nat) (D : Nat → Bool) (j : Nat) : Bool := if j < 32 then D (95 - j) else
  decide (j < 8 * k + 32) && (!decide (64 ≤ 8 * k + 31 - j ∧ 8 * k + 31 - j < 96) && D (8 * k + 31 - j))
theorem both {b c : List UInt8} {k : Nat} (hb : isSealed b = true) (hc : isSealed c = true) (eb : b.length = k) (ec : c.length = k) :
    Quo (pof k fun p => bt b p ^^ bt c p) (co genL) fun _ => false := by
  have lb := sealed_len hb
  have lc := sealed_len hc
  refine (((msg_rem (zf b)).add (msg_rem (zf c))).less.quo).congr (fun j => ?_) fun _ => rfl
  have zb : (zf b).length = k := by rw [← eb]; exact setF_len _ _
  have zc : (zf c).length = k := by rw [← ec]; exact setF_len _ _
  unfold pof msg
  rw [zb, zc]
  by_cases h : j < 32
  · rw [if_pos h, show 95 - j = 64 + (31 - j) by omega]
    show _ = (bt b (64 + (31 - j)) ^^ bt c (64 + (31 - j)))
    rw [sealed_bit hb (by omega), sealed_bit hc (by omega)]
    unfold cof
    rw [decide_eq_true h]
    unfold shl
    rw [decide_eq_false (show ¬ 32 ≤ j by omega)]
    simp
  · rw [if_neg h, cof_out (by omega), cof_out (by omega)]
    have e1 : ∀ (l : List UInt8), 12 ≤ l.length → l.length = k → shl (ofB (zf l)) 32 j = (decide (j < 8 * k + 32) && (!decide (64 ≤ 8 * k + 31 - j ∧ 8 * k + 31 - j < 96) && bt l (8 * k + 31 - j))) := by
      intro l hl el
      have zl : (zf l).length = k := by rw [← el]; exact setF_len _ _
      unfold shl
      rw [decide_eq_true (show 32 ≤ j by omega), Bool.true_and]
      by_cases h1 : j < 8 * k + 32
      · rw [ofB_bt (by rw [zl]; omega), zl, show 8 * k - 1 - (j - 32) = 8 * k + 31 - j by omega, decide_eq_true h1, Bool.true_and]
        unfold zf
        rw [bt_setF _ _ hl]
        by_cases h2 : 64 ≤ 8 * k + 31 - j ∧ 8 * k + 31 - j < 96
        · rw [if_pos h2, decide_eq_true h2]; simp
        · rw [if_neg h2, decide_eq_false h2]; simp
      · rw [ofB_out (by rw [zl]; omega), decide_eq_false h1]; rfl
    rw [e1 b lb eb, e1 c lc ec]
    show _ = (_ && (_ && (bt b (8 * k + 31 - j) ^^ bt c (8 * k + 31 - j))))
    cases shl (fun i => decide (i < 32)) (8 * k) j <;> cases decide (j < 8 * k + 32) <;> cases decide (64 ≤ 8 * k + 31 - j ∧ 8 * k + 31 - j < 96) <;> cases bt b (8 * k + 31 - j) <;> cases bt c (8 * k + 31 - j) <;> rfl
theorem pof_congr {k : Nat} {D E : Nat → Bool} (h : ∀ p, p < 8 * k → D p = E p) (hk : 12 ≤ k) (j : Nat) : pof k D j = pof k E j := by
  unfold pof
  split
  · rw [h _ (by omega)]
  · by_cases h1 : j < 8 * k + 32
    · rw [h _ (by omega)]
    · rw [decide_eq_false h1]; rfl
theorem pof_xor (k : Nat) (D E : Nat → Bool) (j : Nat) : pof k (fun p => D p ^^ E p) j = (pof k D j ^^ pof k E j) := by
  unfold pof
  split
  · rfl
  · cases decide (j < 8 * k + 32) <;> cases decide (64 ≤ 8 * k + 31 - j ∧ 8 * k + 31 - j < 96) <;> simp
/-- the power that a bit stands for -/
def ee (k p : Nat) : Nat := if 64 ≤ p ∧ p < 96 then 95 - p else 8 * k + 31 - p
theorem pof_mono {k p : Nat} (hp : p < 8 * k) (j : Nat) : pof k (fun q => decide (q = p)) j = decide (j = ee k p) := by
  unfold ee
  show (if j < 32 then decide (95 - j = p) else decide (j < 8 * k + 32) && (!decide (64 ≤ 8 * k + 31 - j ∧ 8 * k + 31 - j < 96) && decide (8 * k + 31 - j = p))) = _
  by_cases h1 : 64 ≤ p ∧ p < 96
  · rw [if_pos h1]
    by_cases h : j < 32
    · rw [if_pos h]; exact decide_eq_decide.2 (by omega)
    · rw [if_neg h, decide_eq_false (show ¬ j = 95 - p by omega)]
      by_cases h2 : 8 * k + 31 - j = p
      · rw [h2, decide_eq_true h1]; simp
      · rw [decide_eq_false h2]; simp
  · rw [if_neg h1]
    by_cases h : j < 32
    · rw [if_pos h, decide_eq_false (show ¬ 95 - j = p by omega), decide_eq_false (by omega)]
    · rw [if_neg h]
      by_cases h2 : 8 * k + 31 - j = p ∧ j < 8 * k + 32
      · rw [h2.1, decide_eq_false h1, decide_eq_true h2.2, decide_eq_true (show j = 8 * k + 31 - p by omega)]; simp
      · rw [decide_eq_false (show ¬ j = 8 * k + 31 - p by omega)]
        by_cases h3 : j < 8 * k + 32
        · rw [decide_eq_false (show ¬ 8 * k + 31 - j = p by omega)]; simp
        · rw [decide_eq_false h3]; rfl
theorem ee_inj {k p q : Nat} (hp : p < 8 * k) (hq : q < 8 * k) (h : ee k p = ee k q) : p = q := by
  unfold ee at h
  split at h <;> split at h <;> omega
theorem ee_lt {k p : Nat} (hk : 12 ≤ k) : ee k p < 8 * k + 32 := by
  unfold ee
  split <;> omega

/-! ### parity -/
theorem xs_more {f : Nat → Bool} {n : Nat} (h : ∀ i, n ≤ i → f i = false) (m : Nat) : xs (n + m) f = xs n f := by
  induction m with
  | zero => rfl
  | succ m ih => show (xs (n + m) f ^^ f (n + m)) = _; rw [ih, h _ (by omega)]; simp
theorem xs_cv {g : Nat → Bool} {N : Nat} (hg : ∀ i, N ≤ i → g i = false) (M : Nat) (q : Nat → Bool) (hq : ∀ i, M ≤ i → q i = false) : xs (N + M) (cv q g) = (xs M q && xs N g) := by
  induction M generalizing q with
  | zero => rw [xs_none fun k _ => cv_none (fun i => hq i (Nat.zero_le _)) g k]; simp [xs]
  | succ M ih =>
    have e : ∀ i, cv q g i = ((q 0 && g i) ^^ front false (cv (fun i => q (i + 1)) g) i) := by
      intro i
      rw [← cv_front]
      exact cv_congr (fun i => by cases i <;> rfl) (fun _ => rfl) i
    rw [xs_congr fun k _ => e k, xs_xor, ← Nat.add_assoc, xs_front (N + M) (front false _)]
    show ((xs (N + M + 1) fun k => q 0 && g k) ^^ (false ^^ xs (N + M) fun k => cv (fun i => q (i + 1)) g k)) = _
    rw [ih _ fun i hi => hq _ (by omega), xs_front M q, Bool.false_xor]
    have e2 : (xs (N + M + 1) fun k => q 0 && g k) = (q 0 && xs N g) := by
      rw [Nat.add_assoc, xs_more fun i hi => by rw [hg i hi]; simp]
      cases q 0
      · simp only [Bool.false_and]; exact xs_none fun _ _ => rfl
      · simp only [Bool.true_and]
    rw [e2]
    cases q 0 <;> cases xs N g <;> cases (xs M fun k => q (k + 1)) <;> rfl
theorem gen_even : xs 33 (co genL) = false := by kernel_rfl
theorem even {a : Nat → Bool} (h : Quo a (co genL) fun _ => false) {n : Nat} (ha : ∀ i, n ≤ i → a i = false) : xs n a = false := by
  obtain ⟨q, ⟨M, hM⟩, e⟩ := h
  have e : ∀ i, a i = cv q (co genL) i := fun i => by rw [e]; simp
  have h1 := xs_cv (g := co genL) (N := 33) (fun i hi => gen_over (by omega)) M q hM
  rw [gen_even, Bool.and_false, ← xs_congr fun k _ => e k] at h1
  have h2 : xs (n + (33 + M)) a = false := by
    rw [Nat.add_comm, xs_more (fun i hi => ?_) n, h1]
    rw [e]
    exact cv_above (m := M) (n := 33) hM (fun i hi => gen_over (by omega)) (by omega)
  rwa [xs_more ha] at h2
theorem xs_mono {n e : Nat} (h : e < n) : xs n (fun j => decide (j = e)) = true := by
  rw [xs_single h fun j _ hj => decide_eq_false hj]
  simp

/-! ### the order of x -/
def one31 : Nat := 2147483648
def run : Nat → Nat → Bool
  | 0, _ => true
  | n + 1, s => match nx s with
    | 0 => false
    | k + 1 => bif Nat.beq k 2147483647 then false else run n (k + 1)
theorem run_no {n s d : Nat} (h : run n s = true) (h1 : 0 < d) (h2 : d ≤ n) : nxs d s ≠ one31 := by
  induction n generalizing s d with
  | zero => omega
  | succ n ih =>
    unfold run at h
    cases hx : nx s with
    | zero => rw [hx] at h; cases h
    | succ k =>
      rw [hx] at h
      simp only at h
      cases hb : Nat.beq k 2147483647 with
      | true => rw [hb] at h; cases h
      | false =>
        rw [hb] at h
        simp only [cond_false] at h
        obtain ⟨d, rfl⟩ : ∃ e, d = e + 1 := ⟨d - 1, by omega⟩
        rw [nxs_more d 1 s]
        show nxs d (nx s) ≠ _
        rw [hx]
        cases d with
        | zero => 
          intro e
          have e : k + 1 = 2147483648 := e
          have : k = 2147483647 := by omega
          subst this
          cases hb
        | succ d => exact ih h (by omega) (by omega)
theorem run_all : run 24300 one31 = true := by kernel_rfl
theorem cof_one (i : Nat) : cof one31 i = decide (i = 0) := by
  unfold cof one31
  by_cases h : i < 32
  · rw [decide_eq_true h, show (2147483648 : Nat) = 2 ^ 31 from rfl, Nat.testBit_two_pow, Bool.true_and]
    exact decide_eq_decide.2 (by omega)
  · rw [decide_eq_false h, decide_eq_false (by omega)]; rfl
theorem mono_rem (e : Nat) : Rem (fun j => decide (j = e)) (co genL) 32 (cof (nxs e one31)) := by
  refine ⟨(nxs_quo (s := one31) (by decide) e).congr (fun i => ?_) fun _ => rfl, fun i hi => cof_out hi⟩
  unfold shl
  rw [cof_one]
  by_cases h : e ≤ i
  · rw [decide_eq_true h, Bool.true_and]; exact decide_eq_decide.2 (by omega)
  · rw [decide_eq_false h, decide_eq_false (show ¬ i = e by omega)]; rfl
theorem two_no {e f : Nat} (h : Quo (fun j => decide (j = e) ^^ decide (j = f)) (co genL) fun _ => false) (hl : e < f) (hd : f ≤ e + 24300) : False := by
  have h1 := ((mono_rem e).add (mono_rem f)).uniq gen_top (fun _ h => gen_over h) ⟨h, fun _ _ => rfl⟩
  have h2 : nxs e one31 = nxs f one31 := cof_inj (nxs_lt (by decide) _) (nxs_lt (by decide) _) fun i => by
    have := h1 i
    revert this
    cases cof (nxs e one31) i <;> cases cof (nxs f one31) i <;> simp
  rw [show f = e + (f - e) by omega, nxs_more] at h2
  exact run_no (d := f - e) run_all (by omega) (by omega) (nxs_inj (by decide) (nxs_lt (by decide) _) e h2).symm

/-! ### flips -/
theorem flip1 {b c : List UInt8} {k p : Nat} (hb : isSealed b = true) (hc : isSealed c = true) (eb : b.length = k) (ec : c.length = k) (hp : p < 8 * k)
    (h : ∀ q, q < 8 * k → (bt b q ^^ bt c q) = decide (q = p)) : False := by
  have hk : 12 ≤ k := by rw [← eb]; exact sealed_len hb
  have h1 := even ((both hb hc eb ec).congr (fun j => (pof_congr h hk j).trans (pof_mono hp j)) fun _ => rfl) (n := 8 * k + 32) (fun i hi => decide_eq_false (by have := ee_lt (p := p) hk; omega))
  rw [xs_mono (ee_lt hk)] at h1
  cases h1
theorem flip3 {b c : List UInt8} {k p q r : Nat} (hb : isSealed b = true) (hc : isSealed c = true) (eb : b.length = k) (ec : c.length = k) (hp : p < 8 * k) (hq : q < 8 * k) (hr : r < 8 * k)
    (h : ∀ x, x < 8 * k → (bt b x ^^ bt c x) = ((decide (x = p) ^^ decide (x = q)) ^^ decide (x = r))) : False := by
  have hk : 12 ≤ k := by rw [← eb]; exact sealed_len hb
  have h1 := even ((both hb hc eb ec).congr (fun j => (pof_congr h hk j).trans (by rw [pof_xor, pof_xor, pof_mono hp, pof_mono hq, pof_mono hr])) fun _ => rfl) (n := 8 * k + 32) (fun i hi => by
    rw [decide_eq_false (by have := ee_lt (p := p) hk; omega), decide_eq_false (by have := ee_lt (p := q) hk; omega), decide_eq_false (by have := ee_lt (p := r) hk; omega)]; rfl)
  rw [xs_xor, xs_xor, xs_mono (ee_lt hk), xs_mono (ee_lt hk), xs_mono (ee_lt hk)] at h1
  cases h1
theorem flip2 {b c : List UInt8} {k p q : Nat} (hb : isSealed b = true) (hc : isSealed c = true) (eb : b.length = k) (ec : c.length = k) (hp : p < 8 * k) (hq : q < 8 * k) (hne : p ≠ q) (hm : k ≤ 3030)
    (h : ∀ x, x < 8 * k → (bt b x ^^ bt c x) = (decide (x = p) ^^ decide (x = q))) : False := by
  have hk : 12 ≤ k := by rw [← eb]; exact sealed_len hb
  have h1 := (both hb hc eb ec).congr (fun j => (pof_congr h hk j).trans (by rw [pof_xor, pof_mono hp, pof_mono hq])) fun _ => rfl
  have e1 := ee_lt (p := p) hk
  have e2 := ee_lt (p := q) hk
  rcases Nat.lt_trichotomy (ee k p) (ee k q) with h2 | h2 | h2
  · exact two_no h1 h2 (by omega)
  · exact hne (ee_inj hp hq h2)
  · exact two_no (h1.congr (fun j => Bool.xor_comm _ _) fun _ => rfl) h2 (by omega)
/-! ### bursts -/
theorem window {P : Nat → Bool} {n : Nat} (h : Quo P (co genL) fun _ => false) (hw : ∀ j, P j = true → n ≤ j ∧ j < n + 32) (j : Nat) : P j = false := by
  obtain ⟨q, hq, e⟩ := h
  have e : ∀ i, P i = cv q (co genL) i := fun i => by rw [e]; simp
  rcases hq.top with hz | ⟨d, hd, ht⟩
  · rw [e, cv_none hz]
  · exfalso
    obtain ⟨s, hs, h1, h2⟩ := Ends.low hd
    have e1 := hw (d + 32) (by rw [e, cv_top ht (fun _ h => gen_over h), hd, gen_top]; rfl)
    have e2 := hw s (by rw [e, cv_low h2, h1]; decide)
    omega
theorem burst {b c : List UInt8} {k i : Nat} (hb : isSealed b = true) (hc : isSealed c = true) (eb : b.length = k) (ec : c.length = k) (hi : i < 8 * k)
    (h : ∀ p, (bt b p ^^ bt c p) = true → i ≤ p ∧ p < i + 32) (hf : (∀ p, (bt b p ^^ bt c p) = true → 64 ≤ p ∧ p < 96) ∨ ∀ p, (bt b p ^^ bt c p) = true → ¬ (64 ≤ p ∧ p < 96))
    (p : Nat) (hp : p < 8 * k) : bt b p = bt c p := by
  have hk : 12 ≤ k := by rw [← eb]; exact sealed_len hb
  have hQ := both hb hc eb ec
  have hP : ∀ j, pof k (fun p => bt b p ^^ bt c p) j = false := by
    rcases hf with hf | hf
    · refine window (n := 0) hQ fun j hj => ?_
      unfold pof at hj
      split at hj
      · omega
      · simp only [Bool.and_eq_true] at hj
        have := hf _ hj.2.2
        have h2 := hj.2.1
        rw [decide_eq_true this] at h2
        cases h2
    · refine window (n := 8 * k - i) hQ fun j hj => ?_
      unfold pof at hj
      split at hj
      · exact absurd (show 64 ≤ 95 - j ∧ 95 - j < 96 by omega) (hf _ hj)
      · simp only [Bool.and_eq_true, decide_eq_true_eq] at hj
        have := h _ hj.2.2
        omega
  cases hb : (bt b p ^^ bt c p) with
  | false => revert hb; cases bt b p <;> cases bt c p <;> simp
  | true =>
    exfalso
    have h1 := hP (ee k p)
    unfold pof ee at h1
    by_cases h2 : 64 ≤ p ∧ p < 96
    · rw [if_pos h2, if_pos (by omega), show 95 - (95 - p) = p by omega] at h1
      exact Bool.false_ne_true (h1.symm.trans hb)
    · rw [if_neg h2, if_neg (by omega), show 8 * k + 31 - (8 * k + 31 - p) = p by omega, decide_eq_false h2, decide_eq_true (by omega)] at h1
      exact Bool.false_ne_true (h1.symm.trans hb)
/-! ### one bit inverted -/
def flipL (b : List UInt8) (p : Nat) : List UInt8 := match b[p / 8]? with
  | some x => b.set (p / 8) (x ^^^ UInt8.ofNat (2 ^ (p % 8)))
  | none => b
theorem flipL_some {b : List UInt8} {p : Nat} {x : UInt8} (h : b[p / 8]? = some x) : flipL b p = b.set (p / 8) (x ^^^ UInt8.ofNat (2 ^ (p % 8))) := by simp [flipL, h]
theorem flipL_len (b : List UInt8) (p : Nat) : (flipL b p).length = b.length := by
  unfold flipL
  split <;> simp
theorem flipL_bt {b : List UInt8} {p : Nat} (h : p < 8 * b.length) (q : Nat) : bt (flipL b p) q = (bt b q ^^ decide (q = p)) := by
  obtain ⟨x, hx⟩ : ∃ x, b[p / 8]? = some x := ⟨_, List.getElem?_eq_getElem (by omega)⟩
  rw [flipL_some hx]
  by_cases h1 : q / 8 = p / 8
  · rw [bt_some (x := x ^^^ UInt8.ofNat (2 ^ (p % 8))) (by rw [h1, List.getElem?_set]; simp; omega), bt_some (by rw [h1]; exact hx), UInt8.toNat_xor, Nat.testBit_xor]
    congr 1
    have h8 : p % 8 < 8 := Nat.mod_lt _ (by omega)
    rw [UInt8.toNat_ofNat', Nat.mod_eq_of_lt (Nat.pow_lt_pow_right (by omega) h8), Nat.testBit_two_pow]
    exact decide_eq_decide.2 (by omega)
  · rw [decide_eq_false (by rintro rfl; exact h1 rfl), Bool.xor_false]
    unfold bt
    rw [List.getElem?_set, if_neg (fun e => h1 e.symm)]
theorem bt_ext {b c : List UInt8} (h : b.length = c.length) (e : ∀ p, p < 8 * b.length → bt b p = bt c p) : b = c := by
  refine List.ext_getElem h fun i h1 h2 => ?_
  refine UInt8.toNat_inj.1 (Nat.eq_of_testBit_eq fun k => ?_)
  rcases Nat.lt_or_ge k 8 with hk | hk
  · have := e (8 * i + k) (by omega)
    rwa [bt_some (x := b[i]) (by rw [show (8 * i + k) / 8 = i by omega]; exact List.getElem?_eq_getElem h1), bt_some (x := c[i]) (by rw [show (8 * i + k) / 8 = i by omega]; exact List.getElem?_eq_getElem h2), show (8 * i + k) % 8 = k by omega] at this
  · rw [Nat.testBit_lt_two_pow (Nat.lt_of_lt_of_le (b[i]).toNat_lt (Nat.pow_le_pow_right (by omega) hk)), Nat.testBit_lt_two_pow (Nat.lt_of_lt_of_le (c[i]).toNat_lt (Nat.pow_le_pow_right (by omega) hk))]
end Go.Proofs.Ytgjedidpimncaaa
