/- Polynomials modulo 2 as functions from powers to bits: sums, products, remainders, and lists of bits. Plain facts, over no program. -/
import Derived.Test.YtgjedidpimncaaaSame
namespace Go.Proofs.Ytgjedidpimncaaa
open Go.RowKit

/-! ### sums modulo 2 -/
def xs : Nat → (Nat → Bool) → Bool
  | 0, _ => false
  | n + 1, h => xs n h ^^ h n
theorem xs_congr {n : Nat} {f g : Nat → Bool} (h : ∀ k, k < n → f k = g k) : xs n f = xs n g := by
  induction n with
  | zero => rfl
  | succ n ih => simp only [xs]; rw [ih fun k hk => h k (by omega), h n (by omega)]
theorem xs_none {n : Nat} {f : Nat → Bool} (h : ∀ k, k < n → f k = false) : xs n f = false := by
  induction n with
  | zero => rfl
  | succ n ih => simp only [xs]; rw [ih fun k hk => h k (by omega), h n (by omega)]; rfl
theorem xs_xor (n : Nat) (f g : Nat → Bool) : xs n (fun k => f k ^^ g k) = (xs n f ^^ xs n g) := by
  induction n with
  | zero => rfl
  | succ n ih =>
    simp only [xs]
    rw [ih]
    cases xs n f <;> cases xs n g <;> cases f n <;> cases g n <;> rfl
theorem xs_single {n k : Nat} {f : Nat → Bool} (hk : k < n) (h : ∀ j, j < n → j ≠ k → f j = false) : xs n f = f k := by
  induction n with
  | zero => omega
  | succ n ih =>
    simp only [xs]
    by_cases e : k = n
    · subst e
      rw [xs_none fun j hj => h j (by omega) (by omega)]
      simp
    · rw [ih (by omega) fun j hj hne => h j (by omega) hne, h n (by omega) (by omega)]
      simp
theorem xs_front (n : Nat) (f : Nat → Bool) : xs (n + 1) f = (f 0 ^^ xs n fun k => f (k + 1)) := by
  induction n with
  | zero => simp [xs]
  | succ n ih =>
    rw [xs, ih]
    simp only [xs]
    cases f 0 <;> cases xs n (fun k => f (k + 1)) <;> cases f (n + 1) <;> rfl
theorem xs_rev (n : Nat) (f : Nat → Bool) : xs (n + 1) f = xs (n + 1) fun k => f (n - k) := by
  induction n generalizing f with
  | zero => rfl
  | succ n ih =>
    rw [xs_front, ih]
    conv => rhs; rw [xs]
    rw [xs_congr (n := n + 1) (f := fun k => f (n + 1 - k)) (g := fun k => f (n - k + 1)) fun k hk => by
      show f (n + 1 - k) = f (n - k + 1)
      congr 1
      omega]
    simp [Bool.xor_comm]

/-! ### products -/
def cv (f g : Nat → Bool) (i : Nat) : Bool := xs (i + 1) fun k => f k && g (i - k)
theorem cv_comm (f g : Nat → Bool) (i : Nat) : cv f g i = cv g f i := by
  unfold cv
  rw [xs_rev]
  refine xs_congr fun k hk => ?_
  show (f (i - k) && g (i - (i - k))) = (g k && f (i - k))
  rw [Nat.sub_sub_self (by omega), Bool.and_comm]
theorem cv_congr {f f' g g' : Nat → Bool} (hf : ∀ i, f i = f' i) (hg : ∀ i, g i = g' i) (i : Nat) : cv f g i = cv f' g' i :=
  xs_congr fun k _ => by show (f k && g (i - k)) = (f' k && g' (i - k)); rw [hf, hg]
theorem cv_add (f f' g : Nat → Bool) (i : Nat) : cv (fun k => f k ^^ f' k) g i = (cv f g i ^^ cv f' g i) := by
  unfold cv
  rw [← xs_xor]
  refine xs_congr fun k _ => ?_
  show ((f k ^^ f' k) && g (i - k)) = ((f k && g (i - k)) ^^ (f' k && g (i - k)))
  cases f k <;> cases f' k <;> cases g (i - k) <;> rfl
theorem cv_add' (f g g' : Nat → Bool) (i : Nat) : cv f (fun k => g k ^^ g' k) i = (cv f g i ^^ cv f g' i) := by
  rw [cv_comm, cv_add, cv_comm g, cv_comm g']
theorem cv_none {f : Nat → Bool} (h : ∀ k, f k = false) (g : Nat → Bool) (i : Nat) : cv f g i = false :=
  xs_none fun k _ => by show (f k && _) = false; rw [h]; rfl
theorem cv_mono (n : Nat) (g : Nat → Bool) (i : Nat) : cv (fun k => decide (k = n)) g i = (decide (n ≤ i) && g (i - n)) := by
  unfold cv
  by_cases h : n ≤ i
  · rw [xs_single (k := n) (by omega) fun j _ hj => by simp [hj]]
    simp [h]
  · rw [xs_none fun k hk => by show (decide (k = n) && g (i - k)) = false; rw [decide_eq_false (by omega)]; rfl]
    simp [h]
theorem cv_top {f g : Nat → Bool} {m n : Nat} (hf : ∀ i, m < i → f i = false) (hg : ∀ i, n < i → g i = false) : cv f g (m + n) = (f m && g n) := by
  unfold cv
  rw [xs_single (k := m) (by omega) fun j hj hne => ?_]
  · show (f m && g (m + n - m)) = _
    rw [Nat.add_sub_cancel_left]
  · show (f j && g (m + n - j)) = false
    rcases Nat.lt_or_ge m j with h1 | h1
    · rw [hf j h1]; rfl
    · rw [hg (m + n - j) (by omega), Bool.and_false]
theorem cv_low {f : Nat → Bool} {m : Nat} (hf : ∀ i, i < m → f i = false) (g : Nat → Bool) : cv f g m = (f m && g 0) := by
  unfold cv
  rw [xs_single (k := m) (by omega) fun j hj hne => ?_]
  · show (f m && g (m - m)) = _
    rw [Nat.sub_self]
  · show (f j && g (m - j)) = false
    rw [hf j (by omega)]; rfl
theorem cv_above {f g : Nat → Bool} {m n : Nat} (hf : ∀ i, m ≤ i → f i = false) (hg : ∀ i, n ≤ i → g i = false) {i : Nat} (hi : m + n ≤ i + 1) : cv f g i = false := by
  refine xs_none fun k hk => ?_
  show (f k && g (i - k)) = false
  rcases Nat.lt_or_ge k m with h1 | h1
  · rw [hg (i - k) (by omega), Bool.and_false]
  · rw [hf k h1]; rfl
/-- a lower coefficient put in front: times x, plus b -/
def front (b : Bool) (f : Nat → Bool) : Nat → Bool
  | 0 => b
  | i + 1 => f i
theorem cv_front (b : Bool) (q g : Nat → Bool) (i : Nat) : cv (front b q) g i = ((b && g i) ^^ front false (cv q g) i) := by
  cases i with
  | zero => simp [cv, xs, front]
  | succ i =>
    unfold cv
    rw [xs_front]
    show ((b && g (i + 1 - 0)) ^^ _) = ((b && g (i + 1)) ^^ cv q g i)
    congr 1
    unfold cv
    refine xs_congr fun k _ => ?_
    show (q k && g (i + 1 - (k + 1))) = (q k && g (i - k))
    rw [Nat.add_sub_add_right]

/-! ### remainders -/
def Ends (f : Nat → Bool) : Prop := ∃ N, ∀ i, N ≤ i → f i = false
theorem Ends.top {f : Nat → Bool} (h : Ends f) : (∀ i, f i = false) ∨ ∃ d, f d = true ∧ ∀ i, d < i → f i = false := by
  obtain ⟨N, h⟩ := h
  induction N with
  | zero => exact .inl fun i => h i (Nat.zero_le _)
  | succ N ih =>
    cases hb : f N with
    | true => exact .inr ⟨N, hb, fun i hi => h i (by omega)⟩
    | false =>
      refine ih fun i hi => ?_
      by_cases e : i = N
      · rw [e, hb]
      · exact h i (by omega)
theorem Ends.low {f : Nat → Bool} {d : Nat} (hd : f d = true) : ∃ s, s ≤ d ∧ f s = true ∧ ∀ i, i < s → f i = false := by
  induction d using Nat.strongRecOn with
  | _ d ih =>
    by_cases h : ∃ e, e < d ∧ f e = true
    · obtain ⟨e, he, h1⟩ := h
      obtain ⟨s, hs, h2, h3⟩ := ih e he h1
      exact ⟨s, by omega, h2, h3⟩
    · refine ⟨d, Nat.le_refl _, hd, fun i hi => ?_⟩
      cases hb : f i with
      | false => rfl
      | true => exact absurd ⟨i, hi, hb⟩ h
theorem Ends.add {f g : Nat → Bool} (hf : Ends f) (hg : Ends g) : Ends fun i => f i ^^ g i := by
  obtain ⟨N, hf⟩ := hf
  obtain ⟨M, hg⟩ := hg
  exact ⟨N + M, fun i hi => by show (f i ^^ g i) = false; rw [hf i (by omega), hg i (by omega)]; rfl⟩
/-- a is a multiple of g, plus r -/
def Quo (a g r : Nat → Bool) : Prop := ∃ q, Ends q ∧ ∀ i, a i = (cv q g i ^^ r i)
structure Rem (a g : Nat → Bool) (n : Nat) (r : Nat → Bool) : Prop where
  quo : Quo a g r
  small : ∀ i, n ≤ i → r i = false
section
variable {a b g r s : Nat → Bool} {n : Nat}
theorem Quo.self (a g : Nat → Bool) : Quo a g a := ⟨fun _ => false, ⟨0, fun _ _ => rfl⟩, fun i => by rw [cv_none fun _ => rfl]; simp⟩
theorem Quo.add (h1 : Quo a g r) (h2 : Quo b g s) : Quo (fun i => a i ^^ b i) g (fun i => r i ^^ s i) := by
  obtain ⟨p, hp, h1⟩ := h1
  obtain ⟨q, hq, h2⟩ := h2
  refine ⟨fun i => p i ^^ q i, hp.add hq, fun i => ?_⟩
  show (a i ^^ b i) = (cv _ g i ^^ (r i ^^ s i))
  rw [cv_add, h1, h2]
  cases cv p g i <;> cases cv q g i <;> cases r i <;> cases s i <;> rfl
theorem Quo.mul {q : Nat → Bool} (hq : Ends q) (g : Nat → Bool) : Quo (cv g q) g fun _ => false :=
  ⟨q, hq, fun i => by rw [cv_comm]; simp⟩
theorem Quo.less (h : Quo a g r) (m : Nat) : Quo a g fun i => r i ^^ (decide (m ≤ i) && g (i - m)) := by
  obtain ⟨q, hq, h⟩ := h
  refine ⟨fun i => q i ^^ decide (i = m), hq.add ⟨m + 1, fun i hi => decide_eq_false (by omega)⟩, fun i => ?_⟩
  rw [cv_add, cv_mono, h]
  show _ = (_ ^^ (r i ^^ (decide (m ≤ i) && g (i - m))))
  cases cv q g i <;> cases r i <;> cases (decide (m ≤ i) && g (i - m)) <;> rfl
theorem Quo.front (h : Quo a g r) (c : Bool) : Quo (front c a) g (front c r) := by
  obtain ⟨q, hq, h⟩ := h
  obtain ⟨N, hN⟩ := hq
  refine ⟨Go.Proofs.Ytgjedidpimncaaa.front false q, ⟨N + 1, fun i hi => ?_⟩, fun i => ?_⟩
  · cases i with
    | zero => omega
    | succ i => exact hN i (by omega)
  · rw [cv_front]
    cases i with
    | zero => simp [Go.Proofs.Ytgjedidpimncaaa.front]
    | succ i => simp [Go.Proofs.Ytgjedidpimncaaa.front, h]
theorem Quo.congr {a' r' : Nat → Bool} (h : Quo a g r) (ha : ∀ i, a i = a' i) (hr : ∀ i, r i = r' i) : Quo a' g r' := by
  obtain ⟨q, hq, h⟩ := h
  exact ⟨q, hq, fun i => by rw [← ha, h, hr]⟩
theorem Rem.uniq (hg : g n = true) (hn : ∀ i, n < i → g i = false) (h1 : Rem a g n r) (h2 : Rem a g n s) (i : Nat) : r i = s i := by
  obtain ⟨p, hp, e1⟩ := h1.quo
  obtain ⟨q, hq, e2⟩ := h2.quo
  have h : ∀ i, cv (fun k => p k ^^ q k) g i = (r i ^^ s i) := by
    intro i
    have := (e1 i).symm.trans (e2 i)
    rw [cv_add]
    revert this
    cases cv p g i <;> cases cv q g i <;> cases r i <;> cases s i <;> simp
  rcases (hp.add hq).top with h0 | ⟨d, hd, h0⟩
  · have := h i
    rw [cv_none h0] at this
    revert this
    cases r i <;> cases s i <;> simp
  · have := h (d + n)
    rw [cv_top h0 hn, hd, hg, h1.small _ (by omega), h2.small _ (by omega)] at this
    simp at this
theorem Rem.add (h1 : Rem a g n r) (h2 : Rem b g n s) : Rem (fun i => a i ^^ b i) g n (fun i => r i ^^ s i) :=
  ⟨h1.quo.add h2.quo, fun i hi => by show (r i ^^ s i) = false; rw [h1.small i hi, h2.small i hi]; rfl⟩
theorem Rem.self (h : ∀ i, n ≤ i → r i = false) : Rem r g n r := ⟨Quo.self r g, h⟩
theorem Rem.less (h : Rem a g n r) : Rem (fun i => a i ^^ r i) g n fun _ => false :=
  ⟨((h.add (Rem.self h.small)).quo).congr (fun _ => rfl) fun i => by simp, fun _ _ => rfl⟩
/-- a power of x is no multiple of a polynomial with the powers 0 and n, n > 0 -/
theorem Rem.power {m : Nat} (hg : g n = true) (hn : ∀ i, n < i → g i = false) (h0 : g 0 = true) (hp : 0 < n) (h : Rem (fun i => decide (i = m)) g n r) : ∃ i, r i = true := by
  by_cases hr : ∃ i, r i = true
  · exact hr
  · exfalso
    have hr : ∀ i, r i = false := fun i => by
      cases hb : r i with
      | false => rfl
      | true => exact absurd ⟨i, hb⟩ hr
    obtain ⟨q, hq, e⟩ := h.quo
    have e : ∀ i, decide (i = m) = cv q g i := fun i => by have := e i; simp only [hr, Bool.xor_false] at this; exact this
    rcases hq.top with hz | ⟨d, hd, ht⟩
    · have := e m
      rw [cv_none hz] at this
      simp at this
    · obtain ⟨s, hs, h1, h2⟩ := Ends.low hd
      have e1 := e (d + n)
      rw [cv_top ht hn, hd, hg] at e1
      have e2 := e s
      rw [cv_low h2, h1, h0] at e2
      simp at e1 e2
      omega
end

/-! ### lists of coefficients -/
def odd (x : UInt8) : Bool := x.toNat % 2 == 1
def b8 (b : Bool) : UInt8 := if b then 1 else 0
theorem odd_b8 (b : Bool) : odd (b8 b) = b := by cases b <;> rfl
theorem odd_xor (x y : UInt8) : odd (x ^^^ y) = (odd x ^^ odd y) := by
  have h : ∀ n : Nat, (n % 2 == 1) = n.testBit 0 := fun n => by rw [Nat.testBit_zero]; cases Nat.mod_two_eq_zero_or_one n with
    | inl h => rw [h]; rfl
    | inr h => rw [h]; rfl
  unfold odd
  rw [UInt8.toNat_xor, h, h, h, Nat.testBit_xor]
/-- the coefficient of x^i of a list -/
def co (l : List UInt8) (i : Nat) : Bool := match l[i]? with
  | some x => odd x
  | none => false
theorem co_some {l : List UInt8} {i : Nat} {x : UInt8} (h : l[i]? = some x) : co l i = odd x := by simp [co, h]
theorem co_out {l : List UInt8} {i : Nat} (h : l.length ≤ i) : co l i = false := by simp [co, h]
theorem co_ends (l : List UInt8) : Ends (co l) := ⟨l.length, fun _ h => co_out h⟩
theorem co_append (a b : List UInt8) (i : Nat) : co (a ++ b) i = if i < a.length then co a i else co b (i - a.length) := by
  unfold co
  split <;> rename_i h
  · by_cases hi : i < a.length
    · rw [if_pos hi, ← List.getElem?_append_left hi, h]
    · rw [if_neg hi, ← List.getElem?_append_right (by omega), h]
  · by_cases hi : i < a.length
    · rw [if_pos hi, ← List.getElem?_append_left hi, h]
    · rw [if_neg hi, ← List.getElem?_append_right (by omega), h]
/-- one more than the greatest index below n with a coefficient 1 -/
def top (f : Nat → Bool) : Nat → Nat
  | 0 => 0
  | n + 1 => if f n then n + 1 else top f n
theorem top_le (f : Nat → Bool) (n : Nat) : top f n ≤ n := by
  induction n with
  | zero => exact Nat.le_refl _
  | succ n ih => simp only [top]; split <;> omega
theorem top_above {f : Nat → Bool} {n i : Nat} (h : top f n ≤ i) (hi : i < n) : f i = false := by
  induction n with
  | zero => omega
  | succ n ih =>
    simp only [top] at h
    cases hb : f n with
    | true => rw [hb] at h; simp at h; omega
    | false =>
      rw [hb] at h
      simp at h
      by_cases e : i = n
      · rw [e, hb]
      · exact ih h (by omega)
theorem top_at {f : Nat → Bool} {n m : Nat} (h : top f n = m + 1) : f m = true := by
  induction n with
  | zero => simp [top] at h
  | succ n ih =>
    simp only [top] at h
    cases hb : f n with
    | true =>
      rw [hb] at h
      simp at h
      rw [← h, hb]
    | false =>
      rw [hb] at h
      simp at h
      exact ih h
theorem top_is {f : Nat → Bool} {n m : Nat} (hm : m ≤ n) (h : ∀ i, m ≤ i → i < n → f i = false) (h1 : ∀ k, m = k + 1 → f k = true) : top f n = m := by
  rcases Nat.lt_trichotomy (top f n) m with h2 | h2 | h2
  · have h3 := h1 (m - 1) (by omega)
    rw [top_above (f := f) (n := n) (i := m - 1) (by omega) (by omega)] at h3
    cases h3
  · exact h2
  · have h3 := top_at (f := f) (n := n) (m := top f n - 1) (by omega)
    have h4 := top_le f n
    rw [h (top f n - 1) (by omega) (Nat.lt_of_lt_of_le (by omega) h4)] at h3
    cases h3
/-- the length of the reduced list -/
def rl (l : List UInt8) : Nat := top (co l) l.length
theorem rl_le (l : List UInt8) : rl l ≤ l.length := top_le _ _
theorem rl_above {l : List UInt8} {i : Nat} (h : rl l ≤ i) : co l i = false := by
  rcases Nat.lt_or_ge i l.length with h1 | h1
  · exact top_above h h1
  · exact co_out h1
theorem rl_at {l : List UInt8} {m : Nat} (h : rl l = m + 1) : co l m = true := top_at h
/-- the list of m bits -/
def bits8 (f : Nat → Bool) (m : Nat) : List UInt8 := (List.range m).map fun i => b8 (f i)
theorem bits8_len (f : Nat → Bool) (m : Nat) : (bits8 f m).length = m := by simp [bits8]
theorem bits8_at (f : Nat → Bool) {m i : Nat} (h : i < m) : (bits8 f m)[i]? = some (b8 (f i)) := by simp [bits8, h]
theorem co_bits8 (f : Nat → Bool) (m i : Nat) : co (bits8 f m) i = (decide (i < m) && f i) := by
  by_cases h : i < m
  · rw [co_some (bits8_at f h), odd_b8]; simp [h]
  · rw [co_out (by rw [bits8_len]; omega)]; simp [h]
theorem bits8_congr {f g : Nat → Bool} {m : Nat} (h : ∀ i, i < m → f i = g i) : bits8 f m = bits8 g m := by
  unfold bits8
  refine List.map_congr_left fun i hi => ?_
  rw [h i (List.mem_range.1 hi)]
theorem bits8_zero (m : Nat) : bits8 (fun _ => false) m = List.replicate m 0 := by
  refine List.ext_getElem? fun i => ?_
  by_cases h : i < m
  · rw [bits8_at _ h]; simp [b8, h]
  · rw [List.getElem?_eq_none (by rw [bits8_len]; omega), List.getElem?_eq_none (by simp; omega)]
def upd (f : Nat → Bool) (k : Nat) (b : Bool) (i : Nat) : Bool := if i = k then b else f i
theorem bits8_set (f : Nat → Bool) (m k : Nat) (b : Bool) : (bits8 f m).set k (b8 b) = bits8 (upd f k b) m := by
  refine List.ext_getElem? fun i => ?_
  rw [List.getElem?_set]
  by_cases h : i < m
  · rw [bits8_at _ h, bits8_at _ h]
    by_cases e : k = i
    · subst e
      rw [if_pos rfl, if_pos (by rw [bits8_len]; exact h)]
      simp [upd]
    · rw [if_neg e]
      simp [upd, Ne.symm e]
  · rw [List.getElem?_eq_none (by rw [bits8_len]; omega), List.getElem?_eq_none (by rw [bits8_len]; omega)]
    by_cases e : k = i
    · rw [if_pos e, if_neg (by rw [bits8_len]; omega)]
    · rw [if_neg e]
/-- L is the reduced list of the polynomial f -/
structure Can (f : Nat → Bool) (L : List UInt8) : Prop where
  at_ : ∀ i, i < L.length → L[i]? = some (b8 (f i))
  out : ∀ i, L.length ≤ i → f i = false
  last : ∀ n, L.length = n + 1 → f n = true
theorem Can.co {f : Nat → Bool} {L : List UInt8} (h : Can f L) (i : Nat) : co L i = f i := by
  rcases Nat.lt_or_ge i L.length with h1 | h1
  · rw [co_some (h.at_ i h1), odd_b8]
  · rw [co_out h1, h.out i h1]
theorem Can.len {f g : Nat → Bool} {L M : List UInt8} (h : Can f L) (h' : Can g M) (e : ∀ i, f i = g i) : L.length = M.length := by
  rcases Nat.lt_trichotomy L.length M.length with h1 | h1 | h1
  · have := h'.last (M.length - 1) (by omega)
    rw [← e, h.out _ (by omega)] at this
    cases this
  · exact h1
  · have := h.last (L.length - 1) (by omega)
    rw [e, h'.out _ (by omega)] at this
    cases this
theorem Can.uniq {f g : Nat → Bool} {L M : List UInt8} (h : Can f L) (h' : Can g M) (e : ∀ i, f i = g i) : L = M := by
  have hl := h.len h' e
  refine List.ext_getElem? fun i => ?_
  rcases Nat.lt_or_ge i L.length with h1 | h1
  · rw [h.at_ i h1, h'.at_ i (by omega), e]
  · rw [List.getElem?_eq_none h1, List.getElem?_eq_none (by omega)]
theorem Can.congr {f g : Nat → Bool} {L : List UInt8} (h : Can f L) (e : ∀ i, f i = g i) : Can g L :=
  ⟨fun i hi => by rw [h.at_ i hi, e], fun i hi => by rw [← e, h.out i hi], fun n hn => by rw [← e, h.last n hn]⟩
theorem Can.rl {f : Nat → Bool} {L : List UInt8} (h : Can f L) : rl L = L.length :=
  top_is (Nat.le_refl _) (fun i h1 h2 => by omega) fun k hk => by rw [h.co, h.last k hk]
theorem Can.bits {f : Nat → Bool} {L : List UInt8} (h : Can f L) : L = bits8 f L.length := by
  refine List.ext_getElem? fun i => ?_
  rcases Nat.lt_or_ge i L.length with h1 | h1
  · rw [h.at_ i h1, bits8_at _ h1]
  · rw [List.getElem?_eq_none h1, List.getElem?_eq_none (by rw [bits8_len]; omega)]
theorem Can.nil {f : Nat → Bool} (h : ∀ i, f i = false) : Can f [] := ⟨fun i hi => by simp at hi, fun i _ => h i, fun n hn => by simp at hn⟩
theorem Can.zero {f : Nat → Bool} {L : List UInt8} (h : Can f L) (h0 : L.length = 0) (i : Nat) : f i = false := h.out i (by omega)
def red (l : List UInt8) : List UInt8 := bits8 (co l) (rl l)
theorem red_len (l : List UInt8) : (red l).length = rl l := bits8_len _ _
theorem red_can (l : List UInt8) : Can (co l) (red l) :=
  ⟨fun i hi => bits8_at _ (by rwa [red_len] at hi), fun i hi => rl_above (by rwa [red_len] at hi), fun n hn => rl_at (by rwa [red_len] at hn)⟩
theorem red_eq {l m : List UInt8} (h : ∀ i, co l i = co m i) : red l = red m := (red_can l).uniq (red_can m) h
theorem red_co (l : List UInt8) (i : Nat) : co (red l) i = co l i := (red_can l).co i
theorem Can.red {f : Nat → Bool} {L : List UInt8} (h : Can f L) : red L = L := (red_can L).uniq h h.co
/-- the powers whose coefficients are 1 -/
def pws (l : List UInt8) (k : Nat) : List Nat := (List.range k).filter (co l)
theorem pws_succ (l : List UInt8) (k : Nat) : pws l (k + 1) = pws l k ++ (if co l k then [k] else []) := by
  unfold pws
  rw [List.range_succ, List.filter_append]
  congr 1
  cases h : co l k <;> simp [h]
theorem pws_len (l : List UInt8) (k : Nat) : (pws l k).length ≤ k := by
  have := List.length_filter_le (co l) (List.range k)
  simpa [pws] using this
theorem pws_mem {l : List UInt8} {k j x : Nat} (h : (pws l k)[j]? = some x) : x < k ∧ co l x = true := by
  have := List.mem_of_getElem? h
  unfold pws at this
  rw [List.mem_filter, List.mem_range] at this
  exact this
/-- what adding powers, times x^n, makes of bits -/
def addP (f : Nat → Bool) (ps : List Nat) (n : Nat) : Nat → Bool := ps.foldl (fun f p => upd f (n + p) (!f (n + p))) f
theorem addP_snoc (f : Nat → Bool) (ps : List Nat) (n p : Nat) : addP f (ps ++ [p]) n = upd (addP f ps n) (n + p) (!addP f ps n (n + p)) := by simp [addP]
theorem upd_not (f : Nat → Bool) (k i : Nat) : upd f k (!f k) i = (f i ^^ decide (i = k)) := by
  unfold upd
  by_cases h : i = k
  · rw [if_pos h, h]; simp
  · rw [if_neg h]; simp [h]
theorem addP_take {ps : List Nat} {k p : Nat} (f : Nat → Bool) (n : Nat) (h : ps[k]? = some p) : addP f (ps.take (k + 1)) n = upd (addP f (ps.take k) n) (n + p) (!addP f (ps.take k) n (n + p)) := by
  rw [take_some h, addP_snoc]
theorem addP_pws (f : Nat → Bool) (l : List UInt8) (n k i : Nat) : addP f (pws l k) n i = (f i ^^ (decide (n ≤ i) && (decide (i - n < k) && co l (i - n)))) := by
  induction k with
  | zero => simp [pws, addP]
  | succ k ih =>
    rw [pws_succ]
    cases h : co l k with
    | false =>
      simp only [Bool.false_eq_true, if_false, List.append_nil]
      rw [ih]
      by_cases h1 : n ≤ i
      · by_cases h2 : i - n = k
        · rw [h2, h]; simp
        · have : decide (i - n < k + 1) = decide (i - n < k) := decide_eq_decide.2 (by omega)
          rw [this]
      · simp [h1]
    | true =>
      simp only [if_true]
      rw [addP_snoc, upd_not, ih]
      by_cases h1 : n ≤ i
      · by_cases h2 : i - n = k
        · have h3 : i = n + k := by omega
          rw [h2, h]
          simp [h3]
        · have : decide (i - n < k + 1) = decide (i - n < k) := decide_eq_decide.2 (by omega)
          have h3 : ¬ i = n + k := by omega
          rw [this]
          simp [h1, h3]
      · have h3 : ¬ i = n + k := by omega
        simp [h1, h3]
theorem addP_all (f : Nat → Bool) (l : List UInt8) (n i : Nat) : addP f (pws l l.length) n i = (f i ^^ (decide (n ≤ i) && co l (i - n))) := by
  rw [addP_pws]
  by_cases h : i - n < l.length
  · simp [h]
  · rw [co_out (by omega)]; simp
end Go.Proofs.Ytgjedidpimncaaa
