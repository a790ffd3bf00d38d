/- Layer 1: plain facts: the bytes of numbers lead back to the numbers, and the numbers of bytes to the bytes. -/
import Derived.Test.YtemeeeiglifpaaaDoorWireE

namespace Go.Proofs.YtemeeeiglifpaaaDoor

theorem numOf_one (a : UInt8) : numOf [a] = a.toNat := by
  have := a.toNat_lt
  simp only [numOf, List.foldl_cons, List.foldl_nil, numStep]; omega
theorem numOf_pair (a b : UInt8) : numOf [a, b] = a.toNat * 256 + b.toNat := by
  have := a.toNat_lt
  have := b.toNat_lt
  simp only [numOf, List.foldl_cons, List.foldl_nil, numStep]; omega
theorem numOf_four (a b c d : UInt8) : numOf [a, b, c, d] = ((a.toNat * 256 + b.toNat) * 256 + c.toNat) * 256 + d.toNat := by
  have := a.toNat_lt
  have := b.toNat_lt
  have := c.toNat_lt
  have := d.toNat_lt
  simp only [numOf, List.foldl_cons, List.foldl_nil, numStep]; omega
theorem beByte_toNat (s : Nat) (x : UInt32) : (beByte s x).toNat = x.toNat / 2 ^ s % 256 := by
  unfold beByte
  rw [UInt8.toNat_ofNat']
theorem u32_ofNat {n : Nat} (h : n < 4294967296) : (UInt32.ofNat n).toNat = n := by
  rw [UInt32.toNat_ofNat']
  exact Nat.mod_eq_of_lt h
theorem be_numOf {k : Nat} (hk : k = 1 ∨ k = 2 ∨ k = 4) {l : List UInt8} (hl : l.length = k) : be k (UInt32.ofNat (numOf l)) = l := by
  have hx := u32_ofNat (numOf_lt l)
  rcases hk with rfl | rfl | rfl
  · match l, hl with
    | [a], _ =>
      have ha := a.toNat_lt
      rw [numOf_one] at hx
      have e0 : beByte 0 (UInt32.ofNat (numOf [a])) = a := UInt8.toNat_inj.1 (by rw [beByte_toNat, numOf_one, hx]; omega)
      simp [be, List.range_succ, e0]
  · match l, hl with
    | [a, b], _ =>
      have ha := a.toNat_lt
      have hb := b.toNat_lt
      rw [numOf_pair] at hx
      have e0 : beByte 8 (UInt32.ofNat (numOf [a, b])) = a := UInt8.toNat_inj.1 (by rw [beByte_toNat, numOf_pair, hx]; omega)
      have e1 : beByte 0 (UInt32.ofNat (numOf [a, b])) = b := UInt8.toNat_inj.1 (by rw [beByte_toNat, numOf_pair, hx]; omega)
      simp [be, List.range_succ, e0, e1]
  · match l, hl with
    | [a, b, c, d], _ =>
      have ha := a.toNat_lt
      have hb := b.toNat_lt
      have hc := c.toNat_lt
      have hd := d.toNat_lt
      rw [numOf_four] at hx
      have e0 : beByte 24 (UInt32.ofNat (numOf [a, b, c, d])) = a := UInt8.toNat_inj.1 (by rw [beByte_toNat, numOf_four, hx]; omega)
      have e1 : beByte 16 (UInt32.ofNat (numOf [a, b, c, d])) = b := UInt8.toNat_inj.1 (by rw [beByte_toNat, numOf_four, hx]; omega)
      have e2 : beByte 8 (UInt32.ofNat (numOf [a, b, c, d])) = c := UInt8.toNat_inj.1 (by rw [beByte_toNat, numOf_four, hx]; omega)
      have e3 : beByte 0 (UInt32.ofNat (numOf [a, b, c, d])) = d := UInt8.toNat_inj.1 (by rw [beByte_toNat, numOf_four, hx]; omega)
      simp [be, List.range_succ, e0, e1, e2, e3]
theorem puts_nums {k : Nat} (hk : k = 1 ∨ k = 2 ∨ k = 4) (m : Nat) : ∀ b : List UInt8, b.length = m * k → puts k (nums k b) = b := by
  have hk1 : 1 ≤ k := by omega
  induction m with
  | zero =>
    intro b hb
    have : b = [] := List.eq_nil_of_length_eq_zero (by simpa using hb)
    subst this
    simp [nums, puts]
  | succ m ih =>
    intro b hb
    have hlen : b.length / k = m + 1 := by rw [hb]; exact Nat.mul_div_cancel _ (by omega)
    have hb' : (b.drop k).length = m * k := by rw [List.length_drop, hb, Nat.add_mul]; omega
    have hlen' : (b.drop k).length / k = m := by rw [hb']; exact Nat.mul_div_cancel _ (by omega)
    have h1 : nums k b = UInt32.ofNat (numOf (b.take k)) :: nums k (b.drop k) := by
      unfold nums
      rw [hlen, hlen', List.range_succ_eq_map, List.map_cons, List.map_map]
      congr 1
      · simp [numAt]
      · refine List.map_congr_left fun j _ => ?_
        simp only [Function.comp, numAt, List.drop_drop]
        congr 4
        rw [Nat.succ_eq_add_one, Nat.add_mul]; omega
    rw [h1]
    have h2 := be_numOf hk (l := b.take k) (by rw [List.length_take, hb, Nat.add_mul]; omega)
    have h3 := ih (b.drop k) hb'
    unfold puts at h3 ⊢
    rw [List.flatMap_cons, h2, h3, List.take_append_drop]
theorem puts_nums' {k : Nat} (hk : k = 1 ∨ k = 2 ∨ k = 4) {b : List UInt8} (hm : b.length % k = 0) : puts k (nums k b) = b :=
  puts_nums hk (b.length / k) b (by rw [Nat.mul_comm]; exact (Nat.mul_div_cancel' (Nat.dvd_of_mod_eq_zero hm)).symm)
/-- a number that is put and read again, modulo 256 ^ k -/
theorem numOf_be {k : Nat} (hk : k = 1 ∨ k = 2 ∨ k = 4) (x : UInt32) : numOf (be k x) = x.toNat % 256 ^ k := by
  have hx := x.toNat_lt
  rcases hk with rfl | rfl | rfl
  · have e : be 1 x = [beByte 0 x] := rfl
    rw [e, numOf_one, beByte_toNat]
    omega
  · have e : be 2 x = [beByte 8 x, beByte 0 x] := rfl
    rw [e, numOf_pair, beByte_toNat, beByte_toNat]
    omega
  · have e : be 4 x = [beByte 24 x, beByte 16 x, beByte 8 x, beByte 0 x] := rfl
    rw [e, numOf_four, beByte_toNat, beByte_toNat, beByte_toNat, beByte_toNat]
    omega
theorem nums_puts_at {k : Nat} : ∀ (l : List UInt32) (i : Nat) (x : UInt32), l[i]? = some x → ((puts k l).drop (i * k)).take k = be k x := by
  intro l
  induction l with
  | nil => intro i x h; simp at h
  | cons y l ih =>
    intro i x h
    have e : puts k (y :: l) = be k y ++ puts k l := by simp [puts]
    rw [e]
    match i, h with
    | 0, h =>
      simp only [List.getElem?_cons_zero, Option.some.injEq] at h
      subst h
      rw [Nat.zero_mul, List.drop_zero, List.take_append_of_le_length (by rw [be_len]; exact Nat.le_refl _), List.take_of_length_le (by rw [be_len]; exact Nat.le_refl _)]
    | i + 1, h =>
      rw [Nat.add_mul, Nat.one_mul, Nat.add_comm, ← List.drop_drop, List.drop_append_of_le_length (by rw [be_len]; exact Nat.le_refl _), show (be k y).drop k = [] from List.drop_eq_nil_of_le (by rw [be_len]; exact Nat.le_refl _), List.nil_append]
      exact ih i x (by simpa using h)
theorem numAt_puts {k : Nat} (hk : k = 1 ∨ k = 2 ∨ k = 4) {l : List UInt32} {i : Nat} {x : UInt32} (h : l[i]? = some x) : (numAt k (puts k l) i).toNat = x.toNat % 256 ^ k := by
  rw [numAt_toNat, nums_puts_at l i x h, numOf_be hk]
end Go.Proofs.YtemeeeiglifpaaaDoor

