/- Layer 1: plain facts: the bytes of numbers lead back to the numbers, and the numbers of bytes to the bytes. -/
import Derived.Test.YtdnilbebdgohnaaWireE

namespace Go.Proofs.Ytdnilbebdgohnaa

theorem numOf_one (a : UInt8) : numOf [a] = a.toNat := by
  have := a.toNat_lt
  simp only [numOf, List.foldl_cons, List.foldl_nil, numStep]; omega
theorem numOf_pair (a b : UInt8) : numOf [a, b] = a.toNat * 256 + b.toNat := by
  have := a.toNat_lt
  have := b.toNat_lt
  simp only [numOf, List.foldl_cons, List.foldl_nil, numStep]; omega
theorem numOf_four (a b c d : UInt8) : numOf [a, b, c, d] = ((a.toNat * 256 + b.toNat) * 256 + c.toNat) * 256 + d.toNat := by
  have := a.toNat_lt
  have := b.toNat_lt
  have := c.toNat_lt
  have := d.toNat_lt
  simp only [numOf, List.foldl_cons, List.foldl_nil, numStep]; omega
theorem beByte_toNat (s : Nat) (x : UInt32) : (beByte s x).toNat = x.toNat / 2 ^ s % 256 := by
  unfold beByte
  rw [UInt8.toNat_ofNat']
/-- a number that is put and read again, modulo 256 ^ k -/
theorem numOf_be {k : Nat} (hk : k = 1 ∨ k = 2 ∨ k = 4) (x : UInt32) : numOf (be k x) = x.toNat % 256 ^ k := by
  have hx := x.toNat_lt
  rcases hk with rfl | rfl | rfl
  · have e : be 1 x = [beByte 0 x] := rfl
    rw [e, numOf_one, beByte_toNat]
    omega
  · have e : be 2 x = [beByte 8 x, beByte 0 x] := rfl
    rw [e, numOf_pair, beByte_toNat, beByte_toNat]
    omega
  · have e : be 4 x = [beByte 24 x, beByte 16 x, beByte 8 x, beByte 0 x] := rfl
    rw [e, numOf_four, beByte_toNat, beByte_toNat, beByte_toNat, beByte_toNat]
    omega
theorem nums_puts_at {k : Nat} : ∀ (l : List UInt32) (i : Nat) (x : UInt32), l[i]? = some x → ((puts k l).drop (i * k)).take k = be k x := by
  intro l
  induction l with
  | nil => intro i x h; simp at h
  | cons y l ih =>
    intro i x h
    have e : puts k (y :: l) = be k y ++ puts k l := by simp [puts]
    rw [e]
    match i, h with
    | 0, h =>
      simp only [List.getElem?_cons_zero, Option.some.injEq] at h
      subst h
      rw [Nat.zero_mul, List.drop_zero, List.take_append_of_le_length (by rw [be_len]; exact Nat.le_refl _), List.take_of_length_le (by rw [be_len]; exact Nat.le_refl _)]
    | i + 1, h =>
      rw [Nat.add_mul, Nat.one_mul, Nat.add_comm, ← List.drop_drop, List.drop_append_of_le_length (by rw [be_len]; exact Nat.le_refl _), show (be k y).drop k = [] from List.drop_eq_nil_of_le (by rw [be_len]; exact Nat.le_refl _), List.nil_append]
      exact ih i x (by simpa using h)
end Go.Proofs.Ytdnilbebdgohnaa

