/- Layer 6: plain facts: the frames of the bytes of a list are the list's, and the bytes of the frames of some bytes are those. -/
import Derived.Test.YtdnilbebdgohnaaGreatDoorTlvE
import Derived.Test.YtdnilbebdgohnaaGreatDoorTlvF


namespace Go.Proofs.YtdnilbebdgohnaaGreatDoor
open Go.RowKit

theorem numOf_be2 (x : UInt32) (h : x.toNat < 65536) : numOf (be 2 x) = x.toNat := by
  simp [be, List.range, List.range.loop, numOf, numStep, beByte]
  omega
theorem be2_len (x : UInt32) : (be 2 x).length = 2 := be_len 2 x
theorem headB_eq (t : UInt16) (n : Nat) : headB t n = be 2 (u32of t.toNat) ++ be 2 (u32of (4 + n)) := by simp [headB, puts]
theorem u16_u32 (t : UInt16) : u16of (u32of t.toNat).toNat = t := by
  have := t.toNat_lt
  rw [u32of_toNat (by omega)]
  exact UInt16.ofNat_toNat
theorem fa_mid (P R : List UInt8) (f : Fr) (hf : Fit f) : fa (P ++ frB f ++ R) P.length = some f := by
  unfold Fit at hf
  have ht := f.t.toNat_lt
  have e1 : ((P ++ frB f ++ R).drop P.length) = frB f ++ R := by rw [List.append_assoc, List.drop_left]
  have e2 : ((P ++ frB f ++ R).drop P.length).take 2 = be 2 (u32of f.t.toNat) := by
    rw [e1]
    unfold frB
    rw [headB_eq, List.append_assoc, List.append_assoc]
    exact List.take_left' (be2_len _)
  have e3 : ((P ++ frB f ++ R).drop (P.length + 2)).take 2 = be 2 (u32of (4 + f.v.length)) := by
    rw [← List.drop_drop, e1]
    unfold frB
    rw [headB_eq, List.append_assoc, List.append_assoc, List.drop_left' (be2_len _)]
    exact List.take_left' (be2_len _)
  have e4 : (P ++ frB f ++ R).drop (P.length + 4) = f.v ++ R := by
    rw [← List.drop_drop, e1]
    unfold frB
    rw [List.append_assoc]
    exact List.drop_left' (headB_len _ _)
  have hl : (P ++ frB f ++ R).length = P.length + (4 + f.v.length) + R.length := by
    rw [List.length_append, List.length_append, frB_len]
    rfl
  have n1 : numOf (be 2 (u32of f.t.toNat)) = (u32of f.t.toNat).toNat := numOf_be2 _ (by rw [u32of_toNat (by omega)]; omega)
  have n2 : numOf (be 2 (u32of (4 + f.v.length))) = 4 + f.v.length := by rw [numOf_be2 _ (by rw [u32of_toNat (by omega)]; omega), u32of_toNat (by omega)]
  unfold fa
  rw [e2, e3, e4, n1, n2, if_neg (by omega), if_neg (by omega), u16_u32]
  congr 2
  rw [show 4 + f.v.length - 4 = f.v.length by omega]
  exact List.take_left' rfl
theorem zeroB_rep (n : Nat) : zeroB (List.replicate n 0) = true := by
  unfold zeroB
  rw [List.all_eq_true]
  intro x hx
  rw [List.eq_of_mem_replicate hx]
  rfl
theorem nx_mid (Q R : List UInt8) (hR : R ≠ []) : nx (padB Q ++ R) Q.length = some (padB Q).length := by
  have h1 := padB_len Q
  have h2 : 0 < R.length := List.length_pos_iff.2 hR
  unfold nx
  rw [if_pos, h1]
  refine ⟨⟨by omega, ?_, ?_⟩, ?_⟩
  · rw [Int.toNat_natCast, List.length_append, h1]; omega
  · rw [Int.toNat_natCast]
    unfold padB
    rw [List.append_assoc, List.drop_left, List.take_left' (by simp)]
    exact zeroB_rep _
  · rw [List.length_append, h1]; omega
theorem kend_cons (x : Nat × Fr) {l : List (Nat × Fr)} (h : l ≠ []) : kend (x :: l) = kend l := by
  unfold kend
  rw [List.getLast?_cons_of_ne_nil h]
theorem frB_ne (f : Fr) : frB f ≠ [] := fun e => by have := congrArg List.length e; rw [frB_len] at this; unfold frL at this; simp at this
theorem piece_ne (n i : Nat) (f : Fr) : piece n i f ≠ [] := by
  unfold piece
  split
  · intro e
    have := congrArg List.length e
    rw [padB_len, frB_len] at this
    unfold up frL at this
    simp at this
  · exact frB_ne f
theorem rest_ne (fs : List Fr) (k : Nat) (h : k < fs.length) : ((pcs fs).drop k).flatten ≠ [] := by
  have h1 := pcs_at (List.getElem?_eq_getElem h)
  have h2 : k < (pcs fs).length := by rw [pcs_len]; exact h
  rw [List.drop_eq_getElem_cons h2, List.flatten_cons]
  intro e
  have h3 := (List.append_eq_nil_iff.1 e).1
  rw [List.getElem?_eq_getElem h2] at h1
  rw [Option.some.inj h1] at h3
  exact piece_ne _ _ _ h3
theorem jn_at (fs : List Fr) (k : Nat) (h : k < fs.length) : jn fs = padB (jn (fs.take k)) ++ ((pcs fs).drop k).flatten := by
  rw [← pcs_all]
  conv => lhs; rw [← List.take_append_drop k (pcs fs), List.flatten_append, pcs_flat fs k (by omega), if_pos h]
theorem yla_jn (fs : List Fr) (hf : ∀ f ∈ fs, Fit f) : ∀ m k, k + (m + 1) = fs.length →
    (yla (jn fs) (padB (jn (fs.take k))).length).map Prod.snd = fs.drop k ∧ yla (jn fs) (padB (jn (fs.take k))).length ≠ [] ∧ kend (yla (jn fs) (padB (jn (fs.take k))).length) = (jn fs).length := by
  intro m
  induction m with
  | zero =>
    intro k hk
    have hlt : k < fs.length := by omega
    have hg := List.getElem?_eq_getElem hlt
    have e1 : jn fs = padB (jn (fs.take k)) ++ frB fs[k] := by
      have := jn_take hg
      rwa [List.take_of_length_le (by omega)] at this
    have h1 : fa (jn fs) (padB (jn (fs.take k))).length = some fs[k] := by
      have := fa_mid (padB (jn (fs.take k))) [] fs[k] (hf _ (List.getElem_mem hlt))
      rwa [List.append_nil, ← e1] at this
    have h2 : (padB (jn (fs.take k))).length + frL fs[k] = (jn fs).length := by rw [e1, List.length_append, frB_len]
    have h3 : nx (jn fs) ((padB (jn (fs.take k))).length + frL fs[k]) = none := by rw [h2]; exact nx_end _
    rw [yla_last h1 h3]
    refine ⟨?_, by simp, by simpa [kend] using h2⟩
    rw [List.drop_eq_getElem_cons hlt, List.drop_of_length_le (by omega)]
    rfl
  | succ m ih =>
    intro k hk
    have hlt : k < fs.length := by omega
    have hlt2 : k + 1 < fs.length := by omega
    have hg := List.getElem?_eq_getElem hlt
    have e0 : padB (jn (fs.take (k + 1))) = padB (jn (fs.take k)) ++ padB (frB fs[k]) := by rw [jn_take hg, padB_app]
    have e1 : jn fs = padB (jn (fs.take k)) ++ frB fs[k] ++ (List.replicate (gap (frB fs[k]).length) 0 ++ ((pcs fs).drop (k + 1)).flatten) := by
      rw [jn_at fs (k + 1) hlt2, e0]
      simp only [padB, List.append_assoc]
    have h1 : fa (jn fs) (padB (jn (fs.take k))).length = some fs[k] := by
      rw [e1]
      exact fa_mid _ _ _ (hf _ (List.getElem_mem hlt))
    have h2 : (padB (jn (fs.take k))).length + frL fs[k] = (jn (fs.take (k + 1))).length := by rw [jn_take hg, List.length_append, frB_len]
    have h3 : nx (jn fs) ((padB (jn (fs.take k))).length + frL fs[k]) = some (padB (jn (fs.take (k + 1)))).length := by
      rw [h2, jn_at fs (k + 1) hlt2]
      exact nx_mid _ _ (rest_ne fs (k + 1) hlt2)
    obtain ⟨i1, i2, i3⟩ := ih (k + 1) (by omega)
    rw [yla_more h1 h3]
    refine ⟨?_, by simp, by rw [kend_cons _ i2]; exact i3⟩
    rw [List.map_cons, i1, List.drop_eq_getElem_cons hlt]
theorem spl_jn (fs : List Fr) (hf : ∀ f ∈ fs, Fit f) : spl (jn fs) = .ok fs := by
  rcases Nat.eq_zero_or_pos fs.length with h0 | h0
  · obtain rfl : fs = [] := List.eq_nil_of_length_eq_zero h0
    have h : yla ([] : List UInt8) 0 = [] := yla_none (by simp [fa])
    show spl [] = _
    unfold spl
    rw [h]
    rfl
  · obtain ⟨h1, _, h3⟩ := yla_jn fs hf (fs.length - 1) 0 (by omega)
    have e : (padB (jn (fs.take 0))).length = 0 := by rw [List.take_zero]; rfl
    rw [e] at h1 h3
    unfold spl
    rw [if_pos h3, h1, List.drop_zero]

/-! ### the other way: the bytes of the frames of some bytes -/
end Go.Proofs.YtdnilbebdgohnaaGreatDoor

