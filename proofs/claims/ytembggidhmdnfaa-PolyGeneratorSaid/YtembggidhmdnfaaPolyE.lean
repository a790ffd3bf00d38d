/- Layer 4, package poly: products and remainders, for whatever lists. -/
import Derived.Test.YtembggidhmdnfaaPolyD
namespace Go.Proofs.Ytembggidhmdnfaa
open Go.RowKit

/-- what is handed back is a reduced list of the polynomial f -/
structure Holds (w : World) (f : Nat → Bool) (A : Option Addr) (n c : Nat) (L : List UInt8) : Prop where
  len : L.length = n
  cap : n ≤ c
  can : Can f L
  lies : Lies w w.heap.size A (L.map bv)
theorem Holds.below {w w' : World} {f : Nat → Bool} {A : Option Addr} {n c : Nat} {L : List UInt8} (h : Holds w f A n c L) (hb : Below w.heap.size w w') : Holds w' f A n c L :=
  ⟨h.len, h.cap, h.can, (h.lies.below hb).more hb.size⟩
theorem Can.le {f : Nat → Bool} {L : List UInt8} (h : Can f L) {N : Nat} (hN : ∀ i, N ≤ i → f i = false) : L.length ≤ N := by
  rcases Nat.lt_or_ge N L.length with h1 | h1
  · have := h.last (L.length - 1) (by omega)
    rw [hN _ (by omega)] at this
    cases this
  · exact h1

theorem reduce_row (g m : Nat) (F : Nat → Bool) (w : World) (hrow : Row w g (bits8 F m)) (hm : m ≤ 100000) :
    Calls Try.prog 16 #[.slice (some ⟨g, 0, none⟩) m m] w fun e w' => ∃ A n c L, e = .returned (.slice A n c) ∧
      Holds w' (fun i => decide (i < m) && F i) A n c L ∧ Below w.heap.size w w' := by
  have h := reduce_any (some ⟨g, 0, none⟩) m (bits8 F m) w (hrow.lies hrow.lt) (by rw [bits8_len]; exact hm)
  rw [bits8_len] at h
  refine h.mono ?_
  rintro e w' ⟨rfl, h1, h2⟩
  exact ⟨_, _, _, red (bits8 F m), rfl, ⟨red_len _, Nat.le_refl _, (red_can _).congr fun i => co_bits8 F m i, h1.lies h1.lt⟩, h2⟩

/-! ### Mul -/
def ind (ps : List Nat) (j : Nat) : Bool := ps.foldl (fun r p => r ^^ decide (j = p)) false
theorem ind_snoc (ps : List Nat) (p j : Nat) : ind (ps ++ [p]) j = (ind ps j ^^ decide (j = p)) := by simp [ind]
theorem ind_pws (l : List UInt8) (k j : Nat) : ind (pws l k) j = (decide (j < k) && co l j) := by
  induction k with
  | zero => simp [ind, pws]
  | succ k ih =>
    rw [pws_succ]
    cases h : co l k with
    | false =>
      simp only [Bool.false_eq_true, if_false, List.append_nil]
      rw [ih]
      by_cases e : j = k
      · rw [e, h]; simp
      · rw [show decide (j < k + 1) = decide (j < k) from decide_eq_decide.2 (by omega)]
    | true =>
      simp only [if_true]
      rw [ind_snoc, ih]
      by_cases e : j = k
      · rw [e, h]; simp
      · rw [show decide (j < k + 1) = decide (j < k) from decide_eq_decide.2 (by omega), decide_eq_false e]; simp
theorem ind_all (l : List UInt8) (j : Nat) : ind (pws l l.length) j = co l j := by
  rw [ind_pws]
  by_cases h : j < l.length
  · simp [h]
  · rw [co_out (by omega)]; simp
theorem mul_step {ps : List Nat} {k n : Nat} (b : List UInt8) (h : ps[k]? = some n) (m : Nat) :
    bits8 (addP (cv (ind (ps.take k)) (co b)) (pws b b.length) n) m = bits8 (cv (ind (ps.take (k + 1))) (co b)) m := by
  refine bits8_congr fun i _ => ?_
  rw [addP_all, take_some h, cv_congr (f := ind (List.take k ps ++ [n])) (fun j => ind_snoc _ n j) (fun _ => rfl), cv_add, cv_mono]

theorem mul_any (A A' : Option Addr) (c c' : Nat) (a b : List UInt8) (w : World) (ha : Lies w w.heap.size A (a.map bv)) (hb : Lies w w.heap.size A' (b.map bv)) (hla : a.length ≤ 10000) (hlb : b.length ≤ 10000) :
    Calls Try.prog 14 #[.slice A a.length c, .slice A' b.length c'] w fun e w' => ∃ A n c L, e = .returned (.slice A n c) ∧
      Holds w' (cv (co a) (co b)) A n c L ∧ Below w.heap.size w w' := by
  obtain ⟨m, hm1, hm2⟩ : ∃ m, m ≤ a.length + b.length ∧ a.length + b.length ≤ m := ⟨_, Nat.le_refl _, Nat.le_refl _⟩
  go_enter Try.func14, Try.ntmps14
  go_wp2_with (at_make; refine wpList_make_zeros _ rfl (.tmp 13) (.tmp 13) 24 rfl Try.underlying24 _ m rfl rfl (by omega) (by omega) ?_; intro w1 hrow1 hb1)
  have ha1 := (ha.below hb1).more hb1.size
  have hbb1 := (hb.below hb1).more hb1.size
  refine (powers_any A' c' b w1 hbb1 (by omega)).mono ?_
  rintro e w2 ⟨A2, c2, rfl, own2, b12⟩
  have ha2 := (ha1.below b12).more b12.size
  go_wp2_with fail
  refine (powers_any A c a w2 ha2 (by omega)).mono ?_
  rintro e w3 ⟨A3, c3, rfl, own3, b23⟩
  have hlt1 : w.heap.size < w1.heap.size := hrow1.lt
  have hlt2 : w.heap.size < w2.heap.size := Nat.lt_of_lt_of_le hlt1 b12.size
  have hrow3 : Row w3 w.heap.size (bits8 (fun _ => false) m) := (Whole.below (Whole.below hrow1 b12 hlt1) b23 hlt2)
  have hfar2 := Far.own (own_below' own2 b23) hlt1
  have hfar3 := Far.own own3 hlt2
  have hb3 : Below w.heap.size w w3 := (hb1.trans (b12.mono hb1.size)).trans (b23.mono (Nat.le_trans hb1.size b12.size))
  have H0 : Hid (Row w3 w.heap.size (bits8 (cv (ind ((pws a a.length).take 0)) (co b)) m)) := by
    rw [Hid, bits8_congr (f := cv (ind ((pws a a.length).take 0)) (co b)) (g := fun _ => false) fun i _ => cv_none (fun k => rfl) _ _]
    exact hrow3
  clear own2 own3 hrow1 hrow3 ha1 hbb1 ha2 hb1 b12 b23
  have hpl := pws_len a a.length
  have hql := pws_len b b.length
  have HM : Hid (∀ (j x : Nat), (pws a a.length)[j]? = some x → x < a.length) := fun j x h => (pws_mem h).1
  have HN : Hid (∀ (j x : Nat), (pws b b.length)[j]? = some x → x < b.length) := fun j x h => (pws_mem h).1
  have HA : Hid (∀ j, ind (pws a a.length) j = co a j) := ind_all a
  have HT : Hid (∀ (k n : Nat), (pws a a.length)[k]? = some n → bits8 (addP (cv (ind ((pws a a.length).take k)) (co b)) (pws b b.length) n) m = bits8 (cv (ind ((pws a a.length).take (k + 1))) (co b)) m) :=
    fun k n h => mul_step b h m
  generalize pws a a.length = ps at *
  generalize pws b b.length = qs at *
  go_wp2_with fail
  go_loopw [20] (fun i wr => ∃ k : Nat, k ≤ ps.length ∧ i = .int .i64 k ∧ Row wr w.heap.size (bits8 (cv (ind (ps.take k)) (co b)) m) ∧ w3.grownBy wr (some w.heap.size)) (fun i _ => ps.length - (intOf i).toNat)
  case atStart => exact ⟨0, Nat.zero_le _, rfl, H0.out, World.grownBy.refl _ _⟩
  case round =>
    obtain ⟨k, hk, rfl, hrk, hgk⟩ := hrel
    by_cases hlt : k < ps.length
    · obtain ⟨ad, n, rfl, hx, hcx⟩ := (hfar3.grown hgk).int hlt
      have hnm := HM.out k n hx.out
      have HS := Lib.hid (HT.out k n hx.out)
      generalize cv (ind (ps.take k)) (co b) = f2 at *
      have hC := addp_any w.heap.size m n c2 A2 qs f2 wr hrk (hfar2.grown hgk) (by omega) (fun j x h => by have := HN.out j x h; omega) (by omega)
      rw [HS.out] at hC
      clear hrk HS
      generalize hr2 : bits8 (cv (ind (ps.take (k + 1))) (co b)) m = row2 at *
      have HR2 := Lib.hid hr2
      clear hr2
      go_wp2_with fail
      refine hC.mono ?_
      rintro e w4 ⟨rfl, hr4, hg4⟩
      have hg5 := grown_trans hgk hg4
      clear hgk hg4 hcx
      go_wp2_with fail
      go_roundw
      case rel => exact ⟨k + 1, by omega, by go_num, by rw [HR2.out]; exact hr4, hg5⟩
      case measure => simp [intOf]; omega
    · have hpe : ps.take k = ps := List.take_of_length_le (by omega)
      rw [hpe] at hrk
      have hbw : Below w.heap.size w wr := hb3.grown hgk hb3.size (fun j e => by cases e; exact Nat.le_refl _)
      have hC := reduce_row w.heap.size m _ wr hrk (by omega)
      have HF : Hid (∀ i, (decide (i < m) && cv (ind ps) (co b) i) = cv (co a) (co b) i) := fun i => by
        rw [cv_congr (f := ind ps) HA.out (fun _ => rfl)]
        by_cases hi : i < m
        · simp [hi]
        · rw [cv_above (m := a.length) (n := b.length) (fun _ h => co_out h) (fun _ h => co_out h) (by omega)]; simp
      clear hrk
      generalize cv (ind ps) (co b) = F at *
      go_wp2_with fail
      refine hC.mono ?_
      rintro e w4 ⟨A4, n4, c4, L, rfl, h4, b4⟩
      go_wp2_with fail
      go_ret
      exact ⟨A4, n4, c4, L, rfl, ⟨h4.len, h4.cap, h4.can.congr HF.out, h4.lies⟩, hbw.trans (b4.mono hbw.size)⟩
end Go.Proofs.Ytembggidhmdnfaa
