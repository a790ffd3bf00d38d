/- Layer 4, package poly: the remainder of a division, for whatever lists. -/
import Derived.Test.YtgjedidpimncaaaPolyE
namespace Go.Proofs.Ytgjedidpimncaaa
open Go.RowKit

theorem mod_zero (A A' : Option Addr) (c c' B : Nat) (a g : List UInt8) (w : World) (hg : Lies w B A' (g.map bv)) (hlg : g.length ≤ 10000) (h0 : rl g = 0) :
    Calls Try.prog 43 #[.slice A a.length c, .slice A' g.length c'] w fun e w' => e = .returned (.tuple #[.slice none 0 0, .bool false]) ∧ w = w' := by
  have hD := fun w' h' => degree_any A' c' B g w' h' (by omega)
  have hd : ((rl g : Nat) : Int) - 1 = -1 := by omega
  rw [hd] at hD
  clear hd
  go_enter Try.func43, Try.ntmps43
  go_wp2_with (go_at_call 40; refine (hD _ hg).mono ?_; rintro e w' ⟨rfl, rfl⟩)
  go_ret2
  exact ⟨rfl, rfl⟩

/-- what the division's loop knows of the rest: F, in m places, with nothing from t on -/
structure Rest (a g : Nat → Bool) (m t : Nat) (F : Nat → Bool) : Prop where
  quo : Quo a g F
  out : ∀ i, m ≤ i → F i = false
  gone : ∀ i, t ≤ i → F i = false
theorem Rest.skip {a g F : Nat → Bool} {m t : Nat} (h : Rest a g m (t + 1) F) (h0 : F t = false) : Rest a g m t F :=
  ⟨h.quo, h.out, fun i hi => by
    by_cases e : i = t
    · rw [e, h0]
    · exact h.gone i (by omega)⟩
theorem Rest.less {a F : Nat → Bool} {g : List UInt8} {m j d : Nat} (h : Rest a (co g) m (j + d + 1) F) (h1 : F (j + d) = true) (hd : rl g = d + 1) (hm : j + d < m) : Rest a (co g) m (j + d) (addP F (pws g g.length) j) := by
  have hq := h.quo.less j
  have hgd : co g d = true := rl_at hd
  have hga : ∀ i, d < i → co g i = false := fun i hi => rl_above (by omega)
  have he : ∀ i, (F i ^^ (decide (j ≤ i) && co g (i - j))) = addP F (pws g g.length) j i := fun i => by rw [addP_all]
  refine ⟨hq.congr (fun _ => rfl) he, fun i hi => ?_, fun i hi => ?_⟩
  · rw [← he, h.out i hi, hga _ (by omega)]; simp
  · rw [← he]
    by_cases e : i = j + d
    · rw [e, h1, Nat.add_sub_cancel_left, hgd]; simp
    · rw [h.gone i (by omega), hga _ (by omega)]; simp

theorem mod_any (A A' : Option Addr) (c c' d : Nat) (a g : List UInt8) (w : World) (ha : Lies w w.heap.size A (a.map bv)) (hg : Lies w w.heap.size A' (g.map bv)) (hla : a.length ≤ 10000) (hlg : g.length ≤ 10000)
    (hd : rl g = d + 1) :
    Calls Try.prog 43 #[.slice A a.length c, .slice A' g.length c'] w fun e w' => ∃ R A n c L, e = .returned (.tuple #[.slice A n c, .bool true]) ∧
      Rem (co a) (co g) d R ∧ Holds w' R A n c L ∧ Below w.heap.size w w' := by
  have hD := fun w' h' => degree_any A' c' w.heap.size g w' h' (by omega)
  have hdi : ((rl g : Nat) : Int) - 1 = (d : Int) := by omega
  rw [hdi] at hD
  clear hdi
  have hdl : d < 10000 := by have := rl_le g; omega
  go_enter Try.func43, Try.ntmps43
  go_wp2_with (go_at_call 40; refine (hD _ hg).mono ?_; rintro e w' ⟨rfl, rfl⟩)
  refine (reduce_any A c a w ha (by omega)).mono ?_
  rintro e w1 ⟨rfl, hrow1, hb1⟩
  have hg1 := (hg.below hb1).more hb1.size
  have HR : Hid (red a = bits8 (co a) (rl a)) := rfl
  have HO : Hid (∀ i, rl a ≤ i → co a i = false) := fun i hi => rl_above hi
  have hm := rl_le a
  generalize rl a = m at *
  rw [HR.out] at hrow1
  clear HR
  go_wp2_with fail
  refine (powers_any A' c' g w1 hg1 (by omega)).mono ?_
  rintro e w2 ⟨A2, c2, rfl, own2, b12⟩
  have hlt1 : w.heap.size < w1.heap.size := hrow1.lt
  have hrow2 : Row w2 w.heap.size (bits8 (co a) m) := Whole.below hrow1 b12 hlt1
  have hfar2 := Far.own own2 hlt1
  have hb2 : Below w.heap.size w w2 := hb1.trans (b12.mono hb1.size)
  have HN : Hid (∀ (j x : Nat), (pws g g.length)[j]? = some x → x < d + 1) := fun j x h => by
    rw [← hd]
    rcases Nat.lt_or_ge x (rl g) with h1 | h1
    · exact h1
    · have h2 := (pws_mem h).2
      rw [rl_above h1] at h2
      cases h2
  have HL : Hid (∀ (F : Nat → Bool) (j : Nat), Rest (co a) (co g) m (j + d + 1) F → F (j + d) = true → j + d < m → Rest (co a) (co g) m (j + d) (addP F (pws g g.length) j)) :=
    fun F j h h1 h2 => h.less h1 hd h2
  have hql := pws_len g g.length
  have H0 : Hid (Rest (co a) (co g) m m (co a)) := ⟨Quo.self _ _, HO.out, HO.out⟩
  have hDl := Lib.hid hd
  clear own2 hrow1 hg1 hb1 b12 hd hD HO
  generalize pws g g.length = qs at *
  go_wp2_with fail
  go_loopw [9] (fun v wr => ∃ (t : Int) (F : Nat → Bool), v = .int .i64 t ∧ t ≤ (m : Int) - 1 - d ∧ -20000 ≤ t ∧ Row wr w.heap.size (bits8 F m) ∧ Rest (co a) (co g) m (t + d + 1).toNat F ∧ w2.grownBy wr (some w.heap.size)) (fun v _ => (intOf v + 1).toNat)
  case atStart =>
    refine ⟨(m : Int) - 1 - d, co a, by go_num, Int.le_refl _, by omega, hrow2, ?_, World.grownBy.refl _ _⟩
    have e : ((m : Int) - 1 - d + d + 1).toNat = m := by omega
    rw [e]
    exact H0.out
  case round =>
    obtain ⟨t, F, rfl, ht1, ht2, hrk, hR, hgk⟩ := hrel
    by_cases hlt : 0 ≤ t
    · obtain ⟨j, rfl⟩ : ∃ j : Nat, t = (j : Int) := ⟨t.toNat, by omega⟩
      have hjm : j + d < m := by omega
      have e1 : ((j : Int) + d + 1).toNat = j + d + 1 := by omega
      have e2 : ((j : Int) - 1 + d + 1).toNat = j + d := by omega
      rw [e1] at hR
      have hc2 := hrk.byte (bits8_at F hjm)
      have hE := b8_eq_one (F (j + d))
      cases hF : F (j + d) with
      | true =>
        rw [hF] at hE hc2
        have HS := Lib.hid (HL.out F j hR hF hjm)
        have hC := addp_any w.heap.size m j c2 A2 qs F wr hrk (hfar2.grown hgk) (by omega) (fun i x h => by have := HN.out i x h; omega) (by omega)
        clear hrk hF hR e1
        have E2 := Lib.hid e2
        clear e2
        go_wp2_with fail
        refine hC.mono ?_
        rintro e w4 ⟨rfl, hr4, hg4⟩
        have hg5 := grown_trans hgk hg4
        clear hgk hg4
        go_wp2_with fail
        go_roundw
        case rel => exact ⟨(j : Int) - 1, _, by go_num, by omega, by omega, hr4, by rw [E2.out]; exact HS.out, hg5⟩
        case measure => simp [intOf]
      | false =>
        rw [hF] at hE hc2
        have HS := Lib.hid (hR.skip hF)
        have HK := Lib.hid hrk
        have E2 := Lib.hid e2
        clear hrk hF hR e1 e2
        go_wp2_with fail
        go_roundw
        case rel => exact ⟨(j : Int) - 1, F, by go_num, by omega, by omega, HK.out, by rw [E2.out]; exact HS.out, hgk⟩
        case measure => simp [intOf]
    · have hbw : Below w.heap.size w wr := hb2.grown hgk hb2.size (fun j e => by cases e; exact Nat.le_refl _)
      have hC := reduce_row w.heap.size m F wr hrk (by omega)
      have HQ : Hid (Rem (co a) (co g) d F) := ⟨hR.quo, fun i hi => hR.gone i (by omega)⟩
      have HF : Hid (∀ i, (decide (i < m) && F i) = F i) := fun i => by
        by_cases hi : i < m
        · simp [hi]
        · rw [hR.out i (by omega)]; simp
      clear hrk hR
      go_wp2_with fail
      refine hC.mono ?_
      rintro e w4 ⟨A4, n4, c4, L, rfl, h4, b4⟩
      go_wp2_with fail
      go_ret2
      exact ⟨F, A4, n4, c4, L, rfl, HQ.out, ⟨h4.len, h4.cap, h4.can.congr HF.out, h4.lies⟩, hbw.trans (b4.mono hbw.size)⟩
end Go.Proofs.Ytgjedidpimncaaa
