/- Layer 4, the law PolyMatchesReference: the walk. -/
import Derived.Test.YtembggidhmdnfaaPolyS
import Derived.Test.YtembggidhmdnfaaOpen
namespace Go.Proofs.Ytembggidhmdnfaa
open Go.RowKit Go.ChangeShapes Go.WideShapes Go.ChangeAt

/-- what a division leaves: the polynomial 0 and false, or the remainder and true -/
def Modr (a g : List UInt8) (f : Nat → Bool) (ok : Bool) : Prop := (ok = false ∧ rl g = 0 ∧ ∀ i, f i = false) ∨ ∃ d, ok = true ∧ rl g = d + 1 ∧ Rem (co a) (co g) d f
theorem Modr.same {a g : List UInt8} {f f' : Nat → Bool} {ok ok' : Bool} (h : Modr a g f ok) (h' : Modr a g f' ok') : ok = ok' ∧ ∀ i, f i = f' i := by
  rcases h with ⟨rfl, h0, hf⟩ | ⟨d, rfl, h0, hf⟩
  · rcases h' with ⟨rfl, h0', hf'⟩ | ⟨d', rfl, h0', hf'⟩
    · exact ⟨rfl, fun i => by rw [hf, hf']⟩
    · omega
  · rcases h' with ⟨rfl, h0', hf'⟩ | ⟨d', rfl, h0', hf'⟩
    · omega
    · obtain rfl : d' = d := by omega
      exact ⟨rfl, hf.uniq (rl_at h0) (fun i hi => rl_above (by omega)) hf'⟩
theorem Modr.out {a g : List UInt8} {f : Nat → Bool} {ok : Bool} (h : Modr a g f ok) (i : Nat) (hi : g.length ≤ i) : f i = false := by
  rcases h with ⟨_, _, hf⟩ | ⟨d, _, h0, hf⟩
  · exact hf i
  · have := rl_le g
    exact hf.small i (by omega)
theorem mod_all (A A' : Option Addr) (c c' : Nat) (a g : List UInt8) (w : World) (ha : Lies w w.heap.size A (a.map bv)) (hg : Lies w w.heap.size A' (g.map bv)) (hla : a.length ≤ 10000) (hlg : g.length ≤ 10000) :
    Calls Try.prog 9 #[.slice A a.length c, .slice A' g.length c'] w fun e w' => ∃ R ok A n c L, e = .returned (.tuple #[.slice A n c, .bool ok]) ∧
      Modr a g R ok ∧ Holds w' R A n c L ∧ Below w.heap.size w w' := by
  rcases Nat.eq_zero_or_pos (rl g) with h0 | h0
  · refine (mod_zero A A' c c' _ a g w hg hlg h0).mono ?_
    rintro e w' ⟨rfl, rfl⟩
    exact ⟨_, _, _, _, _, [], rfl, .inl ⟨rfl, h0, fun _ => rfl⟩, holds_nil w fun _ => rfl, Below.refl _ _⟩
  · obtain ⟨d, hd⟩ : ∃ d, rl g = d + 1 := ⟨rl g - 1, by omega⟩
    refine (mod_any A A' c c' d a g w ha hg hla hlg hd).mono ?_
    rintro e w' ⟨R, A', n', c', L, rfl, h1, h2, h3⟩
    exact ⟨R, _, _, _, _, L, rfl, .inr ⟨d, rfl, hd, h1⟩, h2, h3⟩
theorem rmod_all (A A' : Option Addr) (c c' : Nat) (a g : List UInt8) (w : World) (ha : Lies w w.heap.size A (a.map bv)) (hg : Lies w w.heap.size A' (g.map bv)) (hla : a.length ≤ 10000) (hlg : g.length ≤ 10000) :
    Calls Try.prog 10 #[.slice A a.length c, .slice A' g.length c'] w fun e w' => ∃ R ok A n c L, e = .returned (.tuple #[.slice A n c, .bool ok]) ∧
      Modr a g R ok ∧ Holds w' R A n c L ∧ Below w.heap.size w w' := by
  rcases Nat.eq_zero_or_pos (rl g) with h0 | h0
  · refine (rmod_zero A A' c c' a g w hg hlg h0).mono ?_
    rintro e w' ⟨rfl, h1⟩
    exact ⟨_, _, _, _, _, [], rfl, .inl ⟨rfl, h0, fun _ => rfl⟩, holds_nil w' fun _ => rfl, h1⟩
  · obtain ⟨d, hd⟩ : ∃ d, rl g = d + 1 := ⟨rl g - 1, by omega⟩
    refine (rmod_any A A' c c' d a g w ha hg hla hlg hd).mono ?_
    rintro e w' ⟨R, A', n', c', L, rfl, h1, h2, h3⟩
    exact ⟨R, _, _, _, _, L, rfl, .inr ⟨d, rfl, hd, h1⟩, h2, h3⟩
theorem reduce_all (A : Option Addr) (c : Nat) (l : List UInt8) (w : World) (h : Lies w w.heap.size A (l.map bv)) (hn : l.length ≤ 10000) :
    Calls Try.prog 16 #[.slice A l.length c] w fun e w' => ∃ A n c L, e = .returned (.slice A n c) ∧ Holds w' (co l) A n c L ∧ Below w.heap.size w w' := by
  refine (reduce_any A c l w h (by omega)).mono ?_
  rintro e w' ⟨rfl, h1, h2⟩
  exact ⟨_, _, _, red l, rfl, h1.holds (red_can l) (red_len l), h2⟩
theorem Holds.small {w : World} {f : Nat → Bool} {A : Option Addr} {n c : Nat} {L : List UInt8} (h : Holds w f A n c L) {N : Nat} (hN : ∀ i, N ≤ i → f i = false) : n ≤ N := by
  rw [← h.len]; exact h.can.le hN

/-- four slices that are still whole -/
structure Four (w : World) (A B C D : Option Addr) (a b : List UInt8) : Prop where
  la : Lies w w.heap.size A (a.map bv)
  lb : Lies w w.heap.size B (b.map bv)
  lp : Lies w w.heap.size C (a.map bv)
  lq : Lies w w.heap.size D (b.map bv)
theorem Four.below {w w' : World} {A B C D : Option Addr} {a b : List UInt8} (h : Four w A B C D a b) (hb : Below w.heap.size w w') : Four w' A B C D a b :=
  ⟨(h.la.below hb).more hb.size, (h.lb.below hb).more hb.size, (h.lp.below hb).more hb.size, (h.lq.below hb).more hb.size⟩
theorem lsame_self (A A' : Option Addr) (c c' : Nat) (a : List UInt8) (w : World) (ha : Lies w w.heap.size A (a.map bv)) (hb : Lies w w.heap.size A' (a.map bv)) (hn : a.length ≤ 10000) :
    Calls Try.prog 11 #[.slice A a.length c, .slice A' a.length c'] w fun e w' => e = .returned (.bool true) ∧ Below w.heap.size w w' := by
  have h := lsame_any A A' c c' w.heap.size a a w ha hb (by omega)
  rw [decide_eq_true rfl] at h
  refine h.mono ?_
  rintro e w' ⟨rfl, q, h3⟩
  exact ⟨rfl, below_drew h3 (Nat.le_refl _)⟩

set_option maxHeartbeats 2000000 in
theorem polyref_any (A B : Option Addr) (c c' : Nat) (a b : List UInt8) (w : World) (ha : Lies w w.heap.size A (a.map bv)) (hb : Lies w w.heap.size B (b.map bv)) :
    Calls Try.prog 3 #[.slice A a.length c, .slice B b.length c'] w fun e w' => e = .returned (.bool true) ∧ Below w.heap.size w w' := by
  by_cases hsm : a.length ≤ 200 ∧ b.length ≤ 200
  · obtain ⟨hla, hlb⟩ := hsm
    go_enter Try.func3, Try.ntmps3
    go_wp2_with fail
    refine (awake_any w).mono ?_
    rintro e w1 ⟨rfl, b1⟩
    have ha1 := (ha.below b1).more b1.size
    have hb1 := (hb.below b1).more b1.size
    have he := own_empty w1 w1.heap.size (Nat.le_refl _)
    have hbe : Below w1.heap.size w1 (w1.alloc (.cells #[] 5)) := (Below.refl _ w1).alloc (Nat.le_refl _) _
    have ha2 := ha1.below hbe
    have hb2 := hb1.below hbe
    have hs2 := hbe.size
    have ho1 := one_bytes a
    have ho2 := one_bytes b
    go_upto_region 4 with (at_builtin; refine wpList_append_lies2 _ rfl (.tmp 24) (.tmp 25) 24 22 rfl w1.heap.size 5 5 _ 1 Try.underlying24 Try.underlying22 u8info rfl _ 0 [] rfl he _ A a.length c _ rfl (by simp) ha2 ho1 (by omega) (by unfold maxLen; omega) hs2 ?_; intro A3 c3 w3 hown3 hgrow3 _)
    have hb13 : Below w1.heap.size w1 w3 := hbe.grown hgrow3 hs2 (fun j e => (he.lt j e).1)
    have hp3 := Lies.own hown3
    rw [List.nil_append] at hp3
    have hpc3 := (own_cap hown3).2.1
    rw [Nat.zero_add] at hpc3
    have ha3 := (ha1.below hb13).more hb13.size
    have hb3 := (hb1.below hb13).more hb13.size
    have bel3 := b1.trans (hb13.mono b1.size)
    clear hgrow3 hown3 he hbe ha2 hb2 hs2 ha1 hb1 b1 hb13
    have he := own_empty w3 w3.heap.size (Nat.le_refl _)
    have hbe : Below w3.heap.size w3 (w3.alloc (.cells #[] 5)) := (Below.refl _ w3).alloc (Nat.le_refl _) _
    have hb4 := hb3.below hbe
    have hs4 := hbe.size
    go_upto_region 5 with (at_builtin; refine wpList_append_lies2 _ rfl (.tmp 27) (.tmp 28) 24 22 rfl w3.heap.size 5 5 _ 1 Try.underlying24 Try.underlying22 u8info rfl _ 0 [] rfl he _ B b.length c' _ rfl (by simp) hb4 ho2 (by omega) (by unfold maxLen; omega) hs4 ?_; intro A5 c5 w5 hown5 hgrow5 _)
    have hb35 : Below w3.heap.size w3 w5 := hbe.grown hgrow5 hs4 (fun j e => (he.lt j e).1)
    have hq5 := Lies.own hown5
    rw [List.nil_append] at hq5
    have hqc5 := (own_cap hown5).2.1
    rw [Nat.zero_add] at hqc5
    have F5 : Four w5 A B A3 A5 a b := ⟨(ha3.below hb35).more hb35.size, (hb3.below hb35).more hb35.size, (hp3.below hb35).more hb35.size, hq5⟩
    have bel5 := bel3.trans (hb35.mono bel3.size)
    clear hgrow5 hown5 he hbe hb4 hs4 ha3 hb3 hp3 hq5 bel3 hb35 ho1 ho2
    go_wp2_with fail
    refine (mod_all A3 A5 c3 c5 a b w5 F5.lp F5.lq (by omega) (by omega)).mono ?_
    rintro e w6 ⟨R6, ok6, A6, n6, c6, L6, rfl, M6, h6, b56⟩
    have F6 := F5.below b56
    have bel6 := bel5.trans (b56.mono bel5.size)
    clear F5 bel5 b56
    go_wp2_with fail
    refine (rmod_all A B c c' a b w6 F6.la F6.lb (by omega) (by omega)).mono ?_
    rintro e w7 ⟨R7, ok7, A7, n7, c7, L7, rfl, M7, h7, b67⟩
    have F7 := F6.below b67
    have h67 := h6.below b67
    have bel7 := bel6.trans (b67.mono bel6.size)
    clear F6 bel6 b67 h6
    obtain ⟨rfl, e67⟩ := M6.same M7
    have hn6 := h67.small M6.out
    go_wp2_with fail
    refine (same_holds h67 h7 e67 (by omega)).mono ?_
    rintro e w8 ⟨rfl, b78⟩
    have F8 := F7.below b78
    have bel8 := bel7.trans (b78.mono bel7.size)
    clear F7 bel7 b78 h7 h67 e67 M6 M7 hn6
    go_wp2_with fail
    refine (add_lit (cp := c5) F8.lp F8.lq (by omega) (by omega) hqc5).mono ?_
    rintro e w9 ⟨A9, n9, c9, L9, rfl, h9, b89⟩
    have F9 := F8.below b89
    have bel9 := bel8.trans (b89.mono bel8.size)
    clear F8 bel8 b89
    go_wp2_with fail
    refine (radd_any A B c c' a b w9 F9.la F9.lb (by omega) (by omega)).mono ?_
    rintro e w10 ⟨A10, n10, c10, L10, rfl, h10, b910⟩
    have F10 := F9.below b910
    have h910 := h9.below b910
    have hn10 : n9 ≤ 400 := h910.small (N := 400) fun i hi => by rw [co_out (l := a) (by omega), co_out (l := b) (by omega)]; rfl
    have bel10 := bel9.trans (b910.mono bel9.size)
    clear F9 bel9 b910 h9
    go_wp2_with fail
    refine (same_holds h910 h10 (fun _ => rfl) (by omega)).mono ?_
    rintro e w11 ⟨rfl, b1011⟩
    have F11 := F10.below b1011
    have bel11 := bel10.trans (b1011.mono bel10.size)
    clear F10 bel10 b1011 h910 h10 hn10
    go_wp2_with fail
    refine (mul_any A3 A5 c3 c5 a b w11 F11.lp F11.lq (by omega) (by omega)).mono ?_
    rintro e w12 ⟨A12, n12, c12, L12, rfl, h12, b1112⟩
    have F12 := F11.below b1112
    have bel12 := bel11.trans (b1112.mono bel11.size)
    clear F11 bel11 b1112
    go_wp2_with fail
    refine (rmul_any A B c c' a b w12 F12.la F12.lb (by omega) (by omega)).mono ?_
    rintro e w13 ⟨A13, n13, c13, L13, rfl, h13, b1213⟩
    have F13 := F12.below b1213
    have h1213 := h12.below b1213
    have hn13 : n12 ≤ 400 := h1213.small (N := 400) fun i hi => cv_above (m := a.length) (n := b.length) (fun _ h => co_out h) (fun _ h => co_out h) (by omega)
    have bel13 := bel12.trans (b1213.mono bel12.size)
    clear F12 bel12 b1213 h12
    go_wp2_with fail
    refine (same_holds h1213 h13 (fun _ => rfl) (by omega)).mono ?_
    rintro e w14 ⟨rfl, b1314⟩
    have F14 := F13.below b1314
    have bel14 := bel13.trans (b1314.mono bel13.size)
    clear F13 bel13 b1314 h1213 h13 hn13
    go_wp2_with fail
    refine (reduce_all A3 c3 a w14 F14.lp (by omega)).mono ?_
    rintro e w15 ⟨A15, n15, c15, L15, rfl, h15, b1415⟩
    have F15 := F14.below b1415
    have bel15 := bel14.trans (b1415.mono bel14.size)
    clear F14 bel14 b1415
    go_wp2_with fail
    refine (rreduce_any A c a w15 F15.la (by omega)).mono ?_
    rintro e w16 ⟨A16, n16, c16, L16, rfl, h16, b1516⟩
    have F16 := F15.below b1516
    have h1516 := h15.below b1516
    have hn16 : n15 ≤ 400 := h1516.small (N := 400) fun i hi => co_out (by omega)
    have bel16 := bel15.trans (b1516.mono bel15.size)
    clear F15 bel15 b1516 h15
    go_wp2_with fail
    refine (same_holds h1516 h16 (fun _ => rfl) (by omega)).mono ?_
    rintro e w17 ⟨rfl, b1617⟩
    have F17 := F16.below b1617
    have bel17 := bel16.trans (b1617.mono bel16.size)
    clear F16 bel16 b1617 h1516 h16 hn16
    go_wp2_with fail
    refine (degree_any A3 c3 _ a w17 F17.lp (by omega)).mono ?_
    rintro e w18 ⟨rfl, rfl⟩
    go_wp2_with fail
    refine (rreduce_any A c a w17 F17.la (by omega)).mono ?_
    rintro e w18 ⟨A18, n18, c18, L18, rfl, h18, b1718⟩
    have F18 := F17.below b1718
    have bel18 := bel17.trans (b1718.mono bel17.size)
    have hrl : rl a = n18 := by rw [← red_len a, ← h18.len]; exact (red_can a).len h18.can fun _ => rfl
    have hn18 : n18 ≤ 400 := h18.small (N := 400) fun i hi => co_out (by omega)
    clear F17 bel17 b1718 h18
    rw [hrl]
    go_wp2_with fail
    refine (lsame_self A3 A c3 c a w18 F18.lp F18.la (by omega)).mono ?_
    rintro e w19 ⟨rfl, b1819⟩
    have F19 := F18.below b1819
    have bel19 := bel18.trans (b1819.mono bel18.size)
    clear F18 bel18 b1819
    go_wp2_with fail
    refine (lsame_self A5 B c5 c' b w19 F19.lq F19.lb (by omega)).mono ?_
    rintro e w20 ⟨rfl, b1920⟩
    have bel20 := bel19.trans (b1920.mono bel19.size)
    clear F19 bel19 b1920
    go_wp2_with fail
    go_ret
    exact ⟨rfl, bel20⟩
  · have hor : 200 < (a.length : Int) ∨ ((a.length : Int) ≤ 200 ∧ 200 < (b.length : Int)) := by omega
    rcases hor with h1 | ⟨h1, h2⟩
    all_goals
      go_enter Try.func3, Try.ntmps3
      go_wp2_with fail
      refine (awake_any w).mono ?_
      rintro e w1 ⟨rfl, b1⟩
      go_wp2_with fail
      refine (awake_any w1).mono ?_
      rintro e w2 ⟨rfl, b2⟩
      go_wp2_with fail
      go_ret
      exact ⟨rfl, b1.trans (b2.mono b1.size)⟩

theorem law_PolyMatchesReference {H : Type} {enc : TypeId × Value → H} {W : World} {base : Nat} {v0 v1 : Value} {d0 d1 : DataW H} {p0 p1 : List MemPlace}
    (o0 : Value.okWide Try.prog W .any base 22 v0) (h0 : DataW.Trod enc Try.prog W 0 (fun _ => true) true 22 v0 d0 p0) (_s0 : Small Try.prog 22 d0)
    (o1 : Value.okWide Try.prog W .any base 22 v1) (h1 : DataW.Trod enc Try.prog W 0 (fun _ => true) true 22 v1 d1 p1) (_s1 : Small Try.prog 22 d1) :
    Calls Try.prog 3 #[v0, v1] W fun e w' => e = .returned (.bool true) ∧ Below W.heap.size W w' := by
  obtain ⟨A, n, c, rfl⟩ := okWide_slice Try.underlying22 o0
  obtain ⟨B, n', c', rfl⟩ := okWide_slice Try.underlying22 o1
  obtain ⟨fuel, hf⟩ := h0
  obtain ⟨fuel', hf'⟩ := h1
  obtain ⟨a, rfl, hl, hc, hcm⟩ := open_bytes Try.underlying22 Try.underlying5 (by kernel_rfl) hf
  obtain ⟨b, rfl, hl', hc', hcm'⟩ := open_bytes Try.underlying22 Try.underlying5 (by kernel_rfl) hf'
  exact polyref_any A B c c' a b W hl hl'
end Go.Proofs.Ytembggidhmdnfaa
