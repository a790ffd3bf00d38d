/- Layer 4, the law PolyLaws: the walk. -/
import Derived.Test.YtembggidhmdnfaaPolyU
namespace Go.Proofs.Ytembggidhmdnfaa
open Go.RowKit Go.ChangeShapes Go.WideShapes Go.ChangeAt

theorem mul_lh {A A' : Option Addr} {c n c' : Nat} {f : Nat → Bool} {a M : List UInt8} {w : World} (ha : Lies w w.heap.size A (a.map bv)) (h2 : Holds w f A' n c' M) (hla : a.length ≤ 10000) (hn : n ≤ 10000) :
    Calls Try.prog 14 #[.slice A a.length c, .slice A' n c'] w fun e w' => ∃ A n c L, e = .returned (.slice A n c) ∧ Holds w' (cv (co a) f) A n c L ∧ Below w.heap.size w w' := by
  have h := mul_any A A' c c' a M w ha h2.lies hla (by rw [h2.len]; exact hn)
  rw [h2.len, h2.co_eq] at h
  exact h
theorem add_lh {A A' : Option Addr} {c n c' : Nat} {f : Nat → Bool} {a M : List UInt8} {w : World} (ha : Lies w w.heap.size A (a.map bv)) (h2 : Holds w f A' n c' M) (hla : a.length ≤ 10000) (hn : n ≤ 10000) :
    Calls Try.prog 12 #[.slice A a.length c, .slice (some ⟨w.heap.size, 0, none⟩) 1 1] (w.alloc (.cells #[.slice A' n c'] 24)) fun e w' => ∃ A n c L, e = .returned (.slice A n c) ∧
      Holds w' (fun i => co a i ^^ f i) A n c L ∧ Below w.heap.size w w' := by
  have h := add_lit (c := c) (cp := c') ha h2.lies hla (by rw [h2.len]; exact hn) (by rw [h2.len]; exact h2.cap)
  rw [h2.len, h2.co_eq] at h
  exact h

/-- three slices that are still whole -/
structure Three (w : World) (A B C : Option Addr) (a b g : List UInt8) : Prop where
  la : Lies w w.heap.size A (a.map bv)
  lb : Lies w w.heap.size B (b.map bv)
  lg : Lies w w.heap.size C (g.map bv)
theorem Three.below {w w' : World} {A B C : Option Addr} {a b g : List UInt8} (h : Three w A B C a b g) (hb : Below w.heap.size w w') : Three w' A B C a b g :=
  ⟨(h.la.below hb).more hb.size, (h.lb.below hb).more hb.size, (h.lg.below hb).more hb.size⟩

theorem prod_out {a b : List UInt8} (ha : a.length ≤ 100) (hb : b.length ≤ 100) (i : Nat) (hi : 200 ≤ i) : cv (co a) (co b) i = false :=
  cv_above (m := a.length) (n := b.length) (fun _ h => co_out h) (fun _ h => co_out h) (by omega)
theorem sum_out {a b : List UInt8} (ha : a.length ≤ 100) (hb : b.length ≤ 100) (i : Nat) (hi : 100 ≤ i) : (co a i ^^ co b i) = false := by
  rw [co_out (l := a) (by omega), co_out (l := b) (by omega)]; rfl

set_option maxHeartbeats 4000000 in
theorem polylaws_any (A B C : Option Addr) (ca cb cg : Nat) (a b g : List UInt8) (w : World) (hF : Three w A B C a b g) (hbc : b.length ≤ cb) :
    Calls Try.prog 4 #[.slice A a.length ca, .slice B b.length cb, .slice C g.length cg] w fun e w' => e = .returned (.bool true) ∧ Below w.heap.size w w' := by
  by_cases hsm : a.length ≤ 100 ∧ b.length ≤ 100 ∧ g.length ≤ 100
  · obtain ⟨hla, hlb, hlg⟩ := hsm
    go_enter Try.func4, Try.ntmps4
    go_wp2_with fail
    refine (awake_any w).mono ?_
    rintro e w1 ⟨rfl, bel1⟩
    have F1 := hF.below bel1
    clear hF
    -- h * (p + q) and h * p + h * q
    go_wp2_with fail
    refine (add_lit (c := ca) (cp := cb) F1.la F1.lb (by omega) (by omega) hbc).mono ?_
    rintro e w2 ⟨A2, n2, c2, L2, rfl, h2, b12⟩
    have F2 := F1.below b12
    have bel2 := bel1.trans (b12.mono bel1.size)
    have hn2 := h2.small (sum_out hla hlb)
    clear F1 bel1 b12
    go_wp2_with fail
    refine (mul_lh (c := cg) F2.lg h2 (by omega) (by omega)).mono ?_
    rintro e w3 ⟨A3, n3, c3, L3, rfl, h3, b23⟩
    have F3 := F2.below b23
    have bel3 := bel2.trans (b23.mono bel2.size)
    have hn3 : n3 ≤ 1000 := h3.small fun i hi => cv_above (m := 100) (n := 100) (fun _ h => co_out (by omega)) (fun i h => sum_out hla hlb i h) (by omega)
    clear F2 bel2 b23 h2 hn2
    go_wp2_with fail
    refine (mul_any C A cg ca g a w3 F3.lg F3.la (by omega) (by omega)).mono ?_
    rintro e w4 ⟨A4, n4, c4, L4, rfl, h4, b34⟩
    have F4 := F3.below b34
    have bel4 := bel3.trans (b34.mono bel3.size)
    have h34 := h3.below b34
    clear F3 bel3 b34 h3
    go_wp2_with fail
    refine (mul_any C B cg cb g b w4 F4.lg F4.lb (by omega) (by omega)).mono ?_
    rintro e w5 ⟨A5, n5, c5, L5, rfl, h5, b45⟩
    have F5 := F4.below b45
    have bel5 := bel4.trans (b45.mono bel4.size)
    have h35 := h34.below b45
    have h45 := h4.below b45
    have hn4 := h45.small (prod_out hlg hla)
    have hn5 := h5.small (prod_out hlg hlb)
    clear F4 bel4 b45 h34 h4
    go_wp2_with fail
    refine (add_holds h45 h5 (by omega) (by omega)).mono ?_
    rintro e w6 ⟨A6, n6, c6, L6, rfl, h6, b56⟩
    have F6 := F5.below b56
    have bel6 := bel5.trans (b56.mono bel5.size)
    have h36 := h35.below b56
    clear F5 bel5 b56 h35 h45 h5 hn4 hn5
    go_wp2_with fail
    refine (same_holds h36 h6 (fun i => cv_add' (co g) (co a) (co b) i) (by omega)).mono ?_
    rintro e w7 ⟨rfl, b67⟩
    have F7 := F6.below b67
    have bel7 := bel6.trans (b67.mono bel6.size)
    clear F6 bel6 b67 h36 h6 hn3
    -- p * q and q * p
    go_wp2_with fail
    refine (mul_any A B ca cb a b w7 F7.la F7.lb (by omega) (by omega)).mono ?_
    rintro e w8 ⟨A8, n8, c8, L8, rfl, h8, b78⟩
    have F8 := F7.below b78
    have bel8 := bel7.trans (b78.mono bel7.size)
    clear F7 bel7 b78
    go_wp2_with fail
    refine (mul_any B A cb ca b a w8 F8.lb F8.la (by omega) (by omega)).mono ?_
    rintro e w9 ⟨A9, n9, c9, L9, rfl, h9, b89⟩
    have F9 := F8.below b89
    have bel9 := bel8.trans (b89.mono bel8.size)
    have h89 := h8.below b89
    have hn8 := h89.small (prod_out hla hlb)
    clear F8 bel8 b89 h8
    go_wp2_with fail
    refine (same_holds h89 h9 (fun i => cv_comm (co a) (co b) i) (by omega)).mono ?_
    rintro e w10 ⟨rfl, b910⟩
    have F10 := F9.below b910
    have bel10 := bel9.trans (b910.mono bel9.size)
    clear F9 bel9 b910 h89 h9 hn8
    -- x and y
    go_wp2_with fail
    refine (mod_all A C ca cg a g w10 F10.la F10.lg (by omega) (by omega)).mono ?_
    rintro e w11 ⟨X, okx, A11, n11, c11, L11, rfl, M11, h11, b1011⟩
    have F11 := F10.below b1011
    have bel11 := bel10.trans (b1011.mono bel10.size)
    clear F10 bel10 b1011
    go_wp2_with fail
    refine (mod_all B C cb cg b g w11 F11.lb F11.lg (by omega) (by omega)).mono ?_
    rintro e w12 ⟨Y, oky, A12, n12, c12, L12, rfl, M12, h12, b1112⟩
    have F12 := F11.below b1112
    have bel12 := bel11.trans (b1112.mono bel11.size)
    have hx12 := h11.below b1112
    clear F11 bel11 b1112 h11
    rcases M11 with ⟨rfl, hg0, hX⟩ | ⟨d, rfl, hd, hX⟩
    · have hx0 : n11 = 0 := by have := hx12.small (N := 0) fun i _ => hX i; omega
      subst hx0
      clear hX
      go_wp2_with fail
      refine (rreduce_any C cg g w12 F12.lg (by omega)).mono ?_
      rintro e w13 ⟨A13, n13, c13, L13, rfl, h13, b1213⟩
      have bel13 := bel12.trans (b1213.mono bel12.size)
      have hn13 : n13 = 0 := by have := h13.small (N := 0) fun i _ => rl_above (by omega); omega
      subst hn13
      clear h13 b1213 bel12
      go_wp2_with fail
      go_ret
      exact ⟨rfl, bel13⟩
    · obtain ⟨hy1, hY⟩ : oky = true ∧ Rem (co b) (co g) d Y := by
        rcases M12 with ⟨_, h0, _⟩ | ⟨d', h0, hd', hY⟩
        · omega
        · obtain rfl : d' = d := by omega
          exact ⟨h0, hY⟩
      subst hy1
      have hgd : co g d = true := rl_at hd
      have hgo : ∀ i, d < i → co g i = false := fun i hi => rl_above (by omega)
      have hd100 : d < 100 := by have := rl_le g; omega
      have hxn : n11 ≤ d := hx12.small hX.small
      have hyn : n12 ≤ d := h12.small hY.small
      have HZ : Hid (∀ f, Rem (fun i => co a i ^^ co b i) (co g) d f → ∀ i, f i = (X i ^^ Y i)) := fun f h => h.uniq hgd hgo (hX.add hY)
      have HW : Hid (∀ f, Rem (fun i => co a i ^^ X i) (co g) d f → ∀ i, f i = false) := fun f h => h.uniq hgd hgo hX.less
      have HM : Hid (∀ f, Rem (cv (co g) (co b)) (co g) d f → ∀ i, f i = false) := fun f h => h.uniq hgd hgo ⟨Quo.mul (co_ends b) (co g), fun _ _ => rfl⟩
      have HX0 : Hid (∀ i, 100 ≤ i → (co a i ^^ X i) = false) := fun i hi => by rw [co_out (l := a) (by omega), hX.small i (by omega)]; rfl
      have HZ0 : Hid (∀ f, Rem (fun i => co a i ^^ co b i) (co g) d f → ∀ i, 100 ≤ i → f i = false) := fun f h i hi => h.small i (by omega)
      clear hX hY M12
      -- z
      go_wp2_with fail
      refine (add_lit (c := ca) (cp := cb) F12.la F12.lb (by omega) (by omega) hbc).mono ?_
      rintro e w13 ⟨A13, n13, c13, L13, rfl, h13, b1213⟩
      have F13 := F12.below b1213
      have bel13 := bel12.trans (b1213.mono bel12.size)
      have hx13 := hx12.below b1213
      have hy13 := h12.below b1213
      have hn13 := h13.small (sum_out hla hlb)
      clear F12 bel12 b1213 hx12 h12
      go_wp2_with fail
      refine (mod_holds (c' := cg) h13 F13.lg (by omega) (by omega) hd).mono ?_
      rintro e w14 ⟨Z, A14, n14, c14, L14, rfl, hZ, h14, b1314⟩
      have F14 := F13.below b1314
      have bel14 := bel13.trans (b1314.mono bel13.size)
      have hx14 := hx13.below b1314
      have hy14 := hy13.below b1314
      have hn14 := h14.small (HZ0.out _ hZ)
      have HZe := Lib.hid (HZ.out _ hZ)
      clear F13 bel13 b1314 hx13 hy13 h13 hn13 hZ
      -- w
      go_wp2_with fail
      refine (add_lh (c := ca) F14.la hx14 (by omega) (by omega)).mono ?_
      rintro e w15 ⟨A15, n15, c15, L15, rfl, h15, b1415⟩
      have F15 := F14.below b1415
      have bel15 := bel14.trans (b1415.mono bel14.size)
      have hx15 := hx14.below b1415
      have hy15 := hy14.below b1415
      have hz15 := h14.below b1415
      have hn15 := h15.small HX0.out
      clear F14 bel14 b1415 hx14 hy14 h14
      go_wp2_with fail
      refine (mod_holds (c' := cg) h15 F15.lg (by omega) (by omega) hd).mono ?_
      rintro e w16 ⟨W, A16, n16, c16, L16, rfl, hW, h16, b1516⟩
      have F16 := F15.below b1516
      have bel16 := bel15.trans (b1516.mono bel15.size)
      have hx16 := hx15.below b1516
      have hy16 := hy15.below b1516
      have hz16 := hz15.below b1516
      have hn16 : n16 = 0 := by have := h16.small (N := 0) fun i _ => HW.out _ hW i; omega
      subst hn16
      clear F15 bel15 b1516 hx15 hy15 hz15 h15 hn15 hW h16
      -- m
      go_wp2_with fail
      refine (mul_any C B cg cb g b w16 F16.lg F16.lb (by omega) (by omega)).mono ?_
      rintro e w17 ⟨A17, n17, c17, L17, rfl, h17, b1617⟩
      have F17 := F16.below b1617
      have bel17 := bel16.trans (b1617.mono bel16.size)
      have hx17 := hx16.below b1617
      have hy17 := hy16.below b1617
      have hz17 := hz16.below b1617
      have hn17 := h17.small (prod_out hlg hlb)
      clear F16 bel16 b1617 hx16 hy16 hz16
      go_wp2_with fail
      refine (mod_holds (c' := cg) h17 F17.lg (by omega) (by omega) hd).mono ?_
      rintro e w18 ⟨M, A18, n18, c18, L18, rfl, hM, h18, b1718⟩
      have F18 := F17.below b1718
      have bel18 := bel17.trans (b1718.mono bel17.size)
      have hx18 := hx17.below b1718
      have hy18 := hy17.below b1718
      have hz18 := hz17.below b1718
      have hn18 : n18 = 0 := by have := h18.small (N := 0) fun i _ => HM.out _ hM i; omega
      subst hn18
      clear F17 bel17 b1718 hx17 hy17 hz17 h17 hn17 hM h18
      -- z and x + y
      go_wp2_with fail
      refine (add_holds hx18 hy18 (by omega) (by omega)).mono ?_
      rintro e w19 ⟨A19, n19, c19, L19, rfl, h19, b1819⟩
      have F19 := F18.below b1819
      have bel19 := bel18.trans (b1819.mono bel18.size)
      have hx19 := hx18.below b1819
      have hz19 := hz18.below b1819
      clear F18 bel18 b1819 hx18 hy18 hz18
      go_wp2_with fail
      refine (same_holds hz19 h19 HZe.out (by omega)).mono ?_
      rintro e w20 ⟨rfl, b1920⟩
      have F20 := F19.below b1920
      have bel20 := bel19.trans (b1920.mono bel19.size)
      have hx20 := hx19.below b1920
      clear F19 bel19 b1920 hx19 hz19 h19
      go_wp2_with fail
      refine (degree_holds hx20 (by omega)).mono ?_
      rintro e w21 ⟨rfl, rfl⟩
      go_wp2_with fail
      have hDg := degree_any C cg w20.heap.size g w20 F20.lg (by omega)
      rw [hd] at hDg
      refine hDg.mono ?_
      rintro e w21 ⟨rfl, rfl⟩
      have hlast : (n11 : Int) - 1 < (d : Int) := by omega
      clear hDg
      go_wp2_with fail
      go_ret
      exact ⟨rfl, bel20⟩
  · have hor : 100 < (a.length : Int) ∨ ((a.length : Int) ≤ 100 ∧ 100 < (b.length : Int)) ∨ ((a.length : Int) ≤ 100 ∧ (b.length : Int) ≤ 100 ∧ 100 < (g.length : Int)) := by omega
    rcases hor with h1 | ⟨h1, h2⟩ | ⟨h1, h2, h3⟩
    all_goals
      go_enter Try.func4, Try.ntmps4
      go_wp2_with fail
      refine (awake_any w).mono ?_
      rintro e w1 ⟨rfl, b1⟩
      go_wp2_with fail
      refine (awake_any w1).mono ?_
      rintro e w2 ⟨rfl, b2⟩
      go_wp2_with fail
      go_ret
      exact ⟨rfl, b1.trans (b2.mono b1.size)⟩

theorem law_PolyLaws {H : Type} {enc : TypeId × Value → H} {W : World} {base : Nat} {v0 v1 v2 : Value} {d0 d1 d2 : DataW H} {p0 p1 p2 : List MemPlace}
    (o0 : Value.okWide Try.prog W .any base 22 v0) (h0 : DataW.Trod enc Try.prog W 0 (fun _ => true) true 22 v0 d0 p0) (_s0 : Small Try.prog 22 d0)
    (o1 : Value.okWide Try.prog W .any base 22 v1) (h1 : DataW.Trod enc Try.prog W 0 (fun _ => true) true 22 v1 d1 p1) (_s1 : Small Try.prog 22 d1)
    (o2 : Value.okWide Try.prog W .any base 22 v2) (h2 : DataW.Trod enc Try.prog W 0 (fun _ => true) true 22 v2 d2 p2) (_s2 : Small Try.prog 22 d2) :
    Calls Try.prog 4 #[v0, v1, v2] W fun e w' => e = .returned (.bool true) ∧ Below W.heap.size W w' := by
  obtain ⟨A, n, c, rfl⟩ := okWide_slice Try.underlying22 o0
  obtain ⟨B, n', c', rfl⟩ := okWide_slice Try.underlying22 o1
  obtain ⟨C, n'', c'', rfl⟩ := okWide_slice Try.underlying22 o2
  obtain ⟨fuel, hf⟩ := h0
  obtain ⟨fuel', hf'⟩ := h1
  obtain ⟨fuel'', hf''⟩ := h2
  obtain ⟨a, rfl, hl, hc, hcm⟩ := open_bytes Try.underlying22 Try.underlying5 (by kernel_rfl) hf
  obtain ⟨b, rfl, hl', hc', hcm'⟩ := open_bytes Try.underlying22 Try.underlying5 (by kernel_rfl) hf'
  obtain ⟨g, rfl, hl'', hc'', hcm''⟩ := open_bytes Try.underlying22 Try.underlying5 (by kernel_rfl) hf''
  exact polylaws_any A B C c c' c'' a b g W ⟨hl, hl', hl''⟩ hc'
end Go.Proofs.Ytembggidhmdnfaa
