/- Layer 4, the law PolyBytes: the walk. -/
import Derived.Test.YtembggidhmdnfaaPolyW
namespace Go.Proofs.Ytembggidhmdnfaa
open Go.RowKit Go.ChangeShapes Go.WideShapes Go.ChangeAt

theorem ofB_append (b m : List UInt8) (i : Nat) : ofB (b ++ m) i = (shl (ofB b) (8 * m.length) i ^^ ofB m i) := by
  have hl : (b ++ m).length = b.length + m.length := List.length_append
  unfold shl
  by_cases h : i < 8 * m.length
  · rw [decide_eq_false (show ¬ 8 * m.length ≤ i by omega)]
    unfold ofB
    rw [hl, decide_eq_true (show i < 8 * (b.length + m.length) by omega), decide_eq_true h, List.getElem?_append_right (by omega),
      show b.length + m.length - 1 - i / 8 - b.length = m.length - 1 - i / 8 by omega]
    simp
  · rw [decide_eq_true (show 8 * m.length ≤ i by omega), ofB_out (b := m) (by omega)]
    by_cases h2 : i < 8 * (b.length + m.length)
    · unfold ofB
      rw [hl, decide_eq_true h2, decide_eq_true (show i - 8 * m.length < 8 * b.length by omega), List.getElem?_append_left (by omega),
        show b.length + m.length - 1 - i / 8 = b.length - 1 - (i - 8 * m.length) / 8 by omega, show (i - 8 * m.length) % 8 = i % 8 by omega]
      simp
    · rw [ofB_out (by omega), ofB_out (b := b) (by omega)]; rfl
theorem word_big_holds {f : Nat → Bool} {A : Option Addr} {n c : Nat} {L : List UInt8} {w : World} (h : Holds w f A n c L) (hn : 32 < n) (hn2 : n ≤ 10000) :
    Calls Try.prog 23 #[.slice A n c] w fun e w' => e = .returned (.tuple #[.int .u32 0, .bool false]) ∧ w = w' := by
  have h0 := word_big A c w.heap.size L w h.lies (by rw [h.len]; exact hn2) (by rw [h.can.rl, h.len]; exact hn)
  rw [h.len] at h0
  exact h0
theorem rword_holds {f : Nat → Bool} {A : Option Addr} {n c : Nat} {L : List UInt8} {w : World} (h : Holds w f A n c L) :
    Calls Try.prog 25 #[.slice A n c] w fun e w' => e = .returned (.int .u32 (wd f 32 : Nat)) ∧ w = w' := by
  have h0 := rword_any A c w.heap.size L w h.lies
  rw [h.len, h.co_eq] at h0
  exact h0
theorem shift_holds {f : Nat → Bool} {A : Option Addr} {n c : Nat} {L : List UInt8} {w : World} (h : Holds w f A n c L) (k : Nat) (hn : n ≤ 10000) (hk : k ≤ 10000) :
    Calls Try.prog 19 #[.slice A n c, .int .i64 (k : Int)] w fun e w' => ∃ A n' c' L, e = .returned (.slice A n' c') ∧ Holds w' (shl f k) A n' c' L ∧ Below w.heap.size w w' := by
  have h0 := shift_all A c L k w h.lies (by rw [h.len]; exact hn) hk
  rw [h.len, h.co_eq] at h0
  exact h0
structure Two (w : World) (A B : Option Addr) (a b : List UInt8) : Prop where
  la : Lies w w.heap.size A (a.map bv)
  lb : Lies w w.heap.size B (b.map bv)
theorem Two.below {w w' : World} {A B : Option Addr} {a b : List UInt8} (h : Two w A B a b) (hb : Below w.heap.size w w') : Two w' A B a b :=
  ⟨(h.la.below hb).more hb.size, (h.lb.below hb).more hb.size⟩

set_option maxHeartbeats 4000000 in
theorem polybytes_any (A B : Option Addr) (c c' : Nat) (b m : List UInt8) (w : World) (hF : Two w A B b m) :
    Calls Try.prog 6 #[.slice A b.length c, .slice B m.length c'] w fun e w' => e = .returned (.bool true) ∧ Below w.heap.size w w' := by
  by_cases hsm : b.length ≤ 100 ∧ m.length ≤ 100
  · obtain ⟨hlb, hlm⟩ := hsm
    have HO : Hid (∀ i, 800 ≤ i → ofB b i = false) := fun i hi => ofB_out (by omega)
    have HOm : Hid (∀ i, 800 ≤ i → ofB m i = false) := fun i hi => ofB_out (by omega)
    have HA : Hid (∀ i, ofB (b ++ m) i = (shl (ofB b) (8 * m.length) i ^^ ofB m i)) := ofB_append b m
    have HAo : Hid (∀ i, 1600 ≤ i → ofB (b ++ m) i = false) := fun i hi => ofB_out (by rw [List.length_append]; omega)
    have HAl : Hid ((b ++ m).length = b.length + m.length) := List.length_append
    have HAm : Hid (b.map bv ++ m.map bv = (b ++ m).map bv) := by rw [Hid, List.map_append]
    have HSo : Hid (∀ i, 1600 ≤ i → shl (ofB b) (8 * m.length) i = false) := fun i hi => by unfold shl; rw [ofB_out (by omega), Bool.and_false]
    have ho1 := one_bytes b
    have ho2 := one_bytes m
    go_enter Try.func6, Try.ntmps6
    go_wp2_with fail
    refine (awake_any w).mono ?_
    rintro e w1 ⟨rfl, bel1⟩
    have F1 := hF.below bel1
    clear hF
    go_wp2_with fail
    refine (of_any A c b w1 F1.la (by omega)).mono ?_
    rintro e w2 ⟨A2, n2, c2, L2, rfl, h2, b12⟩
    have F2 := F1.below b12
    have bel2 := bel1.trans (b12.mono bel1.size)
    have hn2 := h2.small HO.out
    clear F1 bel1 b12
    have hW : ∃ (v : Nat) (ok : Bool), Calls Try.prog 23 #[.slice A2 n2 c2] w2 (fun e w' => e = .returned (.tuple #[.int .u32 (v : Int), .bool ok]) ∧ w2 = w') ∧
        ((ok = true ∧ n2 ≤ 32 ∧ Hid (v = wd (ofB b) 32)) ∨ (ok = false ∧ 32 < n2 ∧ Hid (v = 0))) := by
      by_cases hn : n2 ≤ 32
      · exact ⟨_, _, word_holds h2 hn, .inl ⟨rfl, hn, rfl⟩⟩
      · exact ⟨0, _, word_big_holds h2 (by omega) (by omega), .inr ⟨rfl, by omega, rfl⟩⟩
    obtain ⟨v, ok, hW, hcase⟩ := hW
    go_wp2_with fail
    refine hW.mono ?_
    rintro e w3 ⟨rfl, rfl⟩
    go_wp2_with fail
    refine (rof_any A c b w2 F2.la (by omega)).mono ?_
    rintro e w3 ⟨A3, n3, c3, L3, rfl, h3, b23⟩
    have F3 := F2.below b23
    have bel3 := bel2.trans (b23.mono bel2.size)
    have h23 := h2.below b23
    have hnn : n3 = n2 := by rw [← h3.len, ← h2.len]; exact h3.can.len h2.can fun _ => rfl
    subst hnn
    clear F2 bel2 b23 h2 hW
    go_wp2_with fail
    refine (rof_any A c b w3 F3.la (by omega)).mono ?_
    rintro e w4 ⟨A4, n4, c4, L4, rfl, h4, b34⟩
    have F4 := F3.below b34
    have bel4 := bel3.trans (b34.mono bel3.size)
    have h24 := h23.below b34
    clear F3 bel3 b34 h23 h3
    go_wp2_with fail
    refine (same_holds h24 h4 (fun _ => rfl) (by omega)).mono ?_
    rintro e w5 ⟨rfl, b45⟩
    have F5 := F4.below b45
    have bel5 := bel4.trans (b45.mono bel4.size)
    have h25 := h24.below b45
    clear F4 bel4 b45 h24 h4
    rcases hcase with ⟨rfl, hn, hv⟩ | ⟨rfl, hn, hv⟩
    · have hn3 : (n3 : Int) ≤ 32 := by omega
      go_wp2_with fail
      refine (rof_any A c b w5 F5.la (by omega)).mono ?_
      rintro e w6 ⟨A6, n6, c6, L6, rfl, h6, b56⟩
      have F6 := F5.below b56
      have bel6 := bel5.trans (b56.mono bel5.size)
      have h26 := h25.below b56
      clear F5 bel5 b56 h25
      have hRW := rword_holds h6
      rw [← hv.out] at hRW
      go_wp2_with fail
      refine hRW.mono ?_
      rintro e w7 ⟨rfl, rfl⟩
      clear hRW h6 hv hn
      generalize w6 = w9 at *
      have F9 := F6
      have bel9 := bel6
      have h29 := h26
      clear F6 bel6 h26
      have he := own_empty w9 w9.heap.size (Nat.le_refl _)
      have hbe : Below w9.heap.size w9 (w9.alloc (.cells #[] 5)) := (Below.refl _ w9).alloc (Nat.le_refl _) _
      have hla := F9.la.below hbe
      have hs9 := hbe.size
      go_upto_region 9 with (first
        | (at_builtin; refine wpList_append_lies _ rfl (.tmp 62) (.tmp 63) 22 rfl w9.heap.size 5 _ 1 Try.underlying22 u8info rfl _ 0 [] rfl he _ A b.length c _ rfl (by simp) hla ho1 (by omega) (by unfold maxLen; omega) hs9 ?_; intro A10 c10 w10 hown10' hgrow10 _; have b910 : Below w9.heap.size w9 w10 := hbe.grown hgrow10 hs9 (fun j e => (he.lt j e).1); have hlm10 := F9.lb.below b910; have hs10 := b910.size; have hown10 : w10.ownsRow w9.heap.size 5 1 (.slice A10 b.length c10) b.length (b.map bv) := (by simpa using hown10'); clear hown10' hgrow10)
        | (at_builtin; refine wpList_append_lies _ rfl (.tmp 64) (.tmp 65) 22 rfl w9.heap.size 5 _ 1 Try.underlying22 u8info rfl _ _ _ rfl hown10 _ B m.length c' _ rfl (by simp) hlm10 ho2 (by omega) (by unfold maxLen; omega) hs10 ?_; intro A11 c11 w11 hown11 hgrow11 _))
      have b911 : Below w9.heap.size w9 w11 := b910.grown hgrow11 hs10 (fun j e => (hown10.lt j e).1)
      have hl11 := Lies.own hown11
      rw [HAm.out] at hl11
      have F11 := F9.below b911
      have bel11 := bel9.trans (b911.mono bel9.size)
      have h211 := h29.below b911
      have hAll := of_any A11 c11 (b ++ m) w11 hl11 (by rw [HAl.out]; omega)
      rw [HAl.out] at hAll
      clear hl11 hown11 hgrow11 hown10 b910 b911 hs10 hlm10 he hbe hla hs9 F9 bel9 h29
      go_wp2_with fail
      refine hAll.mono ?_
      rintro e w12 ⟨A12, n12, c12, L12, rfl, h12, b1112⟩
      have F12 := F11.below b1112
      have bel12 := bel11.trans (b1112.mono bel11.size)
      have h212 := h211.below b1112
      have hn12 := h12.small HAo.out
      clear F11 bel11 b1112 h211 hAll
      have hSh := shift_holds h212 (8 * m.length) (by omega) (by omega)
      have h8 : ((8 * m.length : Nat) : Int) = 8 * (m.length : Int) := by omega
      rw [h8] at hSh
      clear h8
      go_wp2_with fail
      refine hSh.mono ?_
      rintro e w13 ⟨A13, n13, c13, L13, rfl, h13, b1213⟩
      have F13 := F12.below b1213
      have bel13 := bel12.trans (b1213.mono bel12.size)
      have h1213 := h12.below b1213
      have hn13 := h13.small HSo.out
      clear F12 bel12 b1213 h212 hSh h12
      go_wp2_with fail
      refine (of_any B c' m w13 F13.lb (by omega)).mono ?_
      rintro e w14 ⟨A14, n14, c14, L14, rfl, h14, b1314⟩
      have bel14 := bel13.trans (b1314.mono bel13.size)
      have h1214 := h1213.below b1314
      have h1314 := h13.below b1314
      have hn14 := h14.small HOm.out
      clear F13 bel13 b1314 h1213 h13
      go_wp2_with fail
      refine (add_holds h1314 h14 (by omega) (by omega)).mono ?_
      rintro e w15 ⟨A15, n15, c15, L15, rfl, h15, b1415⟩
      have bel15 := bel14.trans (b1415.mono bel14.size)
      have h1215 := h1214.below b1415
      clear bel14 b1415 h1214 h1314 h14 hn13 hn14
      go_wp2_with fail
      refine (same_holds h1215 h15 HA.out (by omega)).mono ?_
      rintro e w16 ⟨rfl, b1516⟩
      have bel16 := bel15.trans (b1516.mono bel15.size)
      clear bel15 b1516 h1215 h15
      go_wp2_with fail
      go_ret
      exact ⟨rfl, bel16⟩
    · have hn3 : 32 < (n3 : Int) := by omega
      have hv0 : v = 0 := hv.out
      subst hv0
      generalize w5 = w9 at *
      have F9 := F5
      have bel9 := bel5
      have h29 := h25
      clear F5 bel5 h25 hv hn
      have he := own_empty w9 w9.heap.size (Nat.le_refl _)
      have hbe : Below w9.heap.size w9 (w9.alloc (.cells #[] 5)) := (Below.refl _ w9).alloc (Nat.le_refl _) _
      have hla := F9.la.below hbe
      have hs9 := hbe.size
      go_upto_region 9 with (first
        | (at_builtin; refine wpList_append_lies _ rfl (.tmp 62) (.tmp 63) 22 rfl w9.heap.size 5 _ 1 Try.underlying22 u8info rfl _ 0 [] rfl he _ A b.length c _ rfl (by simp) hla ho1 (by omega) (by unfold maxLen; omega) hs9 ?_; intro A10 c10 w10 hown10' hgrow10 _; have b910 : Below w9.heap.size w9 w10 := hbe.grown hgrow10 hs9 (fun j e => (he.lt j e).1); have hlm10 := F9.lb.below b910; have hs10 := b910.size; have hown10 : w10.ownsRow w9.heap.size 5 1 (.slice A10 b.length c10) b.length (b.map bv) := (by simpa using hown10'); clear hown10' hgrow10)
        | (at_builtin; refine wpList_append_lies _ rfl (.tmp 64) (.tmp 65) 22 rfl w9.heap.size 5 _ 1 Try.underlying22 u8info rfl _ _ _ rfl hown10 _ B m.length c' _ rfl (by simp) hlm10 ho2 (by omega) (by unfold maxLen; omega) hs10 ?_; intro A11 c11 w11 hown11 hgrow11 _))
      have b911 : Below w9.heap.size w9 w11 := b910.grown hgrow11 hs10 (fun j e => (hown10.lt j e).1)
      have hl11 := Lies.own hown11
      rw [HAm.out] at hl11
      have F11 := F9.below b911
      have bel11 := bel9.trans (b911.mono bel9.size)
      have h211 := h29.below b911
      have hAll := of_any A11 c11 (b ++ m) w11 hl11 (by rw [HAl.out]; omega)
      rw [HAl.out] at hAll
      clear hl11 hown11 hgrow11 hown10 b910 b911 hs10 hlm10 he hbe hla hs9 F9 bel9 h29
      go_wp2_with fail
      refine hAll.mono ?_
      rintro e w12 ⟨A12, n12, c12, L12, rfl, h12, b1112⟩
      have F12 := F11.below b1112
      have bel12 := bel11.trans (b1112.mono bel11.size)
      have h212 := h211.below b1112
      have hn12 := h12.small HAo.out
      clear F11 bel11 b1112 h211 hAll
      have hSh := shift_holds h212 (8 * m.length) (by omega) (by omega)
      have h8 : ((8 * m.length : Nat) : Int) = 8 * (m.length : Int) := by omega
      rw [h8] at hSh
      clear h8
      go_wp2_with fail
      refine hSh.mono ?_
      rintro e w13 ⟨A13, n13, c13, L13, rfl, h13, b1213⟩
      have F13 := F12.below b1213
      have bel13 := bel12.trans (b1213.mono bel12.size)
      have h1213 := h12.below b1213
      have hn13 := h13.small HSo.out
      clear F12 bel12 b1213 h212 hSh h12
      go_wp2_with fail
      refine (of_any B c' m w13 F13.lb (by omega)).mono ?_
      rintro e w14 ⟨A14, n14, c14, L14, rfl, h14, b1314⟩
      have bel14 := bel13.trans (b1314.mono bel13.size)
      have h1214 := h1213.below b1314
      have h1314 := h13.below b1314
      have hn14 := h14.small HOm.out
      clear F13 bel13 b1314 h1213 h13
      go_wp2_with fail
      refine (add_holds h1314 h14 (by omega) (by omega)).mono ?_
      rintro e w15 ⟨A15, n15, c15, L15, rfl, h15, b1415⟩
      have bel15 := bel14.trans (b1415.mono bel14.size)
      have h1215 := h1214.below b1415
      clear bel14 b1415 h1214 h1314 h14 hn13 hn14
      go_wp2_with fail
      refine (same_holds h1215 h15 HA.out (by omega)).mono ?_
      rintro e w16 ⟨rfl, b1516⟩
      have bel16 := bel15.trans (b1516.mono bel15.size)
      clear bel15 b1516 h1215 h15
      go_wp2_with fail
      go_ret
      exact ⟨rfl, bel16⟩

  · have hor : 100 < (b.length : Int) ∨ ((b.length : Int) ≤ 100 ∧ 100 < (m.length : Int)) := by omega
    rcases hor with h1 | ⟨h1, h2⟩
    all_goals
      go_enter Try.func6, Try.ntmps6
      go_wp2_with fail
      refine (awake_any w).mono ?_
      rintro e w1 ⟨rfl, b1⟩
      go_wp2_with fail
      refine (awake_any w1).mono ?_
      rintro e w2 ⟨rfl, b2⟩
      go_wp2_with fail
      go_ret
      exact ⟨rfl, b1.trans (b2.mono b1.size)⟩

theorem law_PolyBytes {H : Type} {enc : TypeId × Value → H} {W : World} {base : Nat} {v0 v1 : Value} {d0 d1 : DataW H} {p0 p1 : List MemPlace}
    (o0 : Value.okWide Try.prog W .any base 22 v0) (h0 : DataW.Trod enc Try.prog W 0 (fun _ => true) true 22 v0 d0 p0) (_s0 : Small Try.prog 22 d0)
    (o1 : Value.okWide Try.prog W .any base 22 v1) (h1 : DataW.Trod enc Try.prog W 0 (fun _ => true) true 22 v1 d1 p1) (_s1 : Small Try.prog 22 d1) :
    Calls Try.prog 6 #[v0, v1] W fun e w' => e = .returned (.bool true) ∧ Below W.heap.size W w' := by
  obtain ⟨A, n, c, rfl⟩ := okWide_slice Try.underlying22 o0
  obtain ⟨B, n', c', rfl⟩ := okWide_slice Try.underlying22 o1
  obtain ⟨fuel, hf⟩ := h0
  obtain ⟨fuel', hf'⟩ := h1
  obtain ⟨a, rfl, hl, hc, hcm⟩ := open_bytes Try.underlying22 Try.underlying5 (by kernel_rfl) hf
  obtain ⟨b, rfl, hl', hc', hcm'⟩ := open_bytes Try.underlying22 Try.underlying5 (by kernel_rfl) hf'
  exact polybytes_any A B c c' a b W ⟨hl, hl'⟩
end Go.Proofs.Ytembggidhmdnfaa
