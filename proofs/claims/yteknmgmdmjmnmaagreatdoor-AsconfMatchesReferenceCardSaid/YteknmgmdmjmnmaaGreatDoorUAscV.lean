/- Layer 18: the law AsconfMatchesReference (written by tools/gen_asc_v.py). It writes nothing that was there. -/
import Derived.Test.YteknmgmdmjmnmaaGreatDoorUAscS
import Derived.BigGuard


namespace Go.Proofs.YteknmgmdmjmnmaaGreatDoor
open Go.ChangeShapes Go.WideShapes Go.ChangeAt Go.RowKit

set_option linter.unusedSimpArgs false
theorem fine_mk18 (t : UInt16) (id : UInt32) (ks : List Nd) (h1 : sizes (lens ks) ≤ 201400) (h2 : ks.length ≤ 200) (h3 : ∀ k ∈ ks, Fine k) : Fine (.mk t (be 4 id) ks) :=
  .mk (by rw [Nd.vlen_eq]; show (be 4 id).length + sizes (lens ks) ≤ _; rw [be4_len18]; omega) (by show ks.length ≤ _; omega) h3
theorem beqL_one18 (n : Nd) : beqL [n] [n] = true := beqL_true rfl
theorem ndz_node18 {w : World} : Node w w.heap.size none 0 none 0 (.mk 0 [] []) := ⟨Lies.nil, Nat.le_refl _, Nat.zero_le _, Nodes.nil _ _ _, Nat.le_refl _, Nat.zero_le _⟩
/-- a node is the same as itself -/
theorem ndsame18 (n : Nd) (A : Option Addr) (c : Nat) (K : Option Addr) (k : Nat) (A' : Option Addr) (c' : Nat) (K' : Option Addr) (k' : Nat) (w : World) (ha : Node w w.heap.size A c K k n) (hb : Node w w.heap.size A' c' K' k' n) :
    Calls Tryz.prog 30 #[ndV n A c K k, ndV n A' c' K' k'] w fun e w' => e = .returned (.bool true) ∧ Below w.heap.size w w' := by
  have h := same18_any n n A c K k A' c' K' k' w ha hb
  rw [beqL_one18] at h
  exact h
set_option maxRecDepth 100000 in
set_option maxHeartbeats 16000000 in
theorem match_law18 (t : UInt16) (id : UInt32) (a : Nd) (l : List Nd) (hba : Bnd a) (hbl : ∀ n ∈ l, Bnd n) (hgl : l.length ≤ 9223372036854775807) (A : Option Addr) (c : Nat) (K : Option Addr) (k : Nat) (L : Option Addr) (m : Nat) (w : World) (ha : Node w w.heap.size A c K k a) (h : Nodes w w.heap.size L l) (hlm : l.length ≤ m) (hmm : m ≤ maxLen) (hh : Handle w) (hT : Tbl w) :
    Calls Tryz.prog 6 #[hv t, uv id, ndV a A c K k, .slice L l.length m] w fun e w' => e = .returned (.bool true) ∧ Below w.heap.size w w' := by
  have b0 : Below w.heap.size w (w.alloc (.cells #[hv a.t, .slice A a.v.length c, .slice K a.ks.length k] 51)) := (Below.refl _ w).alloc (Nat.le_refl _) _
  have x0 := Whole.new w 51 #[hv a.t, .slice A a.v.length c, .slice K a.ks.length k]
  have HAW := Lib.hid (fun (V : World) (hb : Below w.heap.size w V) => awake18_any V (hh.below hb hh.lt) (hT.below hb))
  have HFA := Lib.hid (fun (V : World) (hb : Below w.heap.size w V) => few17_any a hba A c K k V (ha.on hb))
  have HFL := Lib.hid (fun (V : World) (hb : Below w.heap.size w V) => few_any L m l V (h.on hb) hgl hbl)
  have HF1 : Hid (fewN a = true → Fine (.mk t (be 4 id) [a])) := Lib.hid (fun hc => by
    obtain ⟨_, f2, f3⟩ := few_fine 21 [a] (of_decide_eq_true hc)
    exact fine_mk18 t id [a] f2 (by simp) f3)
  have HF2 : Hid (decide (cnt 21 l ≤ 200) = true → Fine (.mk 49155 (be 4 id) l)) := Lib.hid (fun hc => by
    obtain ⟨f1, f2, f3⟩ := few_fine 21 l (of_decide_eq_true hc)
    exact fine_mk18 49155 id l f2 f1 f3)
  have HCG := Lib.hid (fun (hf : fewN a = true) (V : World) (hb : Below w.heap.size w V) => change18_any t id a (by have := (fewN_fine hf).vl; rw [Nd.vlen_eq] at this; omega) (by have := (fewN_fine hf).kl; omega) A c K k V (ha.on hb) (hT.below hb))
  have HFL2 := Lib.hid (fun (hf : decide (cnt 21 l ≤ 200) = true) (V : World) (hb : Below w.heap.size w V) => fail18_any id l (HF2.out hf) L m V (h.on hb) hlm hmm)
  have HNA := Lib.hid (fun (V : World) (hb : Below w.heap.size w V) => ha.on hb)
  have HNL : Hid (∀ (V : World) (Ab : Option Addr) (cb : Nat), Below w.heap.size w V → Lies V V.heap.size Ab ((be 4 id).map bv) → 4 ≤ cb → cb ≤ maxLen → Node V V.heap.size Ab cb L m (.mk 49155 (be 4 id) l)) := Lib.hid (fun V Ab cb hV hl h1 h2 => ⟨hl, by show (be 4 id).length ≤ cb; rw [be4_len18]; exact h1, h2, h.on hV, hlm, hmm⟩)
  have HN1 : Hid (∀ (V : World) (Ab : Option Addr) (cb g : Nat), Below w.heap.size w V → Lies V V.heap.size Ab ((be 4 id).map bv) → 4 ≤ cb → cb ≤ maxLen → Whole V g 51 #[hv a.t, .slice A a.v.length c, .slice K a.ks.length k] → Node V V.heap.size Ab cb (some ⟨g, 0, none⟩) 1 (.mk t (be 4 id) [a])) := Lib.hid (fun V Ab cb g hV hl h1 h2 hg => ⟨hl, by show (be 4 id).length ≤ cb; rw [be4_len18]; exact h1, h2, nodes_one18 hg (ha.on hV), Nat.le_refl _, by unfold maxLen; omega⟩)
  have HRC : Hid (fewN a = true → ∀ (V : World) (Ab : Option Addr) (cb g : Nat), Node V V.heap.size Ab cb (some ⟨g, 0, none⟩) 1 (.mk t (be 4 id) [a]) → Calls Tryz.prog 28 #[.agg #[hv t, .slice Ab 4 cb, .slice (some ⟨g, 0, none⟩) 1 1]] V fun e w' => e = .returned (.bool (chgB (.mk t (be 4 id) [a]))) ∧ Below V.heap.size V w') := Lib.hid (fun hf V Ab cb g hN => rchg18_any (.mk t (be 4 id) [a]) (HF1.out hf) Ab cb (some ⟨g, 0, none⟩) 1 V hN)
  have HRB : Hid (decide (cnt 21 l ≤ 200) = true → ∀ (V : World) (Ab : Option Addr) (cb : Nat), Node V V.heap.size Ab cb L m (.mk 49155 (be 4 id) l) → Calls Tryz.prog 29 #[.agg #[.int .u16 49155, .slice Ab 4 cb, .slice L l.length m]] V fun e w' => e = .returned (.bool (decide (chk 4 1 (.mk 49155 (be 4 id) l) = 0))) ∧ Below V.heap.size V w') := Lib.hid (fun hf V Ab cb hN => rres18_any (.mk 49155 (be 4 id) l) (HF2.out hf) Ab cb L m V hN)
  have HSS : Hid (∀ (V : World) (As Ab : Option Addr) (cs cb : Nat), Lies V V.heap.size As ((be 4 id).map bv) → 4 ≤ cs → cs ≤ maxLen → Lies V V.heap.size Ab ((be 4 id).map bv) → 4 ≤ cb → cb ≤ maxLen → Calls Tryz.prog 30 #[.agg #[.int .u16 49157, .slice As 4 cs, .slice none 0 0], .agg #[.int .u16 49157, .slice Ab 4 cb, .slice none 0 0]] V fun e w' => e = .returned (.bool true) ∧ Below V.heap.size V w') := Lib.hid (fun V As Ab cs cb h1 h2 h3 h4 h5 h6 =>
    ndsame18 (.mk 49157 (be 4 id) []) As cs none 0 Ab cb none 0 V ⟨h1, by show (be 4 id).length ≤ cs; rw [be4_len18]; exact h2, h3, Nodes.nil _ _ _, Nat.le_refl _, Nat.zero_le _⟩ ⟨h4, by show (be 4 id).length ≤ cb; rw [be4_len18]; exact h5, h6, Nodes.nil _ _ _, Nat.le_refl _, Nat.zero_le _⟩)
  have HZZ : Hid (∀ (V : World), Calls Tryz.prog 30 #[.agg #[.int .u16 0, .slice none 0 0, .slice none 0 0], .agg #[.int .u16 0, .slice none 0 0, .slice none 0 0]] V fun e w' => e = .returned (.bool true) ∧ Below V.heap.size V w') := Lib.hid (fun V => ndsame18 (.mk 0 [] []) none 0 none 0 none 0 none 0 V ndz_node18 ndz_node18)
  have HSC : Hid (∀ (V : World) (A1 K1 A2 K2 : Option Addr) (c1 k1 c2 k2 : Nat), Node V V.heap.size A1 c1 K1 k1 (.mk t (be 4 id) [a]) → Node V V.heap.size A2 c2 K2 k2 (.mk t (be 4 id) [a]) → Calls Tryz.prog 30 #[.agg #[hv t, .slice A1 4 c1, .slice K1 1 k1], .agg #[hv t, .slice A2 4 c2, .slice K2 1 k2]] V fun e w' => e = .returned (.bool true) ∧ Below V.heap.size V w') := Lib.hid (fun V A1 K1 A2 K2 c1 k1 c2 k2 h1 h2 => ndsame18 (.mk t (be 4 id) [a]) A1 c1 K1 k1 A2 c2 K2 k2 V h1 h2)
  have HSF : Hid (∀ (V : World) (A1 K1 A2 K2 : Option Addr) (c1 k1 c2 k2 : Nat), Node V V.heap.size A1 c1 K1 k1 (.mk 49155 (be 4 id) l) → Node V V.heap.size A2 c2 K2 k2 (.mk 49155 (be 4 id) l) → Calls Tryz.prog 30 #[.agg #[.int .u16 49155, .slice A1 4 c1, .slice K1 l.length k1], .agg #[.int .u16 49155, .slice A2 4 c2, .slice K2 l.length k2]] V fun e w' => e = .returned (.bool true) ∧ Below V.heap.size V w') := Lib.hid (fun V A1 K1 A2 K2 c1 k1 c2 k2 h1 h2 => ndsame18 (.mk 49155 (be 4 id) l) A1 c1 K1 k1 A2 c2 K2 k2 V h1 h2)
  have HM1 : Hid (∀ ok V e w', MkN (.mk t (be 4 id) [a]) ok V e w' → Below V.heap.size V w' ∧
    ((ok = true ∧ ∃ A' c' K' k', e = .returned (.tuple #[.agg #[hv t, .slice A' 4 c', .slice K' 1 k'], .bool true]) ∧ Node w' w'.heap.size A' c' K' k' (.mk t (be 4 id) [a])) ∨ (ok = false ∧ e = .returned (.tuple #[.agg #[.int .u16 0, .slice none 0 0, .slice none 0 0], .bool false])))) := Lib.hid (fun ok V e w' hk => hk)
  have HM2 : Hid (∀ ok V e w', MkN (.mk 49155 (be 4 id) l) ok V e w' → Below V.heap.size V w' ∧
    ((ok = true ∧ ∃ A' c' K' k', e = .returned (.tuple #[.agg #[.int .u16 49155, .slice A' 4 c', .slice K' l.length k'], .bool true]) ∧ Node w' w'.heap.size A' c' K' k' (.mk 49155 (be 4 id) l)) ∨ (ok = false ∧ e = .returned (.tuple #[.agg #[.int .u16 0, .slice none 0 0, .slice none 0 0], .bool false])))) := Lib.hid (fun ok V e w' hk => hk)
  clear ha h hh hT hba hbl hgl hlm hmm HF1 HF2 HNA
  unfold ndV at HCG ⊢
  generalize chgB (.mk t (be 4 id) [a]) = cb at *
  generalize decide (chk 4 1 (.mk 49155 (be 4 id) l) = 0) = qb at *
  generalize hn1 : Nd.mk t (be 4 id) [a] = n1 at *
  generalize hn2 : Nd.mk 49155 (be 4 id) l = n2 at *
  clear hn1 hn2
  generalize fewN a = fa at *
  generalize decide (cnt 21 l ≤ 200) = fl at *
  generalize l.length = ll at *
  generalize a.v.length = la at *
  generalize a.ks.length = lka at *
  generalize a.t = ta at *
  go_enter Tryz.func6, Tryz.ntmps6
  go_upto_region 1 with fail
  generalize w.alloc (.cells #[hv ta, .slice A la c, .slice K lka k] 51) = w0 at *
  have B0 := b0
  clear b0
  have H1 := Lib.hid (HAW.out w0 B0)
  obtain ⟨xp0, xp1, xp2⟩ := wh318 x0
  go_wp2_with fail
  refine H1.out.mono ?_
  rintro e w1 ⟨rfl, b1⟩
  clear H1
  clear xp0 xp1 xp2
  have B1 := B0.trans (b1.mono B0.size)
  have x1 := x0.below b1 x0.lt
  clear x0 B0 b1
  have H1 := Lib.hid (HFA.out w1 B1)
  clear HFA
  cases fa with
  | false =>
    obtain ⟨xp0, xp1, xp2⟩ := wh318 x1
    go_wp2_with fail
    refine H1.out.mono ?_
    rintro e w2 ⟨rfl, b2⟩
    have B2 := B1.trans (b2.mono B1.size)
    have HW := Lib.hid (HAW.out w2 B2)
    clear H1
    go_wp2_with fail
    refine HW.out.mono ?_
    rintro e w3 ⟨rfl, b3⟩
    have HBF := Lib.hid (B2.trans (b3.mono B2.size))
    clear HW
    go_wp2_with fail
    go_ret
    exact ⟨rfl, HBF.out⟩
  | true =>
    obtain ⟨xp0, xp1, xp2⟩ := wh318 x1
    go_wp2_with fail
    refine H1.out.mono ?_
    rintro e w2 ⟨rfl, b2⟩
    clear H1
    clear xp0 xp1 xp2
    have B2 := B1.trans (b2.mono B1.size)
    have x2 := x1.below b2 x1.lt
    clear x1 B1 b2
    have H1 := Lib.hid (HFL.out w2 B2)
    clear HFL
    cases fl with
    | false =>
      obtain ⟨xp0, xp1, xp2⟩ := wh318 x2
      go_wp2_with fail
      refine H1.out.mono ?_
      rintro e w3 ⟨rfl, b3⟩
      have B3 := B2.trans (b3.mono B2.size)
      have HW := Lib.hid (HAW.out w3 B3)
      clear H1
      go_wp2_with fail
      refine HW.out.mono ?_
      rintro e w4 ⟨rfl, b4⟩
      have HBF := Lib.hid (B3.trans (b4.mono B3.size))
      clear HW
      go_wp2_with fail
      go_ret
      exact ⟨rfl, HBF.out⟩
    | true =>
      obtain ⟨xp0, xp1, xp2⟩ := wh318 x2
      go_wp2_with fail
      refine H1.out.mono ?_
      rintro e w3 ⟨rfl, b3⟩
      clear H1
      clear xp0 xp1 xp2
      have B3 := B2.trans (b3.mono B2.size)
      have x3 := x2.below b3 x2.lt
      clear x2 B2 b3
      clear HAW
      go_upto_region 3 with fail
      have H1 := Lib.hid (rput1_18 id w3)
      go_wp2_with fail
      refine H1.out.mono ?_
      rintro e w4 ⟨Ab, cbb, rfl, o4, b4⟩
      clear H1
      have lb4 : Lies w4 w4.heap.size Ab ((be 4 id).map bv) := Lies.own o4
      obtain ⟨_, cp1, cp2⟩ := own_cap o4
      clear o4
      have B4 := B3.trans (b4.mono B3.size)
      have x4 := x3.below b4 x3.lt
      clear x3 B3 b4
      have HCP := Lib.hid (And.intro cp1 cp2)
      clear cp1 cp2
      go_upto_region 4 with fail
      have H1 := Lib.hid (HCG.out (by trivial) w4 B4)
      clear HCG
      obtain ⟨xp0, xp1, xp2⟩ := wh318 x4
      go_wp2_with fail
      refine H1.out.mono ?_
      intro e w5 hk
      obtain ⟨b5, hk2⟩ := HM1.out _ _ _ _ hk
      clear hk H1 HM1 xp0 xp1 xp2
      have B5 := B4.trans (b5.mono B4.size)
      have x5 := x4.below b5 x4.lt
      have lb5 := (lb4.below b5).more b5.size
      clear x4 lb4 B4 b5
      rcases hk2 with ⟨rfl, A5, c5, K5, k5, rfl, Nu5⟩ | ⟨rfl, rfl⟩
      · go_upto_region 5 with fail
        have b6 : Below w5.heap.size w5 (w5.alloc (.cells #[hv t, .slice A5 4 c5, .slice K5 1 k5] 51)) := (Below.refl _ w5).alloc (Nat.le_refl _) _
        have u6 := Whole.new w5 51 #[hv t, .slice A5 4 c5, .slice K5 1 k5]
        have B6 := B5.trans (b6.mono B5.size)
        have x6 := x5.below b6 x5.lt
        have Nu6 := Nu5.on b6
        have lb6 := (lb5.below b6).more b6.size
        clear x5 Nu5 lb5 B5 b6
        generalize w5.alloc (.cells #[hv t, .slice A5 4 c5, .slice K5 1 k5] 51) = w6 at *
        generalize w5.heap.size = gu at *
        have H1 := Lib.hid (HFL2.out (by trivial) w6 B6)
        clear HFL2
        go_wp2_with fail
        refine H1.out.mono ?_
        intro e w7 hk
        obtain ⟨b7, hk2⟩ := HM2.out _ _ _ _ hk
        clear hk H1 HM2
        have B7 := B6.trans (b7.mono B6.size)
        have x7 := x6.below b7 x6.lt
        have u7 := u6.below b7 u6.lt
        have Nu7 := Nu6.on b7
        have lb7 := (lb6.below b7).more b7.size
        clear x6 u6 Nu6 lb6 B6 b7
        rcases hk2 with ⟨rfl, A6, c6, K6, k6, rfl, Nf7⟩ | ⟨rfl, rfl⟩
        · go_upto_region 6 with fail
          have b8 : Below w7.heap.size w7 (w7.alloc (.cells #[.int .u16 49155, .slice A6 4 c6, .slice K6 ll k6] 51)) := (Below.refl _ w7).alloc (Nat.le_refl _) _
          have f8 := Whole.new w7 51 #[.int .u16 49155, .slice A6 4 c6, .slice K6 ll k6]
          have B8 := B7.trans (b8.mono B7.size)
          have x8 := x7.below b8 x7.lt
          have u8 := u7.below b8 u7.lt
          have Nu8 := Nu7.on b8
          have Nf8 := Nf7.on b8
          have lb8 := (lb7.below b8).more b8.size
          clear x7 u7 Nu7 Nf7 lb7 B7 b8
          generalize w7.alloc (.cells #[.int .u16 49155, .slice A6 4 c6, .slice K6 ll k6] 51) = w8 at *
          generalize w7.heap.size = gf at *
          have b9 : Below w8.heap.size w8 (w8.alloc (.cells #[hv ta, .slice A la c, .slice K lka k] 51)) := (Below.refl _ w8).alloc (Nat.le_refl _) _
          have k9 := Whole.new w8 51 #[hv ta, .slice A la c, .slice K lka k]
          obtain ⟨xp0, xp1, xp2⟩ := wh318 x8
          go_upto_region 7 with fail
          clear xp0 xp1 xp2
          have B9 := B8.trans (b9.mono B8.size)
          have x9 := x8.below b9 x8.lt
          have u9 := u8.below b9 u8.lt
          have f9 := f8.below b9 f8.lt
          have Nu9 := Nu8.on b9
          have Nf9 := Nf8.on b9
          have lb9 := (lb8.below b9).more b9.size
          clear x8 u8 f8 Nu8 Nf8 lb8 B8 b9
          have HSZ : Hid ((w8.alloc (.cells #[hv ta, .slice A la c, .slice K lka k] 51)).heap.size = w8.heap.size + 1) := Lib.hid (World.size_alloc _ _)
          generalize w8.alloc (.cells #[hv ta, .slice A la c, .slice K lka k] 51) = w9 at *
          generalize hgk : w8.heap.size = gk at *
          clear hgk
          have Nz9 := HN1.out w9 Ab cbb gk B9 lb9 HCP.out.1 HCP.out.2 k9
          clear k9 HN1
          have b10 : Below w9.heap.size w9 (w9.alloc (.cells #[hv t, .slice Ab 4 cbb, .slice (some ⟨gk, 0, none⟩) 1 1] 51)) := (Below.refl _ w9).alloc (Nat.le_refl _) _
          have z10 := Whole.new w9 51 #[hv t, .slice Ab 4 cbb, .slice (some ⟨gk, 0, none⟩) 1 1]
          rw [HSZ.out] at z10
          have B10 := B9.trans (b10.mono B9.size)
          have x10 := x9.below b10 x9.lt
          have u10 := u9.below b10 u9.lt
          have f10 := f9.below b10 f9.lt
          have Nu10 := Nu9.on b10
          have Nf10 := Nf9.on b10
          have Nz10 := Nz9.on b10
          have lb10 := (lb9.below b10).more b10.size
          clear x9 u9 f9 Nu9 Nf9 Nz9 lb9 B9 b10
          generalize w9.alloc (.cells #[hv t, .slice Ab 4 cbb, .slice (some ⟨gk, 0, none⟩) 1 1] 51) = w10 at *
          go_upto_region 8 with fail
          have Ny10 := HNL.out w10 Ab cbb B10 lb10 HCP.out.1 HCP.out.2
          clear HNL
          have b11 : Below w10.heap.size w10 (w10.alloc (.cells #[.int .u16 49155, .slice Ab 4 cbb, .slice L ll m] 51)) := (Below.refl _ w10).alloc (Nat.le_refl _) _
          have y11 := Whole.new w10 51 #[.int .u16 49155, .slice Ab 4 cbb, .slice L ll m]
          have B11 := B10.trans (b11.mono B10.size)
          have x11 := x10.below b11 x10.lt
          have u11 := u10.below b11 u10.lt
          have f11 := f10.below b11 f10.lt
          have z11 := z10.below b11 z10.lt
          have Nu11 := Nu10.on b11
          have Nf11 := Nf10.on b11
          have Nz11 := Nz10.on b11
          have Ny11 := Ny10.on b11
          have lb11 := (lb10.below b11).more b11.size
          clear x10 u10 f10 z10 Nu10 Nf10 Nz10 Ny10 lb10 B10 b11
          generalize w10.alloc (.cells #[.int .u16 49155, .slice Ab 4 cbb, .slice L ll m] 51) = w11 at *
          generalize w10.heap.size = gy at *
          have H1 := Lib.hid (HRC.out (by trivial) w11 Ab cbb gk Nz11)
          clear HRC
          obtain ⟨zp0, zp1, zp2⟩ := wh318 z11
          go_wp2_with fail
          refine H1.out.mono ?_
          rintro e w12 ⟨rfl, b12⟩
          clear H1
          clear zp0 zp1 zp2
          have B12 := B11.trans (b12.mono B11.size)
          have x12 := x11.below b12 x11.lt
          have u12 := u11.below b12 u11.lt
          have f12 := f11.below b12 f11.lt
          have z12 := z11.below b12 z11.lt
          have y12 := y11.below b12 y11.lt
          have Nu12 := Nu11.on b12
          have Nf12 := Nf11.on b12
          have Nz12 := Nz11.on b12
          have Ny12 := Ny11.on b12
          have lb12 := (lb11.below b12).more b12.size
          clear x11 u11 f11 z11 y11 Nu11 Nf11 Nz11 Ny11 lb11 B11 b12
          have H1 := Lib.hid (HRB.out (by trivial) w12 Ab cbb Ny12)
          clear HRB
          obtain ⟨yp0, yp1, yp2⟩ := wh318 y12
          go_wp2_with fail
          refine H1.out.mono ?_
          rintro e w13 ⟨rfl, b13⟩
          clear H1
          clear yp0 yp1 yp2
          have B13 := B12.trans (b13.mono B12.size)
          have x13 := x12.below b13 x12.lt
          have u13 := u12.below b13 u12.lt
          have f13 := f12.below b13 f12.lt
          have z13 := z12.below b13 z12.lt
          have y13 := y12.below b13 y12.lt
          have Nu13 := Nu12.on b13
          have Nf13 := Nf12.on b13
          have Nz13 := Nz12.on b13
          have Ny13 := Ny12.on b13
          have lb13 := (lb12.below b13).more b13.size
          clear x12 u12 f12 z12 y12 Nu12 Nf12 Nz12 Ny12 lb12 B12 b13
          have H1 := Lib.hid (suc18_any id w13)
          go_wp2_with fail
          refine H1.out.mono ?_
          rintro e w14 ⟨As, cs, rfl, b14, o14⟩
          clear H1
          have ls14 : Lies w14 w14.heap.size As ((be 4 id).map bv) := Lies.own o14
          obtain ⟨_, cp1, cp2⟩ := own_cap o14
          clear o14
          have B14 := B13.trans (b14.mono B13.size)
          have x14 := x13.below b14 x13.lt
          have u14 := u13.below b14 u13.lt
          have f14 := f13.below b14 f13.lt
          have z14 := z13.below b14 z13.lt
          have y14 := y13.below b14 y13.lt
          have Nu14 := Nu13.on b14
          have Nf14 := Nf13.on b14
          have Nz14 := Nz13.on b14
          have Ny14 := Ny13.on b14
          have lb14 := (lb13.below b14).more b14.size
          clear x13 u13 f13 z13 y13 Nu13 Nf13 Nz13 Ny13 lb13 B13 b14
          have H1 := Lib.hid (HSS.out w14 As Ab cs cbb ls14 cp1 cp2 lb14 HCP.out.1 HCP.out.2)
          clear HSS ls14 lb14 cp1 cp2
          go_wp2_with fail
          refine H1.out.mono ?_
          rintro e w15 ⟨rfl, b15⟩
          clear H1
          have B15 := B14.trans (b15.mono B14.size)
          have x15 := x14.below b15 x14.lt
          have u15 := u14.below b15 u14.lt
          have f15 := f14.below b15 f14.lt
          have z15 := z14.below b15 z14.lt
          have y15 := y14.below b15 y14.lt
          have Nu15 := Nu14.on b15
          have Nf15 := Nf14.on b15
          have Nz15 := Nz14.on b15
          have Ny15 := Ny14.on b15
          clear x14 u14 f14 z14 y14 Nu14 Nf14 Nz14 Ny14 B14 b15
          go_upto_region 10 with fail
          have H1 := Lib.hid (HSC.out w15 _ _ _ _ _ _ _ _ Nu15 Nz15)
          obtain ⟨up0, up1, up2⟩ := wh318 u15
          obtain ⟨zp0, zp1, zp2⟩ := wh318 z15
          go_wp2_with fail
          refine H1.out.mono ?_
          rintro e w16 ⟨rfl, b16⟩
          clear H1
          clear up0 up1 up2 zp0 zp1 zp2
          have B16 := B15.trans (b16.mono B15.size)
          have x16 := x15.below b16 x15.lt
          have u16 := u15.below b16 u15.lt
          have f16 := f15.below b16 f15.lt
          have z16 := z15.below b16 z15.lt
          have y16 := y15.below b16 y15.lt
          have Nu16 := Nu15.on b16
          have Nf16 := Nf15.on b16
          have Nz16 := Nz15.on b16
          have Ny16 := Ny15.on b16
          clear x15 u15 f15 z15 y15 Nu15 Nf15 Nz15 Ny15 B15 b16
          have H1 := Lib.hid (HSF.out w16 _ _ _ _ _ _ _ _ Nf16 Ny16)
          obtain ⟨fp0, fp1, fp2⟩ := wh318 f16
          obtain ⟨yp0, yp1, yp2⟩ := wh318 y16
          go_wp2_with fail
          refine H1.out.mono ?_
          rintro e w17 ⟨rfl, b17⟩
          clear H1
          clear fp0 fp1 fp2 yp0 yp1 yp2
          have B17 := B16.trans (b17.mono B16.size)
          have x17 := x16.below b17 x16.lt
          have u17 := u16.below b17 u16.lt
          have f17 := f16.below b17 f16.lt
          have z17 := z16.below b17 z16.lt
          have y17 := y16.below b17 y16.lt
          have Nu17 := Nu16.on b17
          have Nf17 := Nf16.on b17
          have Nz17 := Nz16.on b17
          have Ny17 := Ny16.on b17
          clear x16 u16 f16 z16 y16 Nu16 Nf16 Nz16 Ny16 B16 b17
          have HBF := Lib.hid B17
          clear B17
          go_wp2_with fail
          go_ret
          exact ⟨rfl, HBF.out⟩
        · go_upto_region 6 with fail
          have b8 : Below w7.heap.size w7 (w7.alloc (.cells #[.int .u16 0, .slice none 0 0, .slice none 0 0] 51)) := (Below.refl _ w7).alloc (Nat.le_refl _) _
          have f8 := Whole.new w7 51 #[.int .u16 0, .slice none 0 0, .slice none 0 0]
          have B8 := B7.trans (b8.mono B7.size)
          have x8 := x7.below b8 x7.lt
          have u8 := u7.below b8 u7.lt
          have Nu8 := Nu7.on b8
          have lb8 := (lb7.below b8).more b8.size
          clear x7 u7 Nu7 lb7 B7 b8
          generalize w7.alloc (.cells #[.int .u16 0, .slice none 0 0, .slice none 0 0] 51) = w8 at *
          generalize w7.heap.size = gf at *
          have b9 : Below w8.heap.size w8 (w8.alloc (.cells #[hv ta, .slice A la c, .slice K lka k] 51)) := (Below.refl _ w8).alloc (Nat.le_refl _) _
          have k9 := Whole.new w8 51 #[hv ta, .slice A la c, .slice K lka k]
          obtain ⟨xp0, xp1, xp2⟩ := wh318 x8
          go_upto_region 7 with fail
          clear xp0 xp1 xp2
          have B9 := B8.trans (b9.mono B8.size)
          have x9 := x8.below b9 x8.lt
          have u9 := u8.below b9 u8.lt
          have f9 := f8.below b9 f8.lt
          have Nu9 := Nu8.on b9
          have lb9 := (lb8.below b9).more b9.size
          clear x8 u8 f8 Nu8 lb8 B8 b9
          have HSZ : Hid ((w8.alloc (.cells #[hv ta, .slice A la c, .slice K lka k] 51)).heap.size = w8.heap.size + 1) := Lib.hid (World.size_alloc _ _)
          generalize w8.alloc (.cells #[hv ta, .slice A la c, .slice K lka k] 51) = w9 at *
          generalize hgk : w8.heap.size = gk at *
          clear hgk
          have Nz9 := HN1.out w9 Ab cbb gk B9 lb9 HCP.out.1 HCP.out.2 k9
          clear k9 HN1
          have b10 : Below w9.heap.size w9 (w9.alloc (.cells #[hv t, .slice Ab 4 cbb, .slice (some ⟨gk, 0, none⟩) 1 1] 51)) := (Below.refl _ w9).alloc (Nat.le_refl _) _
          have z10 := Whole.new w9 51 #[hv t, .slice Ab 4 cbb, .slice (some ⟨gk, 0, none⟩) 1 1]
          rw [HSZ.out] at z10
          have B10 := B9.trans (b10.mono B9.size)
          have x10 := x9.below b10 x9.lt
          have u10 := u9.below b10 u9.lt
          have f10 := f9.below b10 f9.lt
          have Nu10 := Nu9.on b10
          have Nz10 := Nz9.on b10
          have lb10 := (lb9.below b10).more b10.size
          clear x9 u9 f9 Nu9 Nz9 lb9 B9 b10
          generalize w9.alloc (.cells #[hv t, .slice Ab 4 cbb, .slice (some ⟨gk, 0, none⟩) 1 1] 51) = w10 at *
          go_upto_region 8 with fail
          have Ny10 := HNL.out w10 Ab cbb B10 lb10 HCP.out.1 HCP.out.2
          clear HNL
          have b11 : Below w10.heap.size w10 (w10.alloc (.cells #[.int .u16 49155, .slice Ab 4 cbb, .slice L ll m] 51)) := (Below.refl _ w10).alloc (Nat.le_refl _) _
          have y11 := Whole.new w10 51 #[.int .u16 49155, .slice Ab 4 cbb, .slice L ll m]
          have B11 := B10.trans (b11.mono B10.size)
          have x11 := x10.below b11 x10.lt
          have u11 := u10.below b11 u10.lt
          have f11 := f10.below b11 f10.lt
          have z11 := z10.below b11 z10.lt
          have Nu11 := Nu10.on b11
          have Nz11 := Nz10.on b11
          have Ny11 := Ny10.on b11
          have lb11 := (lb10.below b11).more b11.size
          clear x10 u10 f10 z10 Nu10 Nz10 Ny10 lb10 B10 b11
          generalize w10.alloc (.cells #[.int .u16 49155, .slice Ab 4 cbb, .slice L ll m] 51) = w11 at *
          generalize w10.heap.size = gy at *
          have H1 := Lib.hid (HRC.out (by trivial) w11 Ab cbb gk Nz11)
          clear HRC
          obtain ⟨zp0, zp1, zp2⟩ := wh318 z11
          go_wp2_with fail
          refine H1.out.mono ?_
          rintro e w12 ⟨rfl, b12⟩
          clear H1
          clear zp0 zp1 zp2
          have B12 := B11.trans (b12.mono B11.size)
          have x12 := x11.below b12 x11.lt
          have u12 := u11.below b12 u11.lt
          have f12 := f11.below b12 f11.lt
          have z12 := z11.below b12 z11.lt
          have y12 := y11.below b12 y11.lt
          have Nu12 := Nu11.on b12
          have Nz12 := Nz11.on b12
          have Ny12 := Ny11.on b12
          have lb12 := (lb11.below b12).more b12.size
          clear x11 u11 f11 z11 y11 Nu11 Nz11 Ny11 lb11 B11 b12
          have H1 := Lib.hid (HRB.out (by trivial) w12 Ab cbb Ny12)
          clear HRB
          obtain ⟨yp0, yp1, yp2⟩ := wh318 y12
          go_wp2_with fail
          refine H1.out.mono ?_
          rintro e w13 ⟨rfl, b13⟩
          clear H1
          clear yp0 yp1 yp2
          have B13 := B12.trans (b13.mono B12.size)
          have x13 := x12.below b13 x12.lt
          have u13 := u12.below b13 u12.lt
          have f13 := f12.below b13 f12.lt
          have z13 := z12.below b13 z12.lt
          have y13 := y12.below b13 y12.lt
          have Nu13 := Nu12.on b13
          have Nz13 := Nz12.on b13
          have Ny13 := Ny12.on b13
          have lb13 := (lb12.below b13).more b13.size
          clear x12 u12 f12 z12 y12 Nu12 Nz12 Ny12 lb12 B12 b13
          have H1 := Lib.hid (suc18_any id w13)
          go_wp2_with fail
          refine H1.out.mono ?_
          rintro e w14 ⟨As, cs, rfl, b14, o14⟩
          clear H1
          have ls14 : Lies w14 w14.heap.size As ((be 4 id).map bv) := Lies.own o14
          obtain ⟨_, cp1, cp2⟩ := own_cap o14
          clear o14
          have B14 := B13.trans (b14.mono B13.size)
          have x14 := x13.below b14 x13.lt
          have u14 := u13.below b14 u13.lt
          have f14 := f13.below b14 f13.lt
          have z14 := z13.below b14 z13.lt
          have y14 := y13.below b14 y13.lt
          have Nu14 := Nu13.on b14
          have Nz14 := Nz13.on b14
          have Ny14 := Ny13.on b14
          have lb14 := (lb13.below b14).more b14.size
          clear x13 u13 f13 z13 y13 Nu13 Nz13 Ny13 lb13 B13 b14
          have H1 := Lib.hid (HSS.out w14 As Ab cs cbb ls14 cp1 cp2 lb14 HCP.out.1 HCP.out.2)
          clear HSS ls14 lb14 cp1 cp2
          go_wp2_with fail
          refine H1.out.mono ?_
          rintro e w15 ⟨rfl, b15⟩
          clear H1
          have B15 := B14.trans (b15.mono B14.size)
          have x15 := x14.below b15 x14.lt
          have u15 := u14.below b15 u14.lt
          have f15 := f14.below b15 f14.lt
          have z15 := z14.below b15 z14.lt
          have y15 := y14.below b15 y14.lt
          have Nu15 := Nu14.on b15
          have Nz15 := Nz14.on b15
          have Ny15 := Ny14.on b15
          clear x14 u14 f14 z14 y14 Nu14 Nz14 Ny14 B14 b15
          go_upto_region 10 with fail
          have H1 := Lib.hid (HSC.out w15 _ _ _ _ _ _ _ _ Nu15 Nz15)
          obtain ⟨up0, up1, up2⟩ := wh318 u15
          obtain ⟨zp0, zp1, zp2⟩ := wh318 z15
          go_wp2_with fail
          refine H1.out.mono ?_
          rintro e w16 ⟨rfl, b16⟩
          clear H1
          clear up0 up1 up2 zp0 zp1 zp2
          have B16 := B15.trans (b16.mono B15.size)
          have x16 := x15.below b16 x15.lt
          have u16 := u15.below b16 u15.lt
          have f16 := f15.below b16 f15.lt
          have z16 := z15.below b16 z15.lt
          have y16 := y15.below b16 y15.lt
          have Nu16 := Nu15.on b16
          have Nz16 := Nz15.on b16
          have Ny16 := Ny15.on b16
          clear x15 u15 f15 z15 y15 Nu15 Nz15 Ny15 B15 b16
          have H1 := Lib.hid (HZZ.out w16)
          obtain ⟨fp0, fp1, fp2⟩ := wh318 f16
          go_wp2_with fail
          refine H1.out.mono ?_
          rintro e w17 ⟨rfl, b17⟩
          clear H1
          clear fp0 fp1 fp2
          have B17 := B16.trans (b17.mono B16.size)
          have x17 := x16.below b17 x16.lt
          have u17 := u16.below b17 u16.lt
          have f17 := f16.below b17 f16.lt
          have z17 := z16.below b17 z16.lt
          have y17 := y16.below b17 y16.lt
          have Nu17 := Nu16.on b17
          have Nz17 := Nz16.on b17
          have Ny17 := Ny16.on b17
          clear x16 u16 f16 z16 y16 Nu16 Nz16 Ny16 B16 b17
          have HBF := Lib.hid B17
          clear B17
          go_wp2_with fail
          go_ret
          exact ⟨rfl, HBF.out⟩
      · go_upto_region 5 with fail
        have b6 : Below w5.heap.size w5 (w5.alloc (.cells #[.int .u16 0, .slice none 0 0, .slice none 0 0] 51)) := (Below.refl _ w5).alloc (Nat.le_refl _) _
        have u6 := Whole.new w5 51 #[.int .u16 0, .slice none 0 0, .slice none 0 0]
        have B6 := B5.trans (b6.mono B5.size)
        have x6 := x5.below b6 x5.lt
        have lb6 := (lb5.below b6).more b6.size
        clear x5 lb5 B5 b6
        generalize w5.alloc (.cells #[.int .u16 0, .slice none 0 0, .slice none 0 0] 51) = w6 at *
        generalize w5.heap.size = gu at *
        have H1 := Lib.hid (HFL2.out (by trivial) w6 B6)
        clear HFL2
        go_wp2_with fail
        refine H1.out.mono ?_
        intro e w7 hk
        obtain ⟨b7, hk2⟩ := HM2.out _ _ _ _ hk
        clear hk H1 HM2
        have B7 := B6.trans (b7.mono B6.size)
        have x7 := x6.below b7 x6.lt
        have u7 := u6.below b7 u6.lt
        have lb7 := (lb6.below b7).more b7.size
        clear x6 u6 lb6 B6 b7
        rcases hk2 with ⟨rfl, A6, c6, K6, k6, rfl, Nf7⟩ | ⟨rfl, rfl⟩
        · go_upto_region 6 with fail
          have b8 : Below w7.heap.size w7 (w7.alloc (.cells #[.int .u16 49155, .slice A6 4 c6, .slice K6 ll k6] 51)) := (Below.refl _ w7).alloc (Nat.le_refl _) _
          have f8 := Whole.new w7 51 #[.int .u16 49155, .slice A6 4 c6, .slice K6 ll k6]
          have B8 := B7.trans (b8.mono B7.size)
          have x8 := x7.below b8 x7.lt
          have u8 := u7.below b8 u7.lt
          have Nf8 := Nf7.on b8
          have lb8 := (lb7.below b8).more b8.size
          clear x7 u7 Nf7 lb7 B7 b8
          generalize w7.alloc (.cells #[.int .u16 49155, .slice A6 4 c6, .slice K6 ll k6] 51) = w8 at *
          generalize w7.heap.size = gf at *
          have b9 : Below w8.heap.size w8 (w8.alloc (.cells #[hv ta, .slice A la c, .slice K lka k] 51)) := (Below.refl _ w8).alloc (Nat.le_refl _) _
          have k9 := Whole.new w8 51 #[hv ta, .slice A la c, .slice K lka k]
          obtain ⟨xp0, xp1, xp2⟩ := wh318 x8
          go_upto_region 7 with fail
          clear xp0 xp1 xp2
          have B9 := B8.trans (b9.mono B8.size)
          have x9 := x8.below b9 x8.lt
          have u9 := u8.below b9 u8.lt
          have f9 := f8.below b9 f8.lt
          have Nf9 := Nf8.on b9
          have lb9 := (lb8.below b9).more b9.size
          clear x8 u8 f8 Nf8 lb8 B8 b9
          have HSZ : Hid ((w8.alloc (.cells #[hv ta, .slice A la c, .slice K lka k] 51)).heap.size = w8.heap.size + 1) := Lib.hid (World.size_alloc _ _)
          generalize w8.alloc (.cells #[hv ta, .slice A la c, .slice K lka k] 51) = w9 at *
          generalize hgk : w8.heap.size = gk at *
          clear hgk
          have Nz9 := HN1.out w9 Ab cbb gk B9 lb9 HCP.out.1 HCP.out.2 k9
          clear k9 HN1
          have b10 : Below w9.heap.size w9 (w9.alloc (.cells #[hv t, .slice Ab 4 cbb, .slice (some ⟨gk, 0, none⟩) 1 1] 51)) := (Below.refl _ w9).alloc (Nat.le_refl _) _
          have z10 := Whole.new w9 51 #[hv t, .slice Ab 4 cbb, .slice (some ⟨gk, 0, none⟩) 1 1]
          rw [HSZ.out] at z10
          have B10 := B9.trans (b10.mono B9.size)
          have x10 := x9.below b10 x9.lt
          have u10 := u9.below b10 u9.lt
          have f10 := f9.below b10 f9.lt
          have Nf10 := Nf9.on b10
          have Nz10 := Nz9.on b10
          have lb10 := (lb9.below b10).more b10.size
          clear x9 u9 f9 Nf9 Nz9 lb9 B9 b10
          generalize w9.alloc (.cells #[hv t, .slice Ab 4 cbb, .slice (some ⟨gk, 0, none⟩) 1 1] 51) = w10 at *
          go_upto_region 8 with fail
          have Ny10 := HNL.out w10 Ab cbb B10 lb10 HCP.out.1 HCP.out.2
          clear HNL
          have b11 : Below w10.heap.size w10 (w10.alloc (.cells #[.int .u16 49155, .slice Ab 4 cbb, .slice L ll m] 51)) := (Below.refl _ w10).alloc (Nat.le_refl _) _
          have y11 := Whole.new w10 51 #[.int .u16 49155, .slice Ab 4 cbb, .slice L ll m]
          have B11 := B10.trans (b11.mono B10.size)
          have x11 := x10.below b11 x10.lt
          have u11 := u10.below b11 u10.lt
          have f11 := f10.below b11 f10.lt
          have z11 := z10.below b11 z10.lt
          have Nf11 := Nf10.on b11
          have Nz11 := Nz10.on b11
          have Ny11 := Ny10.on b11
          have lb11 := (lb10.below b11).more b11.size
          clear x10 u10 f10 z10 Nf10 Nz10 Ny10 lb10 B10 b11
          generalize w10.alloc (.cells #[.int .u16 49155, .slice Ab 4 cbb, .slice L ll m] 51) = w11 at *
          generalize w10.heap.size = gy at *
          have H1 := Lib.hid (HRC.out (by trivial) w11 Ab cbb gk Nz11)
          clear HRC
          obtain ⟨zp0, zp1, zp2⟩ := wh318 z11
          go_wp2_with fail
          refine H1.out.mono ?_
          rintro e w12 ⟨rfl, b12⟩
          clear H1
          clear zp0 zp1 zp2
          have B12 := B11.trans (b12.mono B11.size)
          have x12 := x11.below b12 x11.lt
          have u12 := u11.below b12 u11.lt
          have f12 := f11.below b12 f11.lt
          have z12 := z11.below b12 z11.lt
          have y12 := y11.below b12 y11.lt
          have Nf12 := Nf11.on b12
          have Nz12 := Nz11.on b12
          have Ny12 := Ny11.on b12
          have lb12 := (lb11.below b12).more b12.size
          clear x11 u11 f11 z11 y11 Nf11 Nz11 Ny11 lb11 B11 b12
          have H1 := Lib.hid (HRB.out (by trivial) w12 Ab cbb Ny12)
          clear HRB
          obtain ⟨yp0, yp1, yp2⟩ := wh318 y12
          go_wp2_with fail
          refine H1.out.mono ?_
          rintro e w13 ⟨rfl, b13⟩
          clear H1
          clear yp0 yp1 yp2
          have B13 := B12.trans (b13.mono B12.size)
          have x13 := x12.below b13 x12.lt
          have u13 := u12.below b13 u12.lt
          have f13 := f12.below b13 f12.lt
          have z13 := z12.below b13 z12.lt
          have y13 := y12.below b13 y12.lt
          have Nf13 := Nf12.on b13
          have Nz13 := Nz12.on b13
          have Ny13 := Ny12.on b13
          have lb13 := (lb12.below b13).more b13.size
          clear x12 u12 f12 z12 y12 Nf12 Nz12 Ny12 lb12 B12 b13
          have H1 := Lib.hid (suc18_any id w13)
          go_wp2_with fail
          refine H1.out.mono ?_
          rintro e w14 ⟨As, cs, rfl, b14, o14⟩
          clear H1
          have ls14 : Lies w14 w14.heap.size As ((be 4 id).map bv) := Lies.own o14
          obtain ⟨_, cp1, cp2⟩ := own_cap o14
          clear o14
          have B14 := B13.trans (b14.mono B13.size)
          have x14 := x13.below b14 x13.lt
          have u14 := u13.below b14 u13.lt
          have f14 := f13.below b14 f13.lt
          have z14 := z13.below b14 z13.lt
          have y14 := y13.below b14 y13.lt
          have Nf14 := Nf13.on b14
          have Nz14 := Nz13.on b14
          have Ny14 := Ny13.on b14
          have lb14 := (lb13.below b14).more b14.size
          clear x13 u13 f13 z13 y13 Nf13 Nz13 Ny13 lb13 B13 b14
          have H1 := Lib.hid (HSS.out w14 As Ab cs cbb ls14 cp1 cp2 lb14 HCP.out.1 HCP.out.2)
          clear HSS ls14 lb14 cp1 cp2
          go_wp2_with fail
          refine H1.out.mono ?_
          rintro e w15 ⟨rfl, b15⟩
          clear H1
          have B15 := B14.trans (b15.mono B14.size)
          have x15 := x14.below b15 x14.lt
          have u15 := u14.below b15 u14.lt
          have f15 := f14.below b15 f14.lt
          have z15 := z14.below b15 z14.lt
          have y15 := y14.below b15 y14.lt
          have Nf15 := Nf14.on b15
          have Nz15 := Nz14.on b15
          have Ny15 := Ny14.on b15
          clear x14 u14 f14 z14 y14 Nf14 Nz14 Ny14 B14 b15
          go_upto_region 10 with fail
          have H1 := Lib.hid (HZZ.out w15)
          obtain ⟨up0, up1, up2⟩ := wh318 u15
          go_wp2_with fail
          refine H1.out.mono ?_
          rintro e w16 ⟨rfl, b16⟩
          clear H1
          clear up0 up1 up2
          have B16 := B15.trans (b16.mono B15.size)
          have x16 := x15.below b16 x15.lt
          have u16 := u15.below b16 u15.lt
          have f16 := f15.below b16 f15.lt
          have z16 := z15.below b16 z15.lt
          have y16 := y15.below b16 y15.lt
          have Nf16 := Nf15.on b16
          have Nz16 := Nz15.on b16
          have Ny16 := Ny15.on b16
          clear x15 u15 f15 z15 y15 Nf15 Nz15 Ny15 B15 b16
          have H1 := Lib.hid (HSF.out w16 _ _ _ _ _ _ _ _ Nf16 Ny16)
          obtain ⟨fp0, fp1, fp2⟩ := wh318 f16
          obtain ⟨yp0, yp1, yp2⟩ := wh318 y16
          go_wp2_with fail
          refine H1.out.mono ?_
          rintro e w17 ⟨rfl, b17⟩
          clear H1
          clear fp0 fp1 fp2 yp0 yp1 yp2
          have B17 := B16.trans (b17.mono B16.size)
          have x17 := x16.below b17 x16.lt
          have u17 := u16.below b17 u16.lt
          have f17 := f16.below b17 f16.lt
          have z17 := z16.below b17 z16.lt
          have y17 := y16.below b17 y16.lt
          have Nf17 := Nf16.on b17
          have Nz17 := Nz16.on b17
          have Ny17 := Ny16.on b17
          clear x16 u16 f16 z16 y16 Nf16 Nz16 Ny16 B16 b17
          have HBF := Lib.hid B17
          clear B17
          go_wp2_with fail
          go_ret
          exact ⟨rfl, HBF.out⟩
        · go_upto_region 6 with fail
          have b8 : Below w7.heap.size w7 (w7.alloc (.cells #[.int .u16 0, .slice none 0 0, .slice none 0 0] 51)) := (Below.refl _ w7).alloc (Nat.le_refl _) _
          have f8 := Whole.new w7 51 #[.int .u16 0, .slice none 0 0, .slice none 0 0]
          have B8 := B7.trans (b8.mono B7.size)
          have x8 := x7.below b8 x7.lt
          have u8 := u7.below b8 u7.lt
          have lb8 := (lb7.below b8).more b8.size
          clear x7 u7 lb7 B7 b8
          generalize w7.alloc (.cells #[.int .u16 0, .slice none 0 0, .slice none 0 0] 51) = w8 at *
          generalize w7.heap.size = gf at *
          have b9 : Below w8.heap.size w8 (w8.alloc (.cells #[hv ta, .slice A la c, .slice K lka k] 51)) := (Below.refl _ w8).alloc (Nat.le_refl _) _
          have k9 := Whole.new w8 51 #[hv ta, .slice A la c, .slice K lka k]
          obtain ⟨xp0, xp1, xp2⟩ := wh318 x8
          go_upto_region 7 with fail
          clear xp0 xp1 xp2
          have B9 := B8.trans (b9.mono B8.size)
          have x9 := x8.below b9 x8.lt
          have u9 := u8.below b9 u8.lt
          have f9 := f8.below b9 f8.lt
          have lb9 := (lb8.below b9).more b9.size
          clear x8 u8 f8 lb8 B8 b9
          have HSZ : Hid ((w8.alloc (.cells #[hv ta, .slice A la c, .slice K lka k] 51)).heap.size = w8.heap.size + 1) := Lib.hid (World.size_alloc _ _)
          generalize w8.alloc (.cells #[hv ta, .slice A la c, .slice K lka k] 51) = w9 at *
          generalize hgk : w8.heap.size = gk at *
          clear hgk
          have Nz9 := HN1.out w9 Ab cbb gk B9 lb9 HCP.out.1 HCP.out.2 k9
          clear k9 HN1
          have b10 : Below w9.heap.size w9 (w9.alloc (.cells #[hv t, .slice Ab 4 cbb, .slice (some ⟨gk, 0, none⟩) 1 1] 51)) := (Below.refl _ w9).alloc (Nat.le_refl _) _
          have z10 := Whole.new w9 51 #[hv t, .slice Ab 4 cbb, .slice (some ⟨gk, 0, none⟩) 1 1]
          rw [HSZ.out] at z10
          have B10 := B9.trans (b10.mono B9.size)
          have x10 := x9.below b10 x9.lt
          have u10 := u9.below b10 u9.lt
          have f10 := f9.below b10 f9.lt
          have Nz10 := Nz9.on b10
          have lb10 := (lb9.below b10).more b10.size
          clear x9 u9 f9 Nz9 lb9 B9 b10
          generalize w9.alloc (.cells #[hv t, .slice Ab 4 cbb, .slice (some ⟨gk, 0, none⟩) 1 1] 51) = w10 at *
          go_upto_region 8 with fail
          have Ny10 := HNL.out w10 Ab cbb B10 lb10 HCP.out.1 HCP.out.2
          clear HNL
          have b11 : Below w10.heap.size w10 (w10.alloc (.cells #[.int .u16 49155, .slice Ab 4 cbb, .slice L ll m] 51)) := (Below.refl _ w10).alloc (Nat.le_refl _) _
          have y11 := Whole.new w10 51 #[.int .u16 49155, .slice Ab 4 cbb, .slice L ll m]
          have B11 := B10.trans (b11.mono B10.size)
          have x11 := x10.below b11 x10.lt
          have u11 := u10.below b11 u10.lt
          have f11 := f10.below b11 f10.lt
          have z11 := z10.below b11 z10.lt
          have Nz11 := Nz10.on b11
          have Ny11 := Ny10.on b11
          have lb11 := (lb10.below b11).more b11.size
          clear x10 u10 f10 z10 Nz10 Ny10 lb10 B10 b11
          generalize w10.alloc (.cells #[.int .u16 49155, .slice Ab 4 cbb, .slice L ll m] 51) = w11 at *
          generalize w10.heap.size = gy at *
          have H1 := Lib.hid (HRC.out (by trivial) w11 Ab cbb gk Nz11)
          clear HRC
          obtain ⟨zp0, zp1, zp2⟩ := wh318 z11
          go_wp2_with fail
          refine H1.out.mono ?_
          rintro e w12 ⟨rfl, b12⟩
          clear H1
          clear zp0 zp1 zp2
          have B12 := B11.trans (b12.mono B11.size)
          have x12 := x11.below b12 x11.lt
          have u12 := u11.below b12 u11.lt
          have f12 := f11.below b12 f11.lt
          have z12 := z11.below b12 z11.lt
          have y12 := y11.below b12 y11.lt
          have Nz12 := Nz11.on b12
          have Ny12 := Ny11.on b12
          have lb12 := (lb11.below b12).more b12.size
          clear x11 u11 f11 z11 y11 Nz11 Ny11 lb11 B11 b12
          have H1 := Lib.hid (HRB.out (by trivial) w12 Ab cbb Ny12)
          clear HRB
          obtain ⟨yp0, yp1, yp2⟩ := wh318 y12
          go_wp2_with fail
          refine H1.out.mono ?_
          rintro e w13 ⟨rfl, b13⟩
          clear H1
          clear yp0 yp1 yp2
          have B13 := B12.trans (b13.mono B12.size)
          have x13 := x12.below b13 x12.lt
          have u13 := u12.below b13 u12.lt
          have f13 := f12.below b13 f12.lt
          have z13 := z12.below b13 z12.lt
          have y13 := y12.below b13 y12.lt
          have Nz13 := Nz12.on b13
          have Ny13 := Ny12.on b13
          have lb13 := (lb12.below b13).more b13.size
          clear x12 u12 f12 z12 y12 Nz12 Ny12 lb12 B12 b13
          have H1 := Lib.hid (suc18_any id w13)
          go_wp2_with fail
          refine H1.out.mono ?_
          rintro e w14 ⟨As, cs, rfl, b14, o14⟩
          clear H1
          have ls14 : Lies w14 w14.heap.size As ((be 4 id).map bv) := Lies.own o14
          obtain ⟨_, cp1, cp2⟩ := own_cap o14
          clear o14
          have B14 := B13.trans (b14.mono B13.size)
          have x14 := x13.below b14 x13.lt
          have u14 := u13.below b14 u13.lt
          have f14 := f13.below b14 f13.lt
          have z14 := z13.below b14 z13.lt
          have y14 := y13.below b14 y13.lt
          have Nz14 := Nz13.on b14
          have Ny14 := Ny13.on b14
          have lb14 := (lb13.below b14).more b14.size
          clear x13 u13 f13 z13 y13 Nz13 Ny13 lb13 B13 b14
          have H1 := Lib.hid (HSS.out w14 As Ab cs cbb ls14 cp1 cp2 lb14 HCP.out.1 HCP.out.2)
          clear HSS ls14 lb14 cp1 cp2
          go_wp2_with fail
          refine H1.out.mono ?_
          rintro e w15 ⟨rfl, b15⟩
          clear H1
          have B15 := B14.trans (b15.mono B14.size)
          have x15 := x14.below b15 x14.lt
          have u15 := u14.below b15 u14.lt
          have f15 := f14.below b15 f14.lt
          have z15 := z14.below b15 z14.lt
          have y15 := y14.below b15 y14.lt
          have Nz15 := Nz14.on b15
          have Ny15 := Ny14.on b15
          clear x14 u14 f14 z14 y14 Nz14 Ny14 B14 b15
          go_upto_region 10 with fail
          have H1 := Lib.hid (HZZ.out w15)
          obtain ⟨up0, up1, up2⟩ := wh318 u15
          go_wp2_with fail
          refine H1.out.mono ?_
          rintro e w16 ⟨rfl, b16⟩
          clear H1
          clear up0 up1 up2
          have B16 := B15.trans (b16.mono B15.size)
          have x16 := x15.below b16 x15.lt
          have u16 := u15.below b16 u15.lt
          have f16 := f15.below b16 f15.lt
          have z16 := z15.below b16 z15.lt
          have y16 := y15.below b16 y15.lt
          have Nz16 := Nz15.on b16
          have Ny16 := Ny15.on b16
          clear x15 u15 f15 z15 y15 Nz15 Ny15 B15 b16
          have H1 := Lib.hid (HZZ.out w16)
          obtain ⟨fp0, fp1, fp2⟩ := wh318 f16
          go_wp2_with fail
          refine H1.out.mono ?_
          rintro e w17 ⟨rfl, b17⟩
          clear H1
          clear fp0 fp1 fp2
          have B17 := B16.trans (b17.mono B16.size)
          have x17 := x16.below b17 x16.lt
          have u17 := u16.below b17 u16.lt
          have f17 := f16.below b17 f16.lt
          have z17 := z16.below b17 z16.lt
          have y17 := y16.below b17 y16.lt
          have Nz17 := Nz16.on b17
          have Ny17 := Ny16.on b17
          clear x16 u16 f16 z16 y16 Nz16 Ny16 B16 b17
          have HBF := Lib.hid B17
          clear B17
          go_wp2_with fail
          go_ret
          exact ⟨rfl, HBF.out⟩
set_option maxRecDepth 100000 in
theorem law_AsconfMatchesReference {H : Type} {enc : TypeId × Value → H} {W : World} {base : Nat} {v0 v1 v2 v3 : Value} {d0 d1 d2 d3 : DataW H} {p0 p1 p2 p3 : List MemPlace}
    (o0 : Value.okWide Tryz.prog W .any base 37 v0) (h0 : DataW.Trod enc Tryz.prog W 0 (fun _ => true) true 37 v0 d0 p0) (_s0 : Small Tryz.prog 37 d0)
    (o1 : Value.okWide Tryz.prog W .any base 22 v1) (h1 : DataW.Trod enc Tryz.prog W 0 (fun _ => true) true 22 v1 d1 p1) (_s1 : Small Tryz.prog 22 d1)
    (o2 : Value.okWide Tryz.prog W .any base 51 v2) (h2 : DataW.Trod enc Tryz.prog W 0 (fun _ => true) true 51 v2 d2 p2) (s2 : Small Tryz.prog 51 d2)
    (o3 : Value.okWide Tryz.prog W .any base 49 v3) (h3 : DataW.Trod enc Tryz.prog W 0 (fun _ => true) true 49 v3 d3 p3) (s3 : Small Tryz.prog 49 d3) (hL : laidMetH Tryz.prog laid18 W) :
    Calls Tryz.prog 6 #[v0, v1, v2, v3] W fun e w' => e = .returned (.bool true) ∧ Below W.heap.size W w' := by
  obtain ⟨z0, rfl, _, _, wz0⟩ := open_int Tryz.underlying37 o0 h0
  obtain ⟨z1, rfl, _, _, wz1⟩ := open_int Tryz.underlying22 o1 h1
  rw [hv17 (wf_u16 wz0), uv17 (wf_u32 wz1)]
  obtain ⟨a, A, c, K, k, rfl, ha, ba⟩ := open_node o2 h2 s2
  obtain ⟨L, m, l, rfl, g2, g3, g4, g5⟩ := open_nodes o3 h3 s3
  exact match_law18 _ _ a l ba g5 (by unfold maxLen at g4; omega) A c K k L m W ha g2 g3 g4 (handle_of18 hL) (tbl_of18 hL)
end Go.Proofs.YteknmgmdmjmnmaaGreatDoor


