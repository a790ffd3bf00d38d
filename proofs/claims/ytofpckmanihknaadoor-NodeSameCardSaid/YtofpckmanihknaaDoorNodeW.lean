/- Layer 8: the law NodeSame, for whatever two nodes. It writes nothing that was there. -/
import Derived.Test.YtofpckmanihknaaDoorNodeV
import Derived.Test.YtofpckmanihknaaDoorNodeS
import Derived.Test.YtofpckmanihknaaDoorOpenN
import Derived.Deep.RegionHeld3
namespace Go.Proofs.YtofpckmanihknaaDoor
open Go.ChangeShapes Go.WideShapes Go.ChangeAt Go.RowKit

/-- a node that lies in a block is a list of its own -/
theorem list1_of {V : World} {g : Nat} {n : Nd} {A K : Option Addr} {c k : Nat} (h : Whole V g 27 #[hv n.t, .slice A n.v.length c, .slice K n.ks.length k]) (hN : Node V V.heap.size A c K k n) : Nodes V V.heap.size (some ⟨g, 0, none⟩) [n] := by
  refine .mk [hv n.t, .slice A n.v.length c, .slice K n.ks.length k] (fun _ => K) (fun _ => k) (fun _ => ⟨_, rfl, h.lt, fun j x hx => ?_⟩) rfl (fun i m hm => ?_) (fun i m hm => ?_)
  · rw [add_row, h.cell]
    simpa using hx
  · match i, hm with
    | 0, hm => simp only [List.getElem?_cons_zero, Option.some.injEq] at hm; subst hm; exact ⟨rfl, ⟨_, rfl, A, c, rfl, hN.data, hN.dc, hN.dm⟩, rfl, hN.kc, hN.km⟩
    | i + 1, hm => simp at hm
  · match i, hm with
    | 0, hm => simp only [List.getElem?_cons_zero, Option.some.injEq] at hm; subst hm; exact hN.kids
    | i + 1, hm => simp at hm
theorem wnew1 (w : World) (o : Obj) (t : TypeId) (cs : Array Value) : Whole ((w.alloc o).alloc (.cells cs t)) (w.heap.size + 1) t cs := by
  have := Whole.new (w.alloc o) t cs
  rw [World.size_alloc] at this
  exact this
theorem few_one (n : Nd) (A : Option Addr) (c : Nat) (K : Option Addr) (k : Nat) (w : World) (h : Node w w.heap.size A c K k n) (hb : Bnd n) :
    Calls Tryd.prog 17 #[.slice (some ⟨w.heap.size, 0, none⟩) 1 1] (w.alloc (.cells #[hv n.t, .slice A n.v.length c, .slice K n.ks.length k] 27)) fun e w' => e = .returned (.bool (decide (cnt 21 [n] ≤ 200))) ∧ Below w.heap.size w w' := by
  have hal : Below w.heap.size w (w.alloc (.cells #[hv n.t, .slice A n.v.length c, .slice K n.ks.length k] 27)) := (Below.refl _ w).alloc (Nat.le_refl _) _
  refine (few_any (some ⟨w.heap.size, 0, none⟩) 1 [n] _ ((h.list1 27).more (by simp)) (by simp) (by intro m hm; rw [List.mem_singleton.1 hm]; exact hb)).mono ?_
  rintro e w1 ⟨rfl, b1⟩
  exact ⟨rfl, hal.trans (b1.mono hal.size)⟩
theorem few1_of {n : Nd} (h : cnt 21 [n] ≤ 200) : Few1 n := (few_of 21 [n] h).2 n (by simp)
set_option maxRecDepth 100000 in
set_option maxHeartbeats 8000000 in
theorem nsame_law (a b : Nd) (A : Option Addr) (c : Nat) (K : Option Addr) (k : Nat) (A' : Option Addr) (c' : Nat) (K' : Option Addr) (k' : Nat) (w : World) (ha : Node w w.heap.size A c K k a) (hb : Node w w.heap.size A' c' K' k' b) (fa : Bnd a) (fb : Bnd b) (hh : Handle w) :
    Calls Tryd.prog 5 #[ndV a A c K k, ndV b A' c' K' k'] w fun e w' => e = .returned (.bool true) ∧ Below w.heap.size w w' := by
  unfold ndV
  have b0 : Below w.heap.size w ((w.alloc (.cells #[hv a.t, .slice A a.v.length c, .slice K a.ks.length k] 27)).alloc (.cells #[hv b.t, .slice A' b.v.length c', .slice K' b.ks.length k'] 27)) :=
    ((Below.refl _ _).alloc (Nat.le_refl _) _).alloc (by simp) _
  have x0 : NdBox _ w.heap.size a A c K k := (Whole.new w 27 #[hv a.t, .slice A a.v.length c, .slice K a.ks.length k]).alloc (.cells #[hv b.t, .slice A' b.v.length c', .slice K' b.ks.length k'] 27)
  have x1 : NdBox _ (w.heap.size + 1) b A' c' K' k' := wnew1 w (.cells #[hv a.t, .slice A a.v.length c, .slice K a.ks.length k] 27) 27 #[hv b.t, .slice A' b.v.length c', .slice K' b.ks.length k']
  have HFA := Lib.hid fa
  have HFB := Lib.hid fb
  have hN0 := ha.on b0
  have hM0 := hb.on b0
  have HH := Lib.hid (hh.below b0 hh.lt)
  have HB := Lib.hid b0
  clear fa fb ha hb hh
  go_enter Tryd.func5, Tryd.ntmps5
  go_wp2_with fail
  generalize (w.alloc (.cells #[hv a.t, .slice A a.v.length c, .slice K a.ks.length k] 27)).alloc (.cells #[hv b.t, .slice A' b.v.length c', .slice K' b.ks.length k'] 27) = w0 at *
  clear b0
  refine (awake_any w0 HH.out).mono ?_
  rintro e w1 ⟨rfl, b1⟩
  have y0 := x0.below b1
  have y1 := x1.below b1
  have y00 := y0.c0
  have y01 := y0.c1
  have y02 := y0.c2
  have y10 := y1.c0
  have y11 := y1.c1
  have y12 := y1.c2
  have hF1 := few_one a A c K k w1 (hN0.on b1) HFA.out
  cases hca : decide (cnt 21 [a] ≤ 200) with
  | false =>
    rw [hca] at hF1
    clear hca
    go_wp2_with fail
    refine hF1.mono ?_
    rintro e w2 ⟨rfl, b2⟩
    have B2 := HB.out.trans ((b1.trans (b2.mono b1.size)).mono HB.out.size)
    have H2 := HH.out.below (b1.trans (b2.mono b1.size)) HH.out.lt
    go_wp2_with fail
    refine (awake_any w2 H2).mono ?_
    rintro e w3 ⟨rfl, b3⟩
    go_wp2_with fail
    go_ret
    exact ⟨rfl, B2.trans (b3.mono B2.size)⟩
  | true =>
    have HCA := Lib.hid (few1_of (of_decide_eq_true hca))
    rw [hca] at hF1
    clear hca
    go_wp2_with fail
    refine hF1.mono ?_
    rintro e w2 ⟨rfl, b2⟩
    have b02 := b1.trans (b2.mono b1.size)
    have z0 := y0.below b2
    have z1 := y1.below b2
    have z00 := z0.c0
    have z01 := z0.c1
    have z02 := z0.c2
    have z10 := z1.c0
    have z11 := z1.c1
    have z12 := z1.c2
    have hF2 := few_one b A' c' K' k' w2 (hM0.on b02) HFB.out
    clear hF1 y0 y1 y00 y01 y02 y10 y11 y12 x0 x1
    cases hcb : decide (cnt 21 [b] ≤ 200) with
    | false =>
      rw [hcb] at hF2
      clear hcb
      go_wp2_with fail
      refine hF2.mono ?_
      rintro e w3 ⟨rfl, b3⟩
      have b03 := b02.trans (b3.mono b02.size)
      have B3 := HB.out.trans (b03.mono HB.out.size)
      have H3 := HH.out.below b03 HH.out.lt
      go_wp2_with fail
      refine (awake_any w3 H3).mono ?_
      rintro e w4 ⟨rfl, b4⟩
      go_wp2_with fail
      go_ret
      exact ⟨rfl, B3.trans (b4.mono B3.size)⟩
    | true =>
      have HCB := Lib.hid (few1_of (of_decide_eq_true hcb))
      rw [hcb] at hF2
      clear hcb
      go_wp2_with fail
      refine hF2.mono ?_
      rintro e w4 ⟨rfl, b4⟩
      have b04 := b02.trans (b4.mono b02.size)
      have B4 := HB.out.trans (b04.mono HB.out.size)
      have hN4 := hN0.on b04
      have hM4 := hM0.on b04
      have u0 := z0.below b4
      have u1 := z1.below b4
      have KS : Hid (∀ V, Below w4.heap.size w4 V → V.cell? ⟨w.heap.size, 0, none⟩ = some (hv a.t) ∧ V.cell? ⟨w.heap.size, 1, none⟩ = some (.slice A a.v.length c) ∧ V.cell? ⟨w.heap.size, 2, none⟩ = some (.slice K a.ks.length k) ∧
          V.cell? ⟨w.heap.size + 1, 0, none⟩ = some (hv b.t) ∧ V.cell? ⟨w.heap.size + 1, 1, none⟩ = some (.slice A' b.v.length c') ∧ V.cell? ⟨w.heap.size + 1, 2, none⟩ = some (.slice K' b.ks.length k')) := fun V hV =>
        ⟨(u0.below hV).c0, (u0.below hV).c1, (u0.below hV).c2, (u1.below hV).c0, (u1.below hV).c1, (u1.below hV).c2⟩
      have HN : Hid (∀ V, Below w4.heap.size w4 V → Calls Tryd.prog 18 #[.agg #[hv a.t, .slice A a.v.length c, .slice K a.ks.length k], .agg #[hv b.t, .slice A' b.v.length c', .slice K' b.ks.length k']] V fun e w' => e = .returned (.bool (a.beq b)) ∧ Below w4.heap.size w4 w' ∧ Below V.heap.size V w') := fun V hV =>
        (nsame_any a b HCA.out A c K k A' c' K' k' V (hN4.on hV) (hM4.on hV)).mono fun e w' h => ⟨h.1, hV.trans (h.2.mono hV.size), h.2⟩
      have HM : Hid (∀ V, Below w4.heap.size w4 V → Calls Tryd.prog 18 #[.agg #[hv a.t, .slice A a.v.length c, .slice K a.ks.length k], .agg #[hv a.t, .slice A a.v.length c, .slice K a.ks.length k]] V fun e w' => e = .returned (.bool true) ∧ Below w4.heap.size w4 w') := fun V hV => by
        refine (nsame_any a a HCA.out A c K k A c K k V (hN4.on hV) (hN4.on hV)).mono fun e w' h => ⟨?_, hV.trans (h.2.mono hV.size)⟩
        rw [h.1, (Nd.beq_eq a a).2 rfl]
      have HR : Hid (∀ V g1 g2, Below w4.heap.size w4 V → Whole V g1 27 #[hv a.t, .slice A a.v.length c, .slice K a.ks.length k] → Whole V g2 27 #[hv b.t, .slice A' b.v.length c', .slice K' b.ks.length k'] →
          Calls Tryd.prog 19 #[.slice (some ⟨g1, 0, none⟩) 1 1, .slice (some ⟨g2, 0, none⟩) 1 1] V fun e w' => e = .returned (.bool (a.beq b)) ∧ Below w4.heap.size w4 w') := fun V g1 g2 hV q1 q2 => by
        refine (rsame_any [a] [b] (some ⟨g1, 0, none⟩) (some ⟨g2, 0, none⟩) 1 1 V (list1_of q1 (hN4.on hV)) (list1_of q2 (hM4.on hV)) (by simp) (by simp)).mono fun e w' h => ⟨?_, hV.trans (h.2.mono hV.size)⟩
        rw [h.1]
        simp [beqL]
      obtain ⟨s0, s1, s2, s3, s4, s5⟩ := KS.out w4 (Below.refl _ _)
      have HB4 := Lib.hid B4
      clear hF2 z0 z1 z00 z01 z02 z10 z11 z12 u0 u1 hN4 hM4 hN0 hM0 HCA HCB HFA HFB HH HB b1 b2 b02 b4 b04 B4
      generalize a.beq b = r at *
      cases r
      all_goals
        go_wp2_with fail
        go_region_held3 (fun V => V.cell? ⟨w.heap.size, 0, none⟩ = some (hv a.t) ∧ V.cell? ⟨w.heap.size, 1, none⟩ = some (.slice A a.v.length c) ∧ V.cell? ⟨w.heap.size, 2, none⟩ = some (.slice K a.ks.length k) ∧
            V.cell? ⟨w.heap.size + 1, 0, none⟩ = some (hv b.t) ∧ V.cell? ⟨w.heap.size + 1, 1, none⟩ = some (.slice A' b.v.length c') ∧ V.cell? ⟨w.heap.size + 1, 2, none⟩ = some (.slice K' b.ks.length k'))
          (first | exact KS.out _ (below_drew (Below.refl _ _)) | exact KS.out _ (below_drew ((Below.refl _ _).alloc (Nat.le_refl _) _)) | exact KS.out _ (below_drew (((Below.refl _ _).alloc (Nat.le_refl _) _).alloc (by simp) _)) | exact KS.out _ (R5) | exact KS.out _ (R5.alloc R5.size _) | exact KS.out _ ((R5.alloc R5.size _).alloc (by have := R5.size; simp; omega) _) | exact KS.out _ (R6) | exact KS.out _ (R7) | fail)
          (first
          | (go_at_call 18; (with_reducible refine (HN.out _ (by first | exact below_drew (Below.refl _ _) | exact below_drew ((Below.refl _ _).alloc (Nat.le_refl _) _) | exact below_drew (((Below.refl _ _).alloc (Nat.le_refl _) _).alloc (by simp) _) | fail)).mono ?_); rintro e w5 ⟨rfl, R5, b5⟩)
          | (go_at_call 19; (with_reducible refine (HR.out _ _ _ (by first | exact R5 | exact R5.alloc R5.size _ | exact (R5.alloc R5.size _).alloc (by have := R5.size; simp; omega) _ | fail) (by first | exact Whole.new _ _ _ | exact (Whole.new _ _ _).alloc _ | exact wnew1 _ _ _ _ | exact (Whole.drew (Whole.new _ _ _)).below b5 (by simp) | exact ((Whole.drew (Whole.new _ _ _)).below b5 (by simp)).alloc _ | exact (Whole.drew ((Whole.new _ _ _).alloc _)).below b5 (by simp <;> omega) | exact (Whole.drew (wnew1 _ _ _ _)).below b5 (by simp) | fail) (by first | exact Whole.new _ _ _ | exact (Whole.new _ _ _).alloc _ | exact wnew1 _ _ _ _ | exact (Whole.drew (Whole.new _ _ _)).below b5 (by simp) | exact ((Whole.drew (Whole.new _ _ _)).below b5 (by simp)).alloc _ | exact (Whole.drew ((Whole.new _ _ _).alloc _)).below b5 (by simp <;> omega) | exact (Whole.drew (wnew1 _ _ _ _)).below b5 (by simp) | fail)).mono ?_); rintro e w6 ⟨rfl, R6⟩)
          | (go_at_call 18; (with_reducible refine (HM.out _ R6).mono ?_); rintro e w7 ⟨rfl, R7⟩)
          | fail)
        all_goals
          go_wp2_with fail
          go_ret
          exact ⟨rfl, HB4.out.trans (R7.mono HB4.out.size)⟩
set_option maxRecDepth 100000 in
theorem law_NodeSame {H : Type} {enc : TypeId × Value → H} {W : World} {base : Nat} {v0 v1 : Value} {d0 d1 : DataW H} {p0 p1 : List MemPlace}
    (o0 : Value.okWide Tryd.prog W .any base 27 v0) (h0 : DataW.Trod enc Tryd.prog W 0 (fun _ => true) true 27 v0 d0 p0) (s0 : Small Tryd.prog 27 d0)
    (o1 : Value.okWide Tryd.prog W .any base 27 v1) (h1 : DataW.Trod enc Tryd.prog W 0 (fun _ => true) true 27 v1 d1 p1) (s1 : Small Tryd.prog 27 d1) (hL : laidMetH Tryd.prog laidL W) :
    Calls Tryd.prog 5 #[v0, v1] W fun e w' => e = .returned (.bool true) ∧ Below W.heap.size W w' := by
  obtain ⟨a, A, c, K, k, rfl, hN, hB⟩ := open_node o0 h0 s0
  obtain ⟨b, A', c', K', k', rfl, hN', hB'⟩ := open_node o1 h1 s1
  exact nsame_law a b A c K k A' c' K' k' W hN hN' hB hB' (handle_of_laid hL)
end Go.Proofs.YtofpckmanihknaaDoor
