/- Layer 15: the law InitialChunks (written by tools/gen_init_r.py). It writes nothing that was there. -/
import Derived.Test.YtdcppcoldaaldaaGreatDoorQInitH
import Derived.Test.YtdcppcoldaaldaaGreatDoorQCT
import Derived.Test.YtdcppcoldaaldaaGreatDoorQCO
import Derived.Test.YtdcppcoldaaldaaGreatDoorQCX
import Derived.Test.YtdcppcoldaaldaaGreatDoorQCL
import Derived.Test.YtdcppcoldaaldaaGreatDoorQNW
import Derived.Test.YtdcppcoldaaldaaGreatDoorQNF
import Derived.Test.YtdcppcoldaaldaaGreatDoorQNS
import Derived.Test.YtdcppcoldaaldaaGreatDoorQNodeUO
import Derived.BigGuard
import Derived.Deep.RegionHeld3











namespace Go.Proofs.YtdcppcoldaaldaaGreatDoor
open Go.ChangeShapes Go.WideShapes Go.ChangeAt Go.RowKit

set_option linter.unusedSimpArgs false
theorem rsameI (l : List Nd) (A A' : Option Addr) (c c' : Nat) (w : World) (h1 : Nodes w w.heap.size A l) (h2 : Nodes w w.heap.size A' l) (hl : l.length ≤ 9223372036854775807) :
    Calls Tryz.prog 48 #[.slice A l.length c, .slice A' l.length c'] w fun e w' => e = .returned (.bool true) ∧ Below w.heap.size w w' := by
  have h9 := rsame_any l l A A' c c' w h1 h2 hl hl
  have hb : beqL l l = true := beqL_true rfl
  rw [hb] at h9
  exact h9
set_option maxRecDepth 100000 in
set_option maxHeartbeats 16000000 in
theorem ich_law (x : Ck) (hk : x.ks.length ≤ 9223372036854775807) (hb : ∀ n ∈ x.ks, Bnd n) (A : Option Addr) (c : Nat) (K : Option Addr) (k : Nat) (w : World) (h : Chunk w w.heap.size A c K k x) (hh : Handle w) :
    Calls Tryz.prog 11 #[ckV x A c K k] w fun e w' => e = .returned (.bool true) ∧ Below w.heap.size w w' := by
  have b0 : Below w.heap.size w (w.alloc (.cells (ckCells x A c K k) 31)) := (Below.refl _ w).alloc (Nat.le_refl _) _
  have x0 := CkBox.new w x A c K k
  have hx0 := h.on b0
  have H0 := hh.below b0 hh.lt
  have hF := rfew12 x hk hb A c K k
  have HH := Lib.hid hh
  have HK := Lib.hid hk
  clear hk hb h hh
  go_enter Tryz.func11, Tryz.ntmps11
  go_wp2_with fail
  generalize w.alloc (.cells (ckCells x A c K k) 31) = w0 at *
  refine (awake15_any w0 H0).mono ?_
  rintro e w1 ⟨rfl, b1⟩
  have B1 := b0.trans (b1.mono b0.size)
  have x1 := x0.below b1
  have hx1 := hx0.on b1
  have hF1 := hF w1 hx1
  obtain ⟨q0, q1, q2, q3⟩ := x1.cs
  cases hf : fewB x with
  | false =>
    rw [hf] at hF1
    clear hf hF
    go_wp2_with fail
    refine hF1.mono ?_
    rintro e w2 ⟨rfl, b2⟩
    have B2 := B1.trans (b2.mono B1.size)
    go_wp2_with fail
    refine (awake15_any w2 (HH.out.below B2 HH.out.lt)).mono ?_
    rintro e w3 ⟨rfl, b3⟩
    go_wp2_with fail
    go_ret
    exact ⟨rfl, B2.trans (b3.mono B2.size)⟩
  | true =>
    obtain ⟨hfine, hd7, hk2, hsz⟩ := ck_fine hf
    rw [hf] at hF1
    clear hf hF
    go_wp2_with fail
    refine hF1.mono ?_
    rintro e w2 ⟨rfl, b2⟩
    have B2 := B1.trans (b2.mono B1.size)
    have x2 := x1.below b2
    have hx2 := hx1.on b2
    clear q0 q1 q2 q3 hF1 x0 x1 hx0 hx1 H0
    obtain ⟨q0, q1, q2, q3⟩ := x2.cs
    have H1 := iof_any x hfine A c K k w2 hx2 (HH.out.below B2 HH.out.lt)
    have H2 : Hid (∀ V, Below w2.heap.size w2 V → Calls Tryz.prog 49 #[ckV x A c K k] V fun e w' => e = .returned (.bool (isI x)) ∧ Below V.heap.size V w') := Lib.hid (fun V hV => rIs_any x hfine A c K k V (hx2.on hV))
    have HT : Hid (isI x = true → ofVl x = vlOf x.d ∧ ofK x = x.ks ∧ x.d.length = 16) := Lib.hid (fun hi => ⟨by unfold ofVl; rw [if_pos hi], by unfold ofK; rw [if_pos hi], (isI_parts hi).2.2.1⟩)
    have HF : Hid (isI x = false → ofVl x = vl0 ∧ ofK x = []) := Lib.hid (fun hi => ⟨by unfold ofVl; rw [hi]; rfl, by unfold ofK; rw [hi]; rfl⟩)
    have HX2 := Lib.hid hx2
    have HB2 := Lib.hid B2
    have hs2 := x2.lt
    have hks : x.ks.length ≤ 9223372036854775807 := HK.out
    have HKs := Lib.hid hks
    unfold OfIR at H1
    clear hfine hd7 hk2 hsz HK hx2 HH B2 b0 b1 b2 B1 hks
    generalize isI x = ib at *
    generalize ofVl x = vv at *
    generalize ofK x = lk at *
    obtain ⟨t, fl, d, ks⟩ := x
    simp only [ckV, ckCells] at *
    have KC : Hid (∀ W, Below w2.heap.size w2 W → W.cell? ⟨w.heap.size, 0, none⟩ = some (bv t) ∧ W.cell? ⟨w.heap.size, 1, none⟩ = some (bv fl) ∧ W.cell? ⟨w.heap.size, 2, none⟩ = some (.slice A d.length c) ∧ W.cell? ⟨w.heap.size, 3, none⟩ = some (.slice K ks.length k)) := fun W hW => CkBox.cs (x := ⟨t, fl, d, ks⟩) (CkBox.below x2 hW)
    clear x2
    cases ib with
    | false =>
      obtain ⟨e1, e2⟩ := HF.out rfl
      subst e1
      subst e2
      clear HT HF HX2 HKs
      have e9 : vlV vl0 = .agg #[.int .u32 0, .int .u32 0, .int .u16 0, .int .u16 0, .int .u32 0] := rfl
      rw [e9] at H1
      clear e9
      go_wp2_with fail
      refine H1.mono ?_
      rintro e w3 ⟨b3, A3, c3, rfl, -, -, -⟩
      clear q0 q1 q2 q3 H1
      go_upto_region 4 with fail
      have v4 : Below w3.heap.size w3 (w3.alloc (.cells #[.int .u32 0, .int .u32 0, .int .u16 0, .int .u16 0, .int .u32 0] 80)) := (Below.refl _ _).alloc (Nat.le_refl _) _
      have y4 := Whole.new w3 80 #[.int .u32 0, .int .u32 0, .int .u16 0, .int .u16 0, .int .u32 0]
      have B4 := b3.trans (v4.mono b3.size)
      generalize w3.alloc (.cells #[.int .u32 0, .int .u32 0, .int .u16 0, .int .u16 0, .int .u32 0] 80) = w4 at *
      generalize w3.heap.size = g4 at *
      obtain ⟨q0, q1, q2, q3⟩ := KC.out w4 B4
      have hI := H2.out w4 B4
      go_wp2_with fail
      refine hI.mono ?_
      rintro e w5 ⟨rfl, b5⟩
      have y5 := y4.below b5 y4.lt
      obtain ⟨u0, u1, u2, u3, u4⟩ := y5.cs5
      have EQ : ∀ W : World, (Op.equalIn 10000 80 (.agg #[.int .u32 0, .int .u32 0, .int .u16 0, .int .u16 0, .int .u32 0]) (.agg #[.int .u32 0, .int .u32 0, .int .u16 0, .int .u16 0, .int .u32 0])).run Tryz.prog W = .ok true W := fun W => by
        have h9 := eq_vals vl0 vl0 W
        rw [vlEq_self] at h9
        exact h9
      clear q0 q1 q2 q3 y4 hI
      go_wp2_with fail
      go_ret
      exact ⟨rfl, HB2.out.trans ((B4.trans (b5.mono B4.size)).mono HB2.out.size)⟩
    | true =>
      obtain ⟨e1', e2', hl16⟩ := HT.out rfl
      have e1 := e1'.symm
      have e2 := e2'.symm
      clear e1' e2' HT HF
      subst e2
      have EQ0 := eq_valsR vv vv
      rw [vlEq_self] at EQ0
      have HO : Hid (∀ V, Below w2.heap.size w2 V → Calls Tryz.prog 50 #[.agg #[bv t, bv fl, .slice A d.length c, .slice K ks.length k]] V fun e w' => e = .returned (vlV vv) ∧ Below V.heap.size V w') := Lib.hid (fun V hV => by
        have h9 := rOf_any t fl d ks hl16 A c K k V (HX2.out.on hV)
        rw [e1] at h9
        exact h9)
      have HK9 : Hid (∀ (V : World) (A' : Option Addr) (c' : Nat), Below w2.heap.size w2 V → Nodes V V.heap.size A' ks → Calls Tryz.prog 48 #[.slice A' ks.length c', .slice K ks.length k] V fun e w' => e = .returned (.bool true) ∧ Below V.heap.size V w') := Lib.hid (fun V A' c' hV hN => by
        have hk9 : Nodes V V.heap.size K ks := (HX2.out.on hV).kids
        have hl9 : ks.length ≤ 9223372036854775807 := HKs.out
        exact rsameI ks A' K c' k V hN hk9 hl9)
      obtain ⟨tg, wd, ou, i9, ts⟩ := vv
      simp only [vlV] at *
      have EQ := Lib.hid EQ0
      clear HX2 HKs e1 hl16 EQ0
      go_wp2_with fail
      refine H1.mono ?_
      rintro e w3 ⟨b3, A3, c3, rfl, hN3, hc31, hc32⟩
      clear q0 q1 q2 q3 H1
      go_upto_region 4 with fail
      have v4 : Below w3.heap.size w3 (w3.alloc (.cells #[uv tg, uv wd, hv ou, hv i9, uv ts] 80)) := (Below.refl _ _).alloc (Nat.le_refl _) _
      have y4 := Whole.new w3 80 #[uv tg, uv wd, hv ou, hv i9, uv ts]
      have hN4 := hN3.on v4
      have B4 := b3.trans (v4.mono b3.size)
      generalize w3.alloc (.cells #[uv tg, uv wd, hv ou, hv i9, uv ts] 80) = w4 at *
      generalize w3.heap.size = g4 at *
      obtain ⟨q0, q1, q2, q3⟩ := KC.out w4 B4
      have hI := H2.out w4 B4
      clear v4 hN3 b3
      go_wp2_with fail
      refine hI.mono ?_
      rintro e w5 ⟨rfl, b5⟩
      have y5 := y4.below b5 y4.lt
      have hN5 := hN4.on b5
      have B5 := B4.trans (b5.mono B4.size)
      have HN5 := Lib.hid hN5
      have hg4 : g4 < w5.heap.size := y5.lt
      have KS : Hid (∀ W, Below w5.heap.size w5 W → (W.cell? ⟨w.heap.size, 0, none⟩ = some (bv t) ∧ W.cell? ⟨w.heap.size, 1, none⟩ = some (bv fl) ∧ W.cell? ⟨w.heap.size, 2, none⟩ = some (.slice A d.length c) ∧ W.cell? ⟨w.heap.size, 3, none⟩ = some (.slice K ks.length k)) ∧ (W.cell? ⟨g4, 0, none⟩ = some (uv tg) ∧ W.cell? ⟨g4, 1, none⟩ = some (uv wd) ∧ W.cell? ⟨g4, 2, none⟩ = some (hv ou) ∧ W.cell? ⟨g4, 3, none⟩ = some (hv i9) ∧ W.cell? ⟨g4, 4, none⟩ = some (uv ts))) := fun W hW => ⟨KC.out W (B5.trans (hW.mono B5.size)), (y5.below hW hg4).cs5⟩
      have HB5 := Lib.hid B5
      clear q0 q1 q2 q3 y4 y5 hI hN4 hN5 B4 b5 B5 H2
      go_upto_region 6 with fail
      refine wp_region_held_drew (S := (fun W => (W.cell? ⟨w.heap.size, 0, none⟩ = some (bv t) ∧ W.cell? ⟨w.heap.size, 1, none⟩ = some (bv fl) ∧ W.cell? ⟨w.heap.size, 2, none⟩ = some (.slice A d.length c) ∧ W.cell? ⟨w.heap.size, 3, none⟩ = some (.slice K ks.length k)) ∧ (W.cell? ⟨g4, 0, none⟩ = some (uv tg) ∧ W.cell? ⟨g4, 1, none⟩ = some (uv wd) ∧ W.cell? ⟨g4, 2, none⟩ = some (hv ou) ∧ W.cell? ⟨g4, 3, none⟩ = some (hv i9) ∧ W.cell? ⟨g4, 4, none⟩ = some (uv ts)))) (by kernel_rfl) (KS.out _ (below_drew (Below.refl _ _))) (fun hHeld => ?_)
      refine take_at (i := 0) (v := ?_) (some 35) rfl (by kernel_rfl) (by kernel_rfl) (by kernel_rfl) (fun _ _ _ h => h) (by kernel_rfl) (Or.inl ⟨by kernel_rfl, ?_⟩) (by assumption) ?_
      rotate_left
      · (intro w hSw; (try dsimp only at hSw); go_simp <;> with_reducible rfl)
      simp only [Act.put, List.setIfInBounds_toArray, List.set_cons_zero, List.set_cons_succ]
      refine take_at (i := 1) (v := ?_) (some 36) rfl (by kernel_rfl) (by kernel_rfl) (by kernel_rfl) (fun _ _ _ h => h) (by kernel_rfl) (Or.inl ⟨by kernel_rfl, ?_⟩) (by assumption) ?_
      rotate_left
      · (intro w hSw; (try dsimp only at hSw); go_simp <;> with_reducible rfl)
      simp only [Act.put, List.setIfInBounds_toArray, List.set_cons_zero, List.set_cons_succ]
      refine take_at (i := 2) (v := ?_) (some 37) rfl (by kernel_rfl) (by kernel_rfl) (by kernel_rfl) (fun _ _ _ h => h) (by kernel_rfl) (Or.inl ⟨by kernel_rfl, ?_⟩) (by assumption) ?_
      rotate_left
      · (intro w hSw; (try dsimp only at hSw); go_simp <;> with_reducible rfl)
      simp only [Act.put, List.setIfInBounds_toArray, List.set_cons_zero, List.set_cons_succ]
      refine take_at (i := 3) (v := ?_) (some 38) rfl (by kernel_rfl) (by kernel_rfl) (by kernel_rfl) (fun _ _ _ h => h) (by kernel_rfl) (Or.inl ⟨by kernel_rfl, ?_⟩) (by assumption) ?_
      rotate_left
      · (intro w hSw; (try dsimp only at hSw); go_simp <;> with_reducible rfl)
      simp only [Act.put, List.setIfInBounds_toArray, List.set_cons_zero, List.set_cons_succ]
      refine wpAnyH_ready (rs := [4]) (by kernel_rfl) (by simp) ?_
      refine AllReadyH.cons rfl (fun K hK => ?_) AllReadyH.nil
      go_simp
      go_at_call 50; (with_reducible refine (HO.out _ (below_drew HB5.out)).mono ?_); rintro e w6 ⟨rfl, b6⟩; have R6 : Below w5.heap.size w5 w6 := below_undrew13 b6
      go_wp2_with fail
      clear hHeld
      refine hK.out _ _ (KS.out _ R6) (fun hHeld => ?_)
      clear hK K
      try simp only [Act.put, List.setIfInBounds_toArray, List.set_cons_zero, List.set_cons_succ]
      refine wpAnyH_ready (rs := [5]) (by kernel_rfl) (by simp) ?_
      refine AllReadyH.cons rfl (fun K hK => ?_) AllReadyH.nil
      have EQ9 := EQ.out
      go_simp
      clear EQ9
      clear hHeld
      refine hK.out _ _ (KS.out _ R6) (fun hHeld => ?_)
      clear hK K
      try simp only [Act.put, List.setIfInBounds_toArray, List.set_cons_zero, List.set_cons_succ]
      refine take_at (i := 6) (v := ?_) (some 41) rfl (by kernel_rfl) (by kernel_rfl) (by kernel_rfl) (fun _ _ _ h => h) (by kernel_rfl) (Or.inl ⟨by kernel_rfl, ?_⟩) (by assumption) ?_
      rotate_left
      · (intro w hSw; (try dsimp only at hSw); go_simp <;> with_reducible rfl)
      simp only [Act.put, List.setIfInBounds_toArray, List.set_cons_zero, List.set_cons_succ]
      refine take_at (i := 7) (v := ?_) (some 42) rfl (by kernel_rfl) (by kernel_rfl) (by kernel_rfl) (fun _ _ _ h => h) (by kernel_rfl) (Or.inl ⟨by kernel_rfl, ?_⟩) (by assumption) ?_
      rotate_left
      · (intro w hSw; (try dsimp only at hSw); go_simp <;> with_reducible rfl)
      simp only [Act.put, List.setIfInBounds_toArray, List.set_cons_zero, List.set_cons_succ]
      refine take_at (i := 8) (v := ?_) (some 43) rfl (by kernel_rfl) (by kernel_rfl) (by kernel_rfl) (fun _ _ _ h => h) (by kernel_rfl) (Or.inl ⟨by kernel_rfl, ?_⟩) (by assumption) ?_
      rotate_left
      · (intro w hSw; (try dsimp only at hSw); go_simp <;> with_reducible rfl)
      simp only [Act.put, List.setIfInBounds_toArray, List.set_cons_zero, List.set_cons_succ]
      refine take_at (i := 9) (v := ?_) (some 44) rfl (by kernel_rfl) (by kernel_rfl) (by kernel_rfl) (fun _ _ _ h => h) (by kernel_rfl) (Or.inl ⟨by kernel_rfl, ?_⟩) (by assumption) ?_
      rotate_left
      · (intro w hSw; (try dsimp only at hSw); go_simp <;> with_reducible rfl)
      simp only [Act.put, List.setIfInBounds_toArray, List.set_cons_zero, List.set_cons_succ]
      refine take_at (i := 10) (v := ?_) (some 45) rfl (by kernel_rfl) (by kernel_rfl) (by kernel_rfl) (fun _ _ _ h => h) (by kernel_rfl) (Or.inl ⟨by kernel_rfl, ?_⟩) (by assumption) ?_
      rotate_left
      · (intro w hSw; (try dsimp only at hSw); go_simp <;> with_reducible rfl)
      simp only [Act.put, List.setIfInBounds_toArray, List.set_cons_zero, List.set_cons_succ]
      refine wpAnyH_ready (rs := [11]) (by kernel_rfl) (by simp) ?_
      refine AllReadyH.cons rfl (fun K hK => ?_) AllReadyH.nil
      go_simp
      go_at_call 48; (with_reducible refine (HK9.out _ _ _ (HB5.out.trans (R6.mono HB5.out.size)) (HN5.out.on R6)).mono ?_); rintro e w7 ⟨rfl, b7⟩; have R7 : Below w5.heap.size w5 w7 := R6.trans (b7.mono R6.size)
      go_wp2_with fail
      clear hHeld
      refine hK.out _ _ (KS.out _ R7) (fun hHeld => ?_)
      clear hK K
      try simp only [Act.put, List.setIfInBounds_toArray, List.set_cons_zero, List.set_cons_succ]
      refine take_at (i := 12) (v := ?_) (some 47) rfl (by kernel_rfl) (by kernel_rfl) (by kernel_rfl) (fun _ _ _ h => h) (by kernel_rfl) (Or.inl ⟨by kernel_rfl, ?_⟩) (by assumption) ?_
      rotate_left
      · (intro w hSw; (try dsimp only at hSw); go_simp <;> with_reducible rfl)
      simp only [Act.put, List.setIfInBounds_toArray, List.set_cons_zero, List.set_cons_succ]
      refine take_at (i := 13) (v := ?_) (some 2) rfl (by kernel_rfl) (by kernel_rfl) (by kernel_rfl) (fun _ _ _ h => h) (by kernel_rfl) (Or.inl ⟨by kernel_rfl, ?_⟩) (by assumption) ?_
      rotate_left
      · (intro w hSw; (try dsimp only at hSw); go_simp <;> with_reducible rfl)
      simp only [Act.put, List.setIfInBounds_toArray, List.set_cons_zero, List.set_cons_succ]
      refine wpAnyH_done (by kernel_rfl) ?_ _
      go_wp2_with fail
      go_ret
      exact ⟨rfl, HB2.out.trans ((HB5.out.trans (R7.mono HB5.out.size)).mono HB2.out.size)⟩
set_option maxRecDepth 100000 in
theorem law_InitialChunks {H : Type} {enc : TypeId × Value → H} {W : World} {base : Nat} {v0 : Value} {d0 : DataW H} {p0 : List MemPlace}
    (o0 : Value.okWide Tryz.prog W .any base 31 v0) (h0 : DataW.Trod enc Tryz.prog W 0 (fun _ => true) true 31 v0 d0 p0) (s0 : Small Tryz.prog 31 d0) (hL : laidMetH Tryz.prog laidL W) :
    Calls Tryz.prog 11 #[v0] W fun e w' => e = .returned (.bool true) ∧ Below W.heap.size W w' := by
  obtain ⟨x, A, c, K, k, rfl, hC, hB⟩ := open_chunk o0 h0 s0
  exact ich_law x (by have := hC.kc; have := hC.km; unfold maxLen at this; omega) hB A c K k W hC (handle_of_laid hL)
end Go.Proofs.YtdcppcoldaaldaaGreatDoor


