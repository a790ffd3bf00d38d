/- Layer 15: the law InitialParams. It writes nothing that was there. -/
import Derived.Test.YtdcppcoldaaldaaGreatDoorQInitH
import Derived.Test.YtdcppcoldaaldaaGreatDoorQCT
import Derived.Test.YtdcppcoldaaldaaGreatDoorQCO
import Derived.Test.YtdcppcoldaaldaaGreatDoorQCX
import Derived.Test.YtdcppcoldaaldaaGreatDoorQCL
import Derived.Test.YtdcppcoldaaldaaGreatDoorQNW
import Derived.Test.YtdcppcoldaaldaaGreatDoorQNF
import Derived.Test.YtdcppcoldaaldaaGreatDoorQNS
import Derived.Test.YtdcppcoldaaldaaGreatDoorQNodeUO
import Derived.BigGuard
import Derived.Deep.RegionHeld3











namespace Go.Proofs.YtdcppcoldaaldaaGreatDoor
open Go.ChangeShapes Go.WideShapes Go.ChangeAt Go.RowKit

set_option linter.unusedSimpArgs false
set_option maxRecDepth 100000 in
set_option maxHeartbeats 16000000 in
theorem ipa_law (x : Ck) (ty : UInt16) (hk : x.ks.length ≤ 9223372036854775807) (hb : ∀ n ∈ x.ks, Bnd n) (A : Option Addr) (c : Nat) (K : Option Addr) (k : Nat) (w : World) (h : Chunk w w.heap.size A c K k x) (hh : Handle w) :
    Calls Tryz.prog 13 #[ckV x A c K k, hv ty] w fun e w' => e = .returned (.bool true) ∧ Below w.heap.size w w' := by
  have b0 : Below w.heap.size w (w.alloc (.cells (ckCells x A c K k) 31)) := (Below.refl _ w).alloc (Nat.le_refl _) _
  have x0 := CkBox.new w x A c K k
  have hx0 := h.on b0
  have H0 := hh.below b0 hh.lt
  have hF := rfew12 x hk hb A c K k
  have HH := Lib.hid hh
  have HK := Lib.hid hk
  clear hk hb h hh
  go_enter Tryz.func13, Tryz.ntmps13
  go_wp2_with fail
  generalize w.alloc (.cells (ckCells x A c K k) 31) = w0 at *
  refine (awake15_any w0 H0).mono ?_
  rintro e w1 ⟨rfl, b1⟩
  have B1 := b0.trans (b1.mono b0.size)
  have x1 := x0.below b1
  have hx1 := hx0.on b1
  have hF1 := hF w1 hx1
  obtain ⟨q0, q1, q2, q3⟩ := x1.cs
  cases hf : fewB x with
  | false =>
    rw [hf] at hF1
    clear hf hF
    go_wp2_with fail
    refine hF1.mono ?_
    rintro e w2 ⟨rfl, b2⟩
    have B2 := B1.trans (b2.mono B1.size)
    go_wp2_with fail
    refine (awake15_any w2 (HH.out.below B2 HH.out.lt)).mono ?_
    rintro e w3 ⟨rfl, b3⟩
    go_wp2_with fail
    go_ret
    exact ⟨rfl, B2.trans (b3.mono B2.size)⟩
  | true =>
    obtain ⟨hfine, hd7, hk2, hsz⟩ := ck_fine hf
    rw [hf] at hF1
    clear hf hF
    go_wp2_with fail
    refine hF1.mono ?_
    rintro e w2 ⟨rfl, b2⟩
    have B2 := B1.trans (b2.mono B1.size)
    have x2 := x1.below b2
    have hx2 := hx1.on b2
    clear q0 q1 q2 q3 hF1 x0 x1 hx0 hx1 H0
    obtain ⟨q0, q1, q2, q3⟩ := x2.cs
    have H1 : Hid (∀ V, Below w2.heap.size w2 V → Calls Tryz.prog 55 #[ckV x A c K k, hv ty] V fun e w' => e = .returned (.bool (decide (0 < (fndI x ty).length))) ∧ Below V.heap.size V w') := Lib.hid (fun V hV => ihas_any x ty hfine A c K k V (hx2.on hV) (HH.out.below (B2.trans (hV.mono B2.size)) HH.out.lt))
    have H2 : Hid (∀ V, Below w2.heap.size w2 V → Calls Tryz.prog 56 #[ckV x A c K k, hv ty] V fun e w' => e = .returned (.bool (decide (0 < (fndI x ty).length))) ∧ Below V.heap.size V w') := Lib.hid (fun V hV => rHas_any x ty hfine A c K k V (hx2.on hV))
    have H3 : Hid (∀ V, Below w2.heap.size w2 V → Calls Tryz.prog 57 #[ckV x A c K k] V fun e w' => ∃ A' c', e = .returned (.slice A' (extL x).length c') ∧ w'.ownsRow V.heap.size 5 1 (.slice A' (extL x).length c') (extL x).length ((extL x).map bv) ∧ Below V.heap.size V w') := Lib.hid (fun V hV => iext_any x hfine A c K k V (hx2.on hV) (HH.out.below (B2.trans (hV.mono B2.size)) HH.out.lt) (fnd_tot x 32776 hfine))
    have H4 : Hid (∀ V, Below w2.heap.size w2 V → Calls Tryz.prog 58 #[ckV x A c K k] V fun e w' => ∃ A' c', e = .returned (.slice A' (extL x).length c') ∧ w'.ownsRow V.heap.size 5 1 (.slice A' (extL x).length c') (extL x).length ((extL x).map bv) ∧ Below V.heap.size V w') := Lib.hid (fun V hV => rExt_any x hfine A c K k V (hx2.on hV))
    have hE : (extL x).length ≤ 1000000000 := fnd_tot x 32776 hfine
    have HE := Lib.hid hE
    have HB2 := Lib.hid B2
    clear hE hfine hd7 hk2 hsz HK hx2 HH B2 b0 b1 b2 B1
    generalize decide (0 < (fndI x ty).length) = bb at *
    generalize extL x = E at *
    obtain ⟨t, fl, d, ks⟩ := x
    simp only [ckV, ckCells] at *
    have hbb : (bb == bb) = true := by cases bb <;> rfl
    have KS : Hid (∀ W, Below w2.heap.size w2 W → W.cell? ⟨w.heap.size, 0, none⟩ = some (bv t) ∧ W.cell? ⟨w.heap.size, 1, none⟩ = some (bv fl) ∧ W.cell? ⟨w.heap.size, 2, none⟩ = some (.slice A d.length c) ∧ W.cell? ⟨w.heap.size, 3, none⟩ = some (.slice K ks.length k)) := fun W hW => CkBox.cs (x := ⟨t, fl, d, ks⟩) (CkBox.below x2 hW)
    clear x2
    go_upto_region 3 with fail
    refine wp_region_held_drew (S := (fun W => W.cell? ⟨w.heap.size, 0, none⟩ = some (bv t) ∧ W.cell? ⟨w.heap.size, 1, none⟩ = some (bv fl) ∧ W.cell? ⟨w.heap.size, 2, none⟩ = some (.slice A d.length c) ∧ W.cell? ⟨w.heap.size, 3, none⟩ = some (.slice K ks.length k))) (by kernel_rfl) (KS.out _ (below_drew (Below.refl _ _))) (fun hHeld => ?_)
    refine take_at (i := 0) (v := ?_) (some 13) rfl (by kernel_rfl) (by kernel_rfl) (by kernel_rfl) (fun _ _ _ h => h) (by kernel_rfl) (Or.inl ⟨by kernel_rfl, ?_⟩) (by assumption) ?_
    rotate_left
    · (intro w hSw; (try dsimp only at hSw); go_simp <;> with_reducible rfl)
    simp only [Act.put, List.setIfInBounds_toArray, List.set_cons_zero, List.set_cons_succ]
    refine take_at (i := 1) (v := ?_) (some 14) rfl (by kernel_rfl) (by kernel_rfl) (by kernel_rfl) (fun _ _ _ h => h) (by kernel_rfl) (Or.inl ⟨by kernel_rfl, ?_⟩) (by assumption) ?_
    rotate_left
    · (intro w hSw; (try dsimp only at hSw); go_simp <;> with_reducible rfl)
    simp only [Act.put, List.setIfInBounds_toArray, List.set_cons_zero, List.set_cons_succ]
    refine take_at (i := 3) (v := ?_) (some 16) rfl (by kernel_rfl) (by kernel_rfl) (by kernel_rfl) (fun _ _ _ h => h) (by kernel_rfl) (Or.inl ⟨by kernel_rfl, ?_⟩) (by assumption) ?_
    rotate_left
    · (intro w hSw; (try dsimp only at hSw); go_simp <;> with_reducible rfl)
    simp only [Act.put, List.setIfInBounds_toArray, List.set_cons_zero, List.set_cons_succ]
    refine take_at (i := 4) (v := ?_) (some 17) rfl (by kernel_rfl) (by kernel_rfl) (by kernel_rfl) (fun _ _ _ h => h) (by kernel_rfl) (Or.inl ⟨by kernel_rfl, ?_⟩) (by assumption) ?_
    rotate_left
    · (intro w hSw; (try dsimp only at hSw); go_simp <;> with_reducible rfl)
    simp only [Act.put, List.setIfInBounds_toArray, List.set_cons_zero, List.set_cons_succ]
    refine wpAnyH_ready (rs := [2]) (by kernel_rfl) (by simp) ?_
    refine AllReadyH.cons rfl (fun K hK => ?_) AllReadyH.nil
    go_simp
    go_at_call 55; (with_reducible refine (H1.out _ (below_drew (Below.refl _ _))).mono ?_); rintro e w3 ⟨rfl, b3⟩; have R3 : Below w2.heap.size w2 w3 := below_undrew13 b3
    go_wp2_with fail
    clear hHeld
    refine hK.out _ _ (KS.out _ R3) (fun hHeld => ?_)
    clear hK K
    try simp only [Act.put, List.setIfInBounds_toArray, List.set_cons_zero, List.set_cons_succ]
    refine wpAnyH_ready (rs := [5]) (by kernel_rfl) (by simp) ?_
    refine AllReadyH.cons rfl (fun K hK => ?_) AllReadyH.nil
    go_simp
    go_at_call 56; (with_reducible refine (H2.out _ R3).mono ?_); rintro e w4 ⟨rfl, b4⟩; have R4 : Below w2.heap.size w2 w4 := R3.trans (b4.mono R3.size)
    go_wp2_with fail
    clear hHeld
    refine hK.out _ _ (KS.out _ R4) (fun hHeld => ?_)
    clear hK K
    try simp only [Act.put, List.setIfInBounds_toArray, List.set_cons_zero, List.set_cons_succ]
    refine take_at (i := 6) (v := ?_) (some 19) rfl (by kernel_rfl) (by kernel_rfl) (by kernel_rfl) (fun _ _ _ h => h) (by kernel_rfl) (Or.inl ⟨by kernel_rfl, ?_⟩) (by assumption) ?_
    rotate_left
    · (intro w hSw; (try dsimp only at hSw); go_simp <;> with_reducible rfl)
    simp only [Act.put, List.setIfInBounds_toArray, List.set_cons_zero, List.set_cons_succ]
    refine take_at (i := 7) (v := ?_) (some 20) rfl (by kernel_rfl) (by kernel_rfl) (by kernel_rfl) (fun _ _ _ h => h) (by kernel_rfl) (Or.inl ⟨by kernel_rfl, ?_⟩) (by assumption) ?_
    rotate_left
    · (intro w hSw; (try dsimp only at hSw); go_simp <;> with_reducible rfl)
    simp only [Act.put, List.setIfInBounds_toArray, List.set_cons_zero, List.set_cons_succ]
    refine take_at (i := 8) (v := ?_) (some 21) rfl (by kernel_rfl) (by kernel_rfl) (by kernel_rfl) (fun _ _ _ h => h) (by kernel_rfl) (Or.inl ⟨by kernel_rfl, ?_⟩) (by assumption) ?_
    rotate_left
    · (intro w hSw; (try dsimp only at hSw); go_simp <;> with_reducible rfl)
    simp only [Act.put, List.setIfInBounds_toArray, List.set_cons_zero, List.set_cons_succ]
    refine take_at (i := 10) (v := ?_) (some 23) rfl (by kernel_rfl) (by kernel_rfl) (by kernel_rfl) (fun _ _ _ h => h) (by kernel_rfl) (Or.inl ⟨by kernel_rfl, ?_⟩) (by assumption) ?_
    rotate_left
    · (intro w hSw; (try dsimp only at hSw); go_simp <;> with_reducible rfl)
    simp only [Act.put, List.setIfInBounds_toArray, List.set_cons_zero, List.set_cons_succ]
    refine wpAnyH_ready (rs := [9]) (by kernel_rfl) (by simp) ?_
    refine AllReadyH.cons rfl (fun K hK => ?_) AllReadyH.nil
    go_simp
    go_at_call 57; (with_reducible refine (H3.out _ R4).mono ?_); rintro e w5 ⟨A5, c5, rfl, o5, b5⟩; have R5 : Below w2.heap.size w2 w5 := R4.trans (b5.mono R4.size); have L5 := Lies.own o5
    go_wp2_with fail
    clear hHeld
    refine hK.out _ _ (KS.out _ R5) (fun hHeld => ?_)
    clear hK K
    try simp only [Act.put, List.setIfInBounds_toArray, List.set_cons_zero, List.set_cons_succ]
    refine wpAnyH_ready (rs := [11]) (by kernel_rfl) (by simp) ?_
    refine AllReadyH.cons rfl (fun K hK => ?_) AllReadyH.nil
    go_simp
    go_at_call 58; (with_reducible refine (H4.out _ R5).mono ?_); rintro e w6 ⟨A6, c6, rfl, o6, b6⟩; have R6 : Below w2.heap.size w2 w6 := R5.trans (b6.mono R5.size); have L6 := Lies.own o6; have M6 := (L5.below b6).more b6.size
    go_wp2_with fail
    clear hHeld
    refine hK.out _ _ (KS.out _ R6) (fun hHeld => ?_)
    clear hK K
    try simp only [Act.put, List.setIfInBounds_toArray, List.set_cons_zero, List.set_cons_succ]
    refine wpAnyH_ready (rs := [12]) (by kernel_rfl) (by simp) ?_
    refine AllReadyH.cons rfl (fun K hK => ?_) AllReadyH.nil
    have hS : Calls Tryz.prog 54 #[.slice A5 E.length c5, .slice A6 E.length c6] w6 fun e w' => e = .returned (.bool true) ∧ ∃ q, w' = w6.drewN q := by
      have h9 := same_any A5 A6 c5 c6 w6.heap.size E E w6 M6 L6 (by have := HE.out; unfold maxLen; omega)
      rw [decide_eq_true rfl] at h9
      exact h9
    go_simp
    go_at_call 54; (with_reducible refine hS.mono ?_); rintro e w7 ⟨rfl, q, rfl⟩; have R7 : Below w2.heap.size w2 (w6.drewN q) := below_drewN R6 q
    go_wp2_with fail
    clear hHeld
    refine hK.out _ _ (KS.out _ R7) (fun hHeld => ?_)
    clear hK K
    try simp only [Act.put, List.setIfInBounds_toArray, List.set_cons_zero, List.set_cons_succ]
    refine take_at (i := 13) (v := ?_) (some 26) rfl (by kernel_rfl) (by kernel_rfl) (by kernel_rfl) (fun _ _ _ h => h) (by kernel_rfl) (Or.inl ⟨by kernel_rfl, ?_⟩) (by assumption) ?_
    rotate_left
    · (intro w hSw; (try dsimp only at hSw); go_simp <;> with_reducible rfl)
    simp only [Act.put, List.setIfInBounds_toArray, List.set_cons_zero, List.set_cons_succ]
    refine take_at (i := 14) (v := ?_) (some 4) rfl (by kernel_rfl) (by kernel_rfl) (by kernel_rfl) (fun _ _ _ h => h) (by kernel_rfl) (Or.inl ⟨by kernel_rfl, ?_⟩) (by assumption) ?_
    rotate_left
    · (intro w hSw; (try dsimp only at hSw); go_simp <;> with_reducible rfl)
    simp only [Act.put, List.setIfInBounds_toArray, List.set_cons_zero, List.set_cons_succ]
    refine wpAnyH_done (by kernel_rfl) ?_ _
    go_wp2_with fail
    go_ret
    exact ⟨rfl, HB2.out.trans (R7.mono HB2.out.size)⟩
set_option maxRecDepth 100000 in
theorem law_InitialParams {H : Type} {enc : TypeId × Value → H} {W : World} {base : Nat} {v0 v1 : Value} {d0 d1 : DataW H} {p0 p1 : List MemPlace}
    (o0 : Value.okWide Tryz.prog W .any base 31 v0) (h0 : DataW.Trod enc Tryz.prog W 0 (fun _ => true) true 31 v0 d0 p0) (s0 : Small Tryz.prog 31 d0)
    (o1 : Value.okWide Tryz.prog W .any base 23 v1) (h1 : DataW.Trod enc Tryz.prog W 0 (fun _ => true) true 23 v1 d1 p1) (_s1 : Small Tryz.prog 23 d1) (hL : laidMetH Tryz.prog laidL W) :
    Calls Tryz.prog 13 #[v0, v1] W fun e w' => e = .returned (.bool true) ∧ Below W.heap.size W w' := by
  obtain ⟨x, A, c, K, k, rfl, hC, hB⟩ := open_chunk o0 h0 s0
  obtain ⟨n, rfl, _, _, wn⟩ := open_int Tryz.underlying23 o1 h1
  rw [hv_of' (wf_u16 wn)]
  exact ipa_law x _ (by have := hC.kc; have := hC.km; unfold maxLen at this; omega) hB A c K k W hC (handle_of_laid hL)
end Go.Proofs.YtdcppcoldaaldaaGreatDoor


