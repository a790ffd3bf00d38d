/- Layer 13: the law DataChunks. It writes nothing that was there. -/
import Derived.Test.YtgjmgphmakiffaaGreatDoorQDataV
import Derived.Test.YtgjmgphmakiffaaGreatDoorQCR
import Derived.Test.YtgjmgphmakiffaaGreatDoorQCT
import Derived.Test.YtgjmgphmakiffaaGreatDoorQCO
import Derived.Test.YtgjmgphmakiffaaGreatDoorQCX
import Derived.Test.YtgjmgphmakiffaaGreatDoorQChunkLM
import Derived.Test.YtgjmgphmakiffaaGreatDoorQNodeWH
import Derived.Test.YtgjmgphmakiffaaGreatDoorQNS
import Derived.Test.YtgjmgphmakiffaaGreatDoorQNodeUO
import Derived.BigGuard
import Derived.Deep.RegionHeld3











namespace Go.Proofs.YtgjmgphmakiffaaGreatDoor
open Go.ChangeShapes Go.WideShapes Go.ChangeAt Go.RowKit

set_option linter.unusedSimpArgs false
theorem ofP_no {x : Ck} (h : isD x = false) : ofP x = pt0 := by unfold ofP; rw [h, if_neg (by simp)]
theorem ofP_yes {x : Ck} (h : isD x = true) : ofP x = ptOf x := by unfold ofP; rw [h, if_pos rfl]
theorem ckEq_self13 (a : Ck) : ckEq a a = true := by
  unfold ckEq
  rw [beqL_true rfl]
  simp
theorem isD_cases (x : Ck) : ((x.t = 0 ∨ x.t = 64) ∧ chkC x = 0 ∧ isD x = true) ∨ ((x.t = 0 ∨ x.t = 64) ∧ chkC x ≠ 0 ∧ isD x = false) ∨ (x.t ≠ 0 ∧ x.t ≠ 64 ∧ isD x = false) := by
  by_cases h : x.t = 0 ∨ x.t = 64
  · by_cases hc : chkC x = 0
    · refine Or.inl ⟨h, hc, ?_⟩
      unfold isD; rw [decide_eq_true hc]
      rcases h with h | h <;> rw [h] <;> rfl
    · exact Or.inr (Or.inl ⟨h, hc, isD_no hc⟩)
  · exact Or.inr (Or.inr ⟨fun e => h (Or.inl e), fun e => h (Or.inr e), isD_no2 (fun e => h (Or.inl e)) (fun e => h (Or.inr e))⟩)
theorem same_zero (A : Option Addr) (c : Nat) (w : World) (h : PtL w w.heap.size A c pt0) : Calls Tryz.prog 19 #[.agg #[.bool false, .int .u32 0, .int .u16 0, .int .u32 0, .int .u32 0, .bool false, .bool false, .bool false, .bool false, .slice A 0 c], .agg #[.bool false, .int .u32 0, .int .u16 0, .int .u32 0, .int .u32 0, .bool false, .bool false, .bool false, .bool false, .slice none 0 0]] w fun e w' => e = .returned (.bool true) ∧ Below w.heap.size w w' := by
  have hz := rsame13_any pt0 pt0 (by simp [pt0]) A c none 0 w h ⟨Lies.nil, Nat.le_refl _, Nat.zero_le _⟩
  rw [ptEq_self] at hz
  exact hz
theorem pt0_cells (A : Option Addr) (c : Nat) : ptCells pt0 A c = #[.bool false, .int .u32 0, .int .u16 0, .int .u32 0, .int .u32 0, .bool false, .bool false, .bool false, .bool false, .slice A 0 c] := rfl
set_option maxRecDepth 100000 in
set_option maxHeartbeats 16000000 in
theorem dch_law (x : Ck) (hk : x.ks.length ≤ 9223372036854775807) (hb : ∀ n ∈ x.ks, Bnd n) (A : Option Addr) (c : Nat) (K : Option Addr) (k : Nat) (w : World) (h : Chunk w w.heap.size A c K k x) (hh : Handle w) :
    Calls Tryz.prog 4 #[ckV x A c K k] w fun e w' => e = .returned (.bool true) ∧ Below w.heap.size w w' := by
  have b0 : Below w.heap.size w (w.alloc (.cells (ckCells x A c K k) 31)) := (Below.refl _ w).alloc (Nat.le_refl _) _
  have x0 := CkBox.new w x A c K k
  have hx0 := h.on b0
  have H0 := hh.below b0 hh.lt
  have hF := rfew12 x hk hb A c K k
  have HH := Lib.hid hh
  have HK := Lib.hid hk
  clear hk hb h hh
  go_enter Tryz.func4, Tryz.ntmps4
  go_wp2_with fail
  generalize w.alloc (.cells (ckCells x A c K k) 31) = w0 at *
  refine (awake13_any w0 H0).mono ?_
  rintro e w1 ⟨rfl, b1⟩
  have B1 := b0.trans (b1.mono b0.size)
  have x1 := x0.below b1
  have hx1 := hx0.on b1
  have hF1 := hF w1 hx1
  obtain ⟨q0, q1, q2, q3⟩ := x1.cs
  cases hf : fewB x with
  | false =>
    rw [hf] at hF1
    clear hf hF
    go_wp2_with fail
    refine hF1.mono ?_
    rintro e w2 ⟨rfl, b2⟩
    have B2 := B1.trans (b2.mono B1.size)
    go_wp2_with fail
    refine (awake13_any w2 (HH.out.below B2 HH.out.lt)).mono ?_
    rintro e w3 ⟨rfl, b3⟩
    go_wp2_with fail
    go_ret
    exact ⟨rfl, B2.trans (b3.mono B2.size)⟩
  | true =>
    obtain ⟨hfine, hd7, hk2, hsz⟩ := ck_fine hf
    rw [hf] at hF1
    clear hf hF
    go_wp2_with fail
    refine hF1.mono ?_
    rintro e w2 ⟨rfl, b2⟩
    have B2 := B1.trans (b2.mono B1.size)
    have x2 := x1.below b2
    have hx2 := hx1.on b2
    clear q0 q1 q2 q3 hF1 x0 x1 hx0 hx1 H0
    obtain ⟨q0, q1, q2, q3⟩ := x2.cs
    have hOf := dof_any x hfine A c K k w2 hx2 (HH.out.below B2 HH.out.lt)
    obtain ⟨p, hp⟩ : ∃ p, p = ofP x := ⟨_, rfl⟩
    unfold OfR at hOf
    rw [← hp] at hOf
    have HPd := Lib.hid hp
    clear hp
    go_wp2_with fail
    refine hOf.mono ?_
    rintro e w3 ⟨b3, A3, c3, rfl, hP3⟩
    have B3 := B2.trans (b3.mono B2.size)
    have x3 := x2.below b3
    have hx3 := hx2.on b3
    clear q0 q1 q2 q3 hOf x2 hx2
    go_upto_region 4 with fail
    have v4 : Below w3.heap.size w3 (w3.alloc (.cells (ptCells p A3 c3) 34)) := (Below.refl _ _).alloc (Nat.le_refl _) _
    have y4 := Whole.new w3 34 (ptCells p A3 c3)
    have hP4 := hP3.on v4
    have x4 := x3.below v4
    have hx4 := hx3.on v4
    have B4 := B3.trans (v4.mono B3.size)
    generalize w3.alloc (.cells (ptCells p A3 c3) 34) = w4 at *
    have hg3 := B3.size
    generalize w3.heap.size = g3 at *
    clear hP3 x3 hx3 B3 v4 b3
    have hCk := rcheck12 x hfine A c K k w4 hx4
    obtain ⟨q0, q1, q2, q3⟩ := x4.cs
    have hKs := hx4
    rcases isD_cases x with ⟨ht, hc, hd⟩ | ⟨ht, hc, hd⟩ | ⟨h0, h64, hd⟩
    rotate_left
    · have hp0 : p = pt0 := by rw [HPd.out, ofP_no hd]
      have hq : ((chkC x : Int) == 0) = false := by rw [beq_eq_false_iff_ne]; omega
      rw [hd]
      rcases ht with ht | ht
      · have e0 : ((x.t.toNat : Int) == 0) = true := by rw [ht]; rfl
        clear ht
        go_wp2_with fail
        refine hCk.mono ?_
        rintro e w5 ⟨rfl, b5⟩
        have B5 := B4.trans (b5.mono B4.size)
        have y5 := y4.below b5 y4.lt
        have hP5 := hP4.on b5
        rw [hp0] at hP5 y5
        rw [pt0_cells] at y5
        have hz := same_zero A3 c3 w5 hP5
        obtain ⟨m0, m1, m2, m3, m4, m5, m6, m7, m8, m9⟩ := y5.cs10
        go_wp2_with fail
        refine hz.mono ?_
        rintro e w6 ⟨rfl, b6⟩
        go_wp2_with fail
        go_ret
        exact ⟨rfl, B5.trans (b6.mono B5.size)⟩
      · have e0 : ((x.t.toNat : Int) == 0) = false := by rw [ht]; rfl
        have e64 : ((x.t.toNat : Int) == 64) = true := by rw [ht]; rfl
        clear ht
        go_wp2_with fail
        refine hCk.mono ?_
        rintro e w5 ⟨rfl, b5⟩
        have B5 := B4.trans (b5.mono B4.size)
        have y5 := y4.below b5 y4.lt
        have hP5 := hP4.on b5
        rw [hp0] at hP5 y5
        rw [pt0_cells] at y5
        have hz := same_zero A3 c3 w5 hP5
        obtain ⟨m0, m1, m2, m3, m4, m5, m6, m7, m8, m9⟩ := y5.cs10
        go_wp2_with fail
        refine hz.mono ?_
        rintro e w6 ⟨rfl, b6⟩
        go_wp2_with fail
        go_ret
        exact ⟨rfl, B5.trans (b6.mono B5.size)⟩
    · have hp0 : p = pt0 := by rw [HPd.out, ofP_no hd]
      have e0 : ((x.t.toNat : Int) == 0) = false := by rw [beq_eq_false_iff_ne]; intro e; exact h0 (UInt8.toNat_inj.1 (by show x.t.toNat = 0; omega))
      have e64 : ((x.t.toNat : Int) == 64) = false := by rw [beq_eq_false_iff_ne]; intro e; exact h64 (UInt8.toNat_inj.1 (by show x.t.toNat = 64; omega))
      rw [hd]
      clear h0 h64
      rw [hp0] at hP4 y4
      rw [pt0_cells] at y4
      have hz := same_zero A3 c3 w4 hP4
      obtain ⟨m0, m1, m2, m3, m4, m5, m6, m7, m8, m9⟩ := y4.cs10
      go_wp2_with fail
      refine hz.mono ?_
      rintro e w6 ⟨rfl, b6⟩
      go_wp2_with fail
      go_ret
      exact ⟨rfl, B4.trans (b6.mono B4.size)⟩
    · have hpo : p = ptOf x := by rw [HPd.out, ofP_yes hd]
      have hq : ((chkC x : Int) == 0) = true := by rw [hc]; rfl
      have hdp : desB p = true := by rw [hpo]; exact (ckD_ptOf hd).2
      have hcp : ckD p = x := by rw [hpo]; exact (ckD_ptOf hd).1
      have hks := Lib.hid (isD_ks hd)
      have HDP := Lib.hid hdp
      have HCP := Lib.hid hcp
      have HPO := Lib.hid hpo
      have HD := Lib.hid hd
      rw [hd]
      clear hpo hdp hcp hd hc
      rcases ht with ht | ht
      · have e0 : ((x.t.toNat : Int) == 0) = true := by rw [ht]; rfl
        clear ht
        go_wp2_with fail
        refine hCk.mono ?_
        rintro e w5 ⟨rfl, b5⟩
        have B5 := B4.trans (b5.mono B4.size)
        have y5 := y4.below b5 y4.lt
        have hP5 := hP4.on b5
        have x5 := x4.below b5
        have hx5 := hx4.on b5
        obtain ⟨m0, m1, m2, m3, m4, m5, m6, m7, m8, m9⟩ := y5.cs10
        have hMk := dmake_any p A3 c3 w5 hP5
        clear q0 q1 q2 q3 y4 hP4 x4 hx4 hCk hKs
        go_wp2_with fail
        refine Calls.mono (R := MkR p w5) hMk ?_
        intro e w6 hR
        obtain ⟨b6, A6, c6, rfl, hC6⟩ := mkR_ck HDP.out hR
        rw [HCP.out] at hC6
        rw [HCP.out]
        have B6 := B5.trans (b6.mono B5.size)
        have y6 := y5.below b6 y5.lt
        have hP6 := hP5.on b6
        have x6 := x5.below b6
        have hx6 := hx5.on b6
        clear m0 m1 m2 m3 m4 m5 m6 m7 m8 m9 y5 hP5 x5 hx5 hMk hR
        go_upto_region 9 with fail
        have v7 : Below w6.heap.size w6 (w6.alloc (.cells (ckCells x A6 c6 none 0) 31)) := (Below.refl _ _).alloc (Nat.le_refl _) _
        have z7 := CkBox.new w6 x A6 c6 none 0
        have hC7 := hC6.on v7
        have hP7 := hP6.on v7
        have x7 := x6.below v7
        have y7 := y6.below v7 y6.lt
        have hx7 := hx6.on v7
        have B7 := B6.trans (v7.mono B6.size)
        generalize w6.alloc (.cells (ckCells x A6 c6 none 0) 31) = w7 at *
        have hg6 := B6.size
        generalize w6.heap.size = g6 at *
        clear y6 hP6 x6 hx6 B6 v7 hC6
        have KS : Hid (∀ V, Below w7.heap.size w7 V → V.cell? ⟨w.heap.size, 0, none⟩ = some (bv x.t) ∧ V.cell? ⟨w.heap.size, 1, none⟩ = some (bv x.fl) ∧ V.cell? ⟨w.heap.size, 2, none⟩ = some (.slice A x.d.length c) ∧ V.cell? ⟨w.heap.size, 3, none⟩ = some (.slice K x.ks.length k) ∧ V.cell? ⟨g3, 0, none⟩ = some (.bool p.inter) ∧ V.cell? ⟨g3, 1, none⟩ = some (uv p.tsn) ∧ V.cell? ⟨g3, 2, none⟩ = some (hv p.st) ∧ V.cell? ⟨g3, 3, none⟩ = some (uv p.sq) ∧ V.cell? ⟨g3, 4, none⟩ = some (uv p.pr) ∧ V.cell? ⟨g3, 5, none⟩ = some (.bool p.bg) ∧ V.cell? ⟨g3, 6, none⟩ = some (.bool p.en) ∧ V.cell? ⟨g3, 7, none⟩ = some (.bool p.un) ∧ V.cell? ⟨g3, 8, none⟩ = some (.bool p.nw) ∧ V.cell? ⟨g3, 9, none⟩ = some (.slice A3 p.us.length c3) ∧ V.cell? ⟨g6, 0, none⟩ = some (bv x.t) ∧ V.cell? ⟨g6, 1, none⟩ = some (bv x.fl) ∧ V.cell? ⟨g6, 2, none⟩ = some (.slice A6 x.d.length c6) ∧ V.cell? ⟨g6, 3, none⟩ = some (.slice none x.ks.length 0)) := fun V hV => by
          obtain ⟨a0, a1, a2, a3⟩ := (x7.below hV).cs
          obtain ⟨m0, m1, m2, m3, m4, m5, m6, m7, m8, m9⟩ := (y7.below hV y7.lt).cs10
          obtain ⟨c0, c1, c2, c3⟩ := (z7.below hV).cs
          exact ⟨a0, a1, a2, a3, m0, m1, m2, m3, m4, m5, m6, m7, m8, m9, c0, c1, c2, c3⟩
        have HOf : Hid (∀ V, Below w7.heap.size w7 V → Calls Tryz.prog 24 #[ckV x A c K k] V fun e w' => Below V.heap.size V w' ∧ ∃ A' c', e = .returned (ptV p A' c') ∧ PtL w' w'.heap.size A' c' p) := fun V hV => by
          have h9 := rof13_any x HD.out A c K k V (hx7.on hV) (by omega)
          rw [← HPO.out] at h9
          exact h9
        have HSm : Hid (∀ V, Below w7.heap.size w7 V → ∀ A8 c8, PtL V V.heap.size A8 c8 p → Calls Tryz.prog 19 #[ptV p A3 c3, ptV p A8 c8] V fun e w' => e = .returned (.bool true) ∧ Below V.heap.size V w') := fun V hV A8 c8 h8 => by
          have h9 := rsame13_any p p (by have := hP7.dc; have := hP7.dm; omega) A3 c3 A8 c8 V (hP7.on hV) h8
          rw [ptEq_self] at h9
          exact h9
        have HCs : Hid (∀ V, Below w7.heap.size w7 V → Calls Tryz.prog 18 #[ckV x A6 c6 none 0, ckV x A c K k] V fun e w' => e = .returned (.bool true) ∧ Below V.heap.size V w') := fun V hV => by
          have h9 := rcsame12 x x (by unfold maxLen; omega) HK.out HK.out A6 c6 none 0 A c K k V (hC7.on hV) (hx7.on hV)
          rw [ckEq_self13] at h9
          exact h9
        have HCl : Hid (∀ V, Below w7.heap.size w7 V → Calls Tryz.prog 25 #[.slice K x.ks.length k] V fun e w' => Below V.heap.size V w' ∧ ∃ A' c', e = .returned (.slice A' 0 c')) := fun V hV => by
          have h9 := rclone_any x.ks K k V (hx7.on hV).kids (by rw [hks.out]; simp) (by omega)
          refine h9.mono ?_
          rintro e w' ⟨A', c', rfl, _, _, _, hb⟩
          exact ⟨hb, A', c', by rw [hks.out]; rfl⟩
        clear x7 y7 z7 hx7 hC7 hP7 b5 b6 hq hsz hk2
        refine wp_region_held_drew (S := (fun V => V.cell? ⟨w.heap.size, 0, none⟩ = some (bv x.t) ∧ V.cell? ⟨w.heap.size, 1, none⟩ = some (bv x.fl) ∧ V.cell? ⟨w.heap.size, 2, none⟩ = some (.slice A x.d.length c) ∧ V.cell? ⟨w.heap.size, 3, none⟩ = some (.slice K x.ks.length k) ∧ V.cell? ⟨g3, 0, none⟩ = some (.bool p.inter) ∧ V.cell? ⟨g3, 1, none⟩ = some (uv p.tsn) ∧ V.cell? ⟨g3, 2, none⟩ = some (hv p.st) ∧ V.cell? ⟨g3, 3, none⟩ = some (uv p.sq) ∧ V.cell? ⟨g3, 4, none⟩ = some (uv p.pr) ∧ V.cell? ⟨g3, 5, none⟩ = some (.bool p.bg) ∧ V.cell? ⟨g3, 6, none⟩ = some (.bool p.en) ∧ V.cell? ⟨g3, 7, none⟩ = some (.bool p.un) ∧ V.cell? ⟨g3, 8, none⟩ = some (.bool p.nw) ∧ V.cell? ⟨g3, 9, none⟩ = some (.slice A3 p.us.length c3) ∧ V.cell? ⟨g6, 0, none⟩ = some (bv x.t) ∧ V.cell? ⟨g6, 1, none⟩ = some (bv x.fl) ∧ V.cell? ⟨g6, 2, none⟩ = some (.slice A6 x.d.length c6) ∧ V.cell? ⟨g6, 3, none⟩ = some (.slice none x.ks.length 0))) (by kernel_rfl) (KS.out _ (below_drew (Below.refl _ _))) (fun hHeld => ?_)
        refine take_at (i := 0) (v := ?_) (some 45) rfl (by kernel_rfl) (by kernel_rfl) (by kernel_rfl) (fun _ _ _ h => h) (by kernel_rfl) (Or.inl ⟨by kernel_rfl, ?_⟩) (by assumption) ?_
        rotate_left
        · (intro w hSw; (try dsimp only at hSw); go_simp <;> with_reducible rfl)
        simp only [Act.put, List.setIfInBounds_toArray, List.set_cons_zero, List.set_cons_succ]
        refine take_at (i := 1) (v := ?_) (some 46) rfl (by kernel_rfl) (by kernel_rfl) (by kernel_rfl) (fun _ _ _ h => h) (by kernel_rfl) (Or.inl ⟨by kernel_rfl, ?_⟩) (by assumption) ?_
        rotate_left
        · (intro w hSw; (try dsimp only at hSw); go_simp <;> with_reducible rfl)
        simp only [Act.put, List.setIfInBounds_toArray, List.set_cons_zero, List.set_cons_succ]
        refine wpAnyH_ready (rs := [2]) (by kernel_rfl) (by simp) ?_
        refine AllReadyH.cons rfl (fun K hK => ?_) AllReadyH.nil
        go_simp
        go_at_call 24; (with_reducible refine (HOf.out _ (below_drew (Below.refl _ _))).mono ?_); rintro e w8 ⟨b8, A8, c8, rfl, hP8⟩; have R8 : Below w7.heap.size w7 w8 := below_undrew b8
        go_wp2_with fail
        clear hHeld
        refine hK.out _ _ (KS.out _ R8) (fun hHeld => ?_)
        clear hK K
        try simp only [Act.put, List.setIfInBounds_toArray, List.set_cons_zero, List.set_cons_succ]
        refine wpAnyH_ready (rs := [3]) (by kernel_rfl) (by simp) ?_
        refine AllReadyH.cons rfl (fun K hK => ?_) AllReadyH.nil
        go_simp
        go_at_call 19; (with_reducible refine (HSm.out w8 R8 A8 c8 hP8).mono ?_); rintro e w9 ⟨rfl, b9⟩; have R9 : Below w7.heap.size w7 w9 := R8.trans (b9.mono R8.size)
        go_wp2_with fail
        clear hHeld
        refine hK.out _ _ (KS.out _ R9) (fun hHeld => ?_)
        clear hK K
        try simp only [Act.put, List.setIfInBounds_toArray, List.set_cons_zero, List.set_cons_succ]
        refine take_at (i := 4) (v := ?_) (some 49) rfl (by kernel_rfl) (by kernel_rfl) (by kernel_rfl) (fun _ _ _ h => h) (by kernel_rfl) (Or.inl ⟨by kernel_rfl, ?_⟩) (by assumption) ?_
        rotate_left
        · (intro w hSw; (try dsimp only at hSw); go_simp <;> with_reducible rfl)
        simp only [Act.put, List.setIfInBounds_toArray, List.set_cons_zero, List.set_cons_succ]
        refine take_at (i := 5) (v := ?_) (some 50) rfl (by kernel_rfl) (by kernel_rfl) (by kernel_rfl) (fun _ _ _ h => h) (by kernel_rfl) (Or.inl ⟨by kernel_rfl, ?_⟩) (by assumption) ?_
        rotate_left
        · (intro w hSw; (try dsimp only at hSw); go_simp <;> with_reducible rfl)
        simp only [Act.put, List.setIfInBounds_toArray, List.set_cons_zero, List.set_cons_succ]
        refine take_at (i := 6) (v := ?_) (some 51) rfl (by kernel_rfl) (by kernel_rfl) (by kernel_rfl) (fun _ _ _ h => h) (by kernel_rfl) (Or.inl ⟨by kernel_rfl, ?_⟩) (by assumption) ?_
        rotate_left
        · (intro w hSw; (try dsimp only at hSw); go_simp <;> with_reducible rfl)
        simp only [Act.put, List.setIfInBounds_toArray, List.set_cons_zero, List.set_cons_succ]
        refine take_at (i := 7) (v := ?_) (some 52) rfl (by kernel_rfl) (by kernel_rfl) (by kernel_rfl) (fun _ _ _ h => h) (by kernel_rfl) (Or.inl ⟨by kernel_rfl, ?_⟩) (by assumption) ?_
        rotate_left
        · (intro w hSw; (try dsimp only at hSw); go_simp <;> with_reducible rfl)
        simp only [Act.put, List.setIfInBounds_toArray, List.set_cons_zero, List.set_cons_succ]
        refine take_at (i := 8) (v := ?_) (some 53) rfl (by kernel_rfl) (by kernel_rfl) (by kernel_rfl) (fun _ _ _ h => h) (by kernel_rfl) (Or.inl ⟨by kernel_rfl, ?_⟩) (by assumption) ?_
        rotate_left
        · (intro w hSw; (try dsimp only at hSw); go_simp <;> with_reducible rfl)
        simp only [Act.put, List.setIfInBounds_toArray, List.set_cons_zero, List.set_cons_succ]
        refine take_at (i := 9) (v := ?_) (some 54) rfl (by kernel_rfl) (by kernel_rfl) (by kernel_rfl) (fun _ _ _ h => h) (by kernel_rfl) (Or.inl ⟨by kernel_rfl, ?_⟩) (by assumption) ?_
        rotate_left
        · (intro w hSw; (try dsimp only at hSw); go_simp <;> with_reducible rfl)
        simp only [Act.put, List.setIfInBounds_toArray, List.set_cons_zero, List.set_cons_succ]
        refine wpAnyH_ready (rs := [10]) (by kernel_rfl) (by simp) ?_
        refine AllReadyH.cons rfl (fun K hK => ?_) AllReadyH.nil
        go_simp
        go_at_call 18; (with_reducible refine (HCs.out w9 R9).mono ?_); rintro e w10 ⟨rfl, b10⟩; have R10 : Below w7.heap.size w7 w10 := R9.trans (b10.mono R9.size)
        go_wp2_with fail
        clear hHeld
        refine hK.out _ _ (KS.out _ R10) (fun hHeld => ?_)
        clear hK K
        try simp only [Act.put, List.setIfInBounds_toArray, List.set_cons_zero, List.set_cons_succ]
        refine take_at (i := 11) (v := ?_) (some 56) rfl (by kernel_rfl) (by kernel_rfl) (by kernel_rfl) (fun _ _ _ h => h) (by kernel_rfl) (Or.inl ⟨by kernel_rfl, ?_⟩) (by assumption) ?_
        rotate_left
        · (intro w hSw; (try dsimp only at hSw); go_simp <;> with_reducible rfl)
        simp only [Act.put, List.setIfInBounds_toArray, List.set_cons_zero, List.set_cons_succ]
        refine take_at (i := 12) (v := ?_) (some 57) rfl (by kernel_rfl) (by kernel_rfl) (by kernel_rfl) (fun _ _ _ h => h) (by kernel_rfl) (Or.inl ⟨by kernel_rfl, ?_⟩) (by assumption) ?_
        rotate_left
        · (intro w hSw; (try dsimp only at hSw); go_simp <;> with_reducible rfl)
        simp only [Act.put, List.setIfInBounds_toArray, List.set_cons_zero, List.set_cons_succ]
        refine take_at (i := 13) (v := ?_) (some 58) rfl (by kernel_rfl) (by kernel_rfl) (by kernel_rfl) (fun _ _ _ h => h) (by kernel_rfl) (Or.inl ⟨by kernel_rfl, ?_⟩) (by assumption) ?_
        rotate_left
        · (intro w hSw; (try dsimp only at hSw); go_simp <;> with_reducible rfl)
        simp only [Act.put, List.setIfInBounds_toArray, List.set_cons_zero, List.set_cons_succ]
        refine take_at (i := 14) (v := ?_) (some 59) rfl (by kernel_rfl) (by kernel_rfl) (by kernel_rfl) (fun _ _ _ h => h) (by kernel_rfl) (Or.inl ⟨by kernel_rfl, ?_⟩) (by assumption) ?_
        rotate_left
        · (intro w hSw; (try dsimp only at hSw); go_simp <;> with_reducible rfl)
        simp only [Act.put, List.setIfInBounds_toArray, List.set_cons_zero, List.set_cons_succ]
        refine wpAnyH_ready (rs := [15]) (by kernel_rfl) (by simp) ?_
        refine AllReadyH.cons rfl (fun K hK => ?_) AllReadyH.nil
        go_simp
        go_at_call 25; (with_reducible refine (HCl.out w10 R10).mono ?_); rintro e w11 ⟨b11, A11, c11, rfl⟩; have R11 : Below w7.heap.size w7 w11 := R10.trans (b11.mono R10.size)
        go_wp2_with fail
        clear hHeld
        refine hK.out _ _ (KS.out _ R11) (fun hHeld => ?_)
        clear hK K
        try simp only [Act.put, List.setIfInBounds_toArray, List.set_cons_zero, List.set_cons_succ]
        refine take_at (i := 16) (v := ?_) (some 61) rfl (by kernel_rfl) (by kernel_rfl) (by kernel_rfl) (fun _ _ _ h => h) (by kernel_rfl) (Or.inl ⟨by kernel_rfl, ?_⟩) (by assumption) ?_
        rotate_left
        · (intro w hSw; (try dsimp only at hSw); go_simp <;> with_reducible rfl)
        simp only [Act.put, List.setIfInBounds_toArray, List.set_cons_zero, List.set_cons_succ]
        refine take_at (i := 17) (v := ?_) (some 62) rfl (by kernel_rfl) (by kernel_rfl) (by kernel_rfl) (fun _ _ _ h => h) (by kernel_rfl) (Or.inl ⟨by kernel_rfl, ?_⟩) (by assumption) ?_
        rotate_left
        · (intro w hSw; (try dsimp only at hSw); go_simp <;> with_reducible rfl)
        simp only [Act.put, List.setIfInBounds_toArray, List.set_cons_zero, List.set_cons_succ]
        refine take_at (i := 18) (v := ?_) (some 63) rfl (by kernel_rfl) (by kernel_rfl) (by kernel_rfl) (fun _ _ _ h => h) (by kernel_rfl) (Or.inl ⟨by kernel_rfl, ?_⟩) (by assumption) ?_
        rotate_left
        · (intro w hSw; (try dsimp only at hSw); go_simp <;> with_reducible rfl)
        simp only [Act.put, List.setIfInBounds_toArray, List.set_cons_zero, List.set_cons_succ]
        refine take_at (i := 19) (v := ?_) (some 2) rfl (by kernel_rfl) (by kernel_rfl) (by kernel_rfl) (fun _ _ _ h => h) (by kernel_rfl) (Or.inl ⟨by kernel_rfl, ?_⟩) (by assumption) ?_
        rotate_left
        · (intro w hSw; (try dsimp only at hSw); go_simp <;> with_reducible rfl)
        simp only [Act.put, List.setIfInBounds_toArray, List.set_cons_zero, List.set_cons_succ]
        refine wpAnyH_done (by kernel_rfl) ?_ _
        go_wp2_with fail
        go_ret
        exact ⟨rfl, B7.trans (R11.mono B7.size)⟩
      · have e0 : ((x.t.toNat : Int) == 0) = false := by rw [ht]; rfl
        have e64 : ((x.t.toNat : Int) == 64) = true := by rw [ht]; rfl
        clear ht
        go_wp2_with fail
        refine hCk.mono ?_
        rintro e w5 ⟨rfl, b5⟩
        have B5 := B4.trans (b5.mono B4.size)
        have y5 := y4.below b5 y4.lt
        have hP5 := hP4.on b5
        have x5 := x4.below b5
        have hx5 := hx4.on b5
        obtain ⟨m0, m1, m2, m3, m4, m5, m6, m7, m8, m9⟩ := y5.cs10
        have hMk := dmake_any p A3 c3 w5 hP5
        clear q0 q1 q2 q3 y4 hP4 x4 hx4 hCk hKs
        go_wp2_with fail
        refine Calls.mono (R := MkR p w5) hMk ?_
        intro e w6 hR
        obtain ⟨b6, A6, c6, rfl, hC6⟩ := mkR_ck HDP.out hR
        rw [HCP.out] at hC6
        rw [HCP.out]
        have B6 := B5.trans (b6.mono B5.size)
        have y6 := y5.below b6 y5.lt
        have hP6 := hP5.on b6
        have x6 := x5.below b6
        have hx6 := hx5.on b6
        clear m0 m1 m2 m3 m4 m5 m6 m7 m8 m9 y5 hP5 x5 hx5 hMk hR
        go_upto_region 9 with fail
        have v7 : Below w6.heap.size w6 (w6.alloc (.cells (ckCells x A6 c6 none 0) 31)) := (Below.refl _ _).alloc (Nat.le_refl _) _
        have z7 := CkBox.new w6 x A6 c6 none 0
        have hC7 := hC6.on v7
        have hP7 := hP6.on v7
        have x7 := x6.below v7
        have y7 := y6.below v7 y6.lt
        have hx7 := hx6.on v7
        have B7 := B6.trans (v7.mono B6.size)
        generalize w6.alloc (.cells (ckCells x A6 c6 none 0) 31) = w7 at *
        have hg6 := B6.size
        generalize w6.heap.size = g6 at *
        clear y6 hP6 x6 hx6 B6 v7 hC6
        have KS : Hid (∀ V, Below w7.heap.size w7 V → V.cell? ⟨w.heap.size, 0, none⟩ = some (bv x.t) ∧ V.cell? ⟨w.heap.size, 1, none⟩ = some (bv x.fl) ∧ V.cell? ⟨w.heap.size, 2, none⟩ = some (.slice A x.d.length c) ∧ V.cell? ⟨w.heap.size, 3, none⟩ = some (.slice K x.ks.length k) ∧ V.cell? ⟨g3, 0, none⟩ = some (.bool p.inter) ∧ V.cell? ⟨g3, 1, none⟩ = some (uv p.tsn) ∧ V.cell? ⟨g3, 2, none⟩ = some (hv p.st) ∧ V.cell? ⟨g3, 3, none⟩ = some (uv p.sq) ∧ V.cell? ⟨g3, 4, none⟩ = some (uv p.pr) ∧ V.cell? ⟨g3, 5, none⟩ = some (.bool p.bg) ∧ V.cell? ⟨g3, 6, none⟩ = some (.bool p.en) ∧ V.cell? ⟨g3, 7, none⟩ = some (.bool p.un) ∧ V.cell? ⟨g3, 8, none⟩ = some (.bool p.nw) ∧ V.cell? ⟨g3, 9, none⟩ = some (.slice A3 p.us.length c3) ∧ V.cell? ⟨g6, 0, none⟩ = some (bv x.t) ∧ V.cell? ⟨g6, 1, none⟩ = some (bv x.fl) ∧ V.cell? ⟨g6, 2, none⟩ = some (.slice A6 x.d.length c6) ∧ V.cell? ⟨g6, 3, none⟩ = some (.slice none x.ks.length 0)) := fun V hV => by
          obtain ⟨a0, a1, a2, a3⟩ := (x7.below hV).cs
          obtain ⟨m0, m1, m2, m3, m4, m5, m6, m7, m8, m9⟩ := (y7.below hV y7.lt).cs10
          obtain ⟨c0, c1, c2, c3⟩ := (z7.below hV).cs
          exact ⟨a0, a1, a2, a3, m0, m1, m2, m3, m4, m5, m6, m7, m8, m9, c0, c1, c2, c3⟩
        have HOf : Hid (∀ V, Below w7.heap.size w7 V → Calls Tryz.prog 24 #[ckV x A c K k] V fun e w' => Below V.heap.size V w' ∧ ∃ A' c', e = .returned (ptV p A' c') ∧ PtL w' w'.heap.size A' c' p) := fun V hV => by
          have h9 := rof13_any x HD.out A c K k V (hx7.on hV) (by omega)
          rw [← HPO.out] at h9
          exact h9
        have HSm : Hid (∀ V, Below w7.heap.size w7 V → ∀ A8 c8, PtL V V.heap.size A8 c8 p → Calls Tryz.prog 19 #[ptV p A3 c3, ptV p A8 c8] V fun e w' => e = .returned (.bool true) ∧ Below V.heap.size V w') := fun V hV A8 c8 h8 => by
          have h9 := rsame13_any p p (by have := hP7.dc; have := hP7.dm; omega) A3 c3 A8 c8 V (hP7.on hV) h8
          rw [ptEq_self] at h9
          exact h9
        have HCs : Hid (∀ V, Below w7.heap.size w7 V → Calls Tryz.prog 18 #[ckV x A6 c6 none 0, ckV x A c K k] V fun e w' => e = .returned (.bool true) ∧ Below V.heap.size V w') := fun V hV => by
          have h9 := rcsame12 x x (by unfold maxLen; omega) HK.out HK.out A6 c6 none 0 A c K k V (hC7.on hV) (hx7.on hV)
          rw [ckEq_self13] at h9
          exact h9
        have HCl : Hid (∀ V, Below w7.heap.size w7 V → Calls Tryz.prog 25 #[.slice K x.ks.length k] V fun e w' => Below V.heap.size V w' ∧ ∃ A' c', e = .returned (.slice A' 0 c')) := fun V hV => by
          have h9 := rclone_any x.ks K k V (hx7.on hV).kids (by rw [hks.out]; simp) (by omega)
          refine h9.mono ?_
          rintro e w' ⟨A', c', rfl, _, _, _, hb⟩
          exact ⟨hb, A', c', by rw [hks.out]; rfl⟩
        clear x7 y7 z7 hx7 hC7 hP7 b5 b6 hq hsz hk2
        refine wp_region_held_drew (S := (fun V => V.cell? ⟨w.heap.size, 0, none⟩ = some (bv x.t) ∧ V.cell? ⟨w.heap.size, 1, none⟩ = some (bv x.fl) ∧ V.cell? ⟨w.heap.size, 2, none⟩ = some (.slice A x.d.length c) ∧ V.cell? ⟨w.heap.size, 3, none⟩ = some (.slice K x.ks.length k) ∧ V.cell? ⟨g3, 0, none⟩ = some (.bool p.inter) ∧ V.cell? ⟨g3, 1, none⟩ = some (uv p.tsn) ∧ V.cell? ⟨g3, 2, none⟩ = some (hv p.st) ∧ V.cell? ⟨g3, 3, none⟩ = some (uv p.sq) ∧ V.cell? ⟨g3, 4, none⟩ = some (uv p.pr) ∧ V.cell? ⟨g3, 5, none⟩ = some (.bool p.bg) ∧ V.cell? ⟨g3, 6, none⟩ = some (.bool p.en) ∧ V.cell? ⟨g3, 7, none⟩ = some (.bool p.un) ∧ V.cell? ⟨g3, 8, none⟩ = some (.bool p.nw) ∧ V.cell? ⟨g3, 9, none⟩ = some (.slice A3 p.us.length c3) ∧ V.cell? ⟨g6, 0, none⟩ = some (bv x.t) ∧ V.cell? ⟨g6, 1, none⟩ = some (bv x.fl) ∧ V.cell? ⟨g6, 2, none⟩ = some (.slice A6 x.d.length c6) ∧ V.cell? ⟨g6, 3, none⟩ = some (.slice none x.ks.length 0))) (by kernel_rfl) (KS.out _ (below_drew (Below.refl _ _))) (fun hHeld => ?_)
        refine take_at (i := 0) (v := ?_) (some 45) rfl (by kernel_rfl) (by kernel_rfl) (by kernel_rfl) (fun _ _ _ h => h) (by kernel_rfl) (Or.inl ⟨by kernel_rfl, ?_⟩) (by assumption) ?_
        rotate_left
        · (intro w hSw; (try dsimp only at hSw); go_simp <;> with_reducible rfl)
        simp only [Act.put, List.setIfInBounds_toArray, List.set_cons_zero, List.set_cons_succ]
        refine take_at (i := 1) (v := ?_) (some 46) rfl (by kernel_rfl) (by kernel_rfl) (by kernel_rfl) (fun _ _ _ h => h) (by kernel_rfl) (Or.inl ⟨by kernel_rfl, ?_⟩) (by assumption) ?_
        rotate_left
        · (intro w hSw; (try dsimp only at hSw); go_simp <;> with_reducible rfl)
        simp only [Act.put, List.setIfInBounds_toArray, List.set_cons_zero, List.set_cons_succ]
        refine wpAnyH_ready (rs := [2]) (by kernel_rfl) (by simp) ?_
        refine AllReadyH.cons rfl (fun K hK => ?_) AllReadyH.nil
        go_simp
        go_at_call 24; (with_reducible refine (HOf.out _ (below_drew (Below.refl _ _))).mono ?_); rintro e w8 ⟨b8, A8, c8, rfl, hP8⟩; have R8 : Below w7.heap.size w7 w8 := below_undrew b8
        go_wp2_with fail
        clear hHeld
        refine hK.out _ _ (KS.out _ R8) (fun hHeld => ?_)
        clear hK K
        try simp only [Act.put, List.setIfInBounds_toArray, List.set_cons_zero, List.set_cons_succ]
        refine wpAnyH_ready (rs := [3]) (by kernel_rfl) (by simp) ?_
        refine AllReadyH.cons rfl (fun K hK => ?_) AllReadyH.nil
        go_simp
        go_at_call 19; (with_reducible refine (HSm.out w8 R8 A8 c8 hP8).mono ?_); rintro e w9 ⟨rfl, b9⟩; have R9 : Below w7.heap.size w7 w9 := R8.trans (b9.mono R8.size)
        go_wp2_with fail
        clear hHeld
        refine hK.out _ _ (KS.out _ R9) (fun hHeld => ?_)
        clear hK K
        try simp only [Act.put, List.setIfInBounds_toArray, List.set_cons_zero, List.set_cons_succ]
        refine take_at (i := 4) (v := ?_) (some 49) rfl (by kernel_rfl) (by kernel_rfl) (by kernel_rfl) (fun _ _ _ h => h) (by kernel_rfl) (Or.inl ⟨by kernel_rfl, ?_⟩) (by assumption) ?_
        rotate_left
        · (intro w hSw; (try dsimp only at hSw); go_simp <;> with_reducible rfl)
        simp only [Act.put, List.setIfInBounds_toArray, List.set_cons_zero, List.set_cons_succ]
        refine take_at (i := 5) (v := ?_) (some 50) rfl (by kernel_rfl) (by kernel_rfl) (by kernel_rfl) (fun _ _ _ h => h) (by kernel_rfl) (Or.inl ⟨by kernel_rfl, ?_⟩) (by assumption) ?_
        rotate_left
        · (intro w hSw; (try dsimp only at hSw); go_simp <;> with_reducible rfl)
        simp only [Act.put, List.setIfInBounds_toArray, List.set_cons_zero, List.set_cons_succ]
        refine take_at (i := 6) (v := ?_) (some 51) rfl (by kernel_rfl) (by kernel_rfl) (by kernel_rfl) (fun _ _ _ h => h) (by kernel_rfl) (Or.inl ⟨by kernel_rfl, ?_⟩) (by assumption) ?_
        rotate_left
        · (intro w hSw; (try dsimp only at hSw); go_simp <;> with_reducible rfl)
        simp only [Act.put, List.setIfInBounds_toArray, List.set_cons_zero, List.set_cons_succ]
        refine take_at (i := 7) (v := ?_) (some 52) rfl (by kernel_rfl) (by kernel_rfl) (by kernel_rfl) (fun _ _ _ h => h) (by kernel_rfl) (Or.inl ⟨by kernel_rfl, ?_⟩) (by assumption) ?_
        rotate_left
        · (intro w hSw; (try dsimp only at hSw); go_simp <;> with_reducible rfl)
        simp only [Act.put, List.setIfInBounds_toArray, List.set_cons_zero, List.set_cons_succ]
        refine take_at (i := 8) (v := ?_) (some 53) rfl (by kernel_rfl) (by kernel_rfl) (by kernel_rfl) (fun _ _ _ h => h) (by kernel_rfl) (Or.inl ⟨by kernel_rfl, ?_⟩) (by assumption) ?_
        rotate_left
        · (intro w hSw; (try dsimp only at hSw); go_simp <;> with_reducible rfl)
        simp only [Act.put, List.setIfInBounds_toArray, List.set_cons_zero, List.set_cons_succ]
        refine take_at (i := 9) (v := ?_) (some 54) rfl (by kernel_rfl) (by kernel_rfl) (by kernel_rfl) (fun _ _ _ h => h) (by kernel_rfl) (Or.inl ⟨by kernel_rfl, ?_⟩) (by assumption) ?_
        rotate_left
        · (intro w hSw; (try dsimp only at hSw); go_simp <;> with_reducible rfl)
        simp only [Act.put, List.setIfInBounds_toArray, List.set_cons_zero, List.set_cons_succ]
        refine wpAnyH_ready (rs := [10]) (by kernel_rfl) (by simp) ?_
        refine AllReadyH.cons rfl (fun K hK => ?_) AllReadyH.nil
        go_simp
        go_at_call 18; (with_reducible refine (HCs.out w9 R9).mono ?_); rintro e w10 ⟨rfl, b10⟩; have R10 : Below w7.heap.size w7 w10 := R9.trans (b10.mono R9.size)
        go_wp2_with fail
        clear hHeld
        refine hK.out _ _ (KS.out _ R10) (fun hHeld => ?_)
        clear hK K
        try simp only [Act.put, List.setIfInBounds_toArray, List.set_cons_zero, List.set_cons_succ]
        refine take_at (i := 11) (v := ?_) (some 56) rfl (by kernel_rfl) (by kernel_rfl) (by kernel_rfl) (fun _ _ _ h => h) (by kernel_rfl) (Or.inl ⟨by kernel_rfl, ?_⟩) (by assumption) ?_
        rotate_left
        · (intro w hSw; (try dsimp only at hSw); go_simp <;> with_reducible rfl)
        simp only [Act.put, List.setIfInBounds_toArray, List.set_cons_zero, List.set_cons_succ]
        refine take_at (i := 12) (v := ?_) (some 57) rfl (by kernel_rfl) (by kernel_rfl) (by kernel_rfl) (fun _ _ _ h => h) (by kernel_rfl) (Or.inl ⟨by kernel_rfl, ?_⟩) (by assumption) ?_
        rotate_left
        · (intro w hSw; (try dsimp only at hSw); go_simp <;> with_reducible rfl)
        simp only [Act.put, List.setIfInBounds_toArray, List.set_cons_zero, List.set_cons_succ]
        refine take_at (i := 13) (v := ?_) (some 58) rfl (by kernel_rfl) (by kernel_rfl) (by kernel_rfl) (fun _ _ _ h => h) (by kernel_rfl) (Or.inl ⟨by kernel_rfl, ?_⟩) (by assumption) ?_
        rotate_left
        · (intro w hSw; (try dsimp only at hSw); go_simp <;> with_reducible rfl)
        simp only [Act.put, List.setIfInBounds_toArray, List.set_cons_zero, List.set_cons_succ]
        refine take_at (i := 14) (v := ?_) (some 59) rfl (by kernel_rfl) (by kernel_rfl) (by kernel_rfl) (fun _ _ _ h => h) (by kernel_rfl) (Or.inl ⟨by kernel_rfl, ?_⟩) (by assumption) ?_
        rotate_left
        · (intro w hSw; (try dsimp only at hSw); go_simp <;> with_reducible rfl)
        simp only [Act.put, List.setIfInBounds_toArray, List.set_cons_zero, List.set_cons_succ]
        refine wpAnyH_ready (rs := [15]) (by kernel_rfl) (by simp) ?_
        refine AllReadyH.cons rfl (fun K hK => ?_) AllReadyH.nil
        go_simp
        go_at_call 25; (with_reducible refine (HCl.out w10 R10).mono ?_); rintro e w11 ⟨b11, A11, c11, rfl⟩; have R11 : Below w7.heap.size w7 w11 := R10.trans (b11.mono R10.size)
        go_wp2_with fail
        clear hHeld
        refine hK.out _ _ (KS.out _ R11) (fun hHeld => ?_)
        clear hK K
        try simp only [Act.put, List.setIfInBounds_toArray, List.set_cons_zero, List.set_cons_succ]
        refine take_at (i := 16) (v := ?_) (some 61) rfl (by kernel_rfl) (by kernel_rfl) (by kernel_rfl) (fun _ _ _ h => h) (by kernel_rfl) (Or.inl ⟨by kernel_rfl, ?_⟩) (by assumption) ?_
        rotate_left
        · (intro w hSw; (try dsimp only at hSw); go_simp <;> with_reducible rfl)
        simp only [Act.put, List.setIfInBounds_toArray, List.set_cons_zero, List.set_cons_succ]
        refine take_at (i := 17) (v := ?_) (some 62) rfl (by kernel_rfl) (by kernel_rfl) (by kernel_rfl) (fun _ _ _ h => h) (by kernel_rfl) (Or.inl ⟨by kernel_rfl, ?_⟩) (by assumption) ?_
        rotate_left
        · (intro w hSw; (try dsimp only at hSw); go_simp <;> with_reducible rfl)
        simp only [Act.put, List.setIfInBounds_toArray, List.set_cons_zero, List.set_cons_succ]
        refine take_at (i := 18) (v := ?_) (some 63) rfl (by kernel_rfl) (by kernel_rfl) (by kernel_rfl) (fun _ _ _ h => h) (by kernel_rfl) (Or.inl ⟨by kernel_rfl, ?_⟩) (by assumption) ?_
        rotate_left
        · (intro w hSw; (try dsimp only at hSw); go_simp <;> with_reducible rfl)
        simp only [Act.put, List.setIfInBounds_toArray, List.set_cons_zero, List.set_cons_succ]
        refine take_at (i := 19) (v := ?_) (some 2) rfl (by kernel_rfl) (by kernel_rfl) (by kernel_rfl) (fun _ _ _ h => h) (by kernel_rfl) (Or.inl ⟨by kernel_rfl, ?_⟩) (by assumption) ?_
        rotate_left
        · (intro w hSw; (try dsimp only at hSw); go_simp <;> with_reducible rfl)
        simp only [Act.put, List.setIfInBounds_toArray, List.set_cons_zero, List.set_cons_succ]
        refine wpAnyH_done (by kernel_rfl) ?_ _
        go_wp2_with fail
        go_ret
        exact ⟨rfl, B7.trans (R11.mono B7.size)⟩
set_option maxRecDepth 100000 in
theorem law_DataChunks {H : Type} {enc : TypeId × Value → H} {W : World} {base : Nat} {v0 : Value} {d0 : DataW H} {p0 : List MemPlace}
    (o0 : Value.okWide Tryz.prog W .any base 31 v0) (h0 : DataW.Trod enc Tryz.prog W 0 (fun _ => true) true 31 v0 d0 p0) (s0 : Small Tryz.prog 31 d0) (hL : laidMetH Tryz.prog laidL W) :
    Calls Tryz.prog 4 #[v0] W fun e w' => e = .returned (.bool true) ∧ Below W.heap.size W w' := by
  obtain ⟨x, A, c, K, k, rfl, hC, hB⟩ := open_chunk o0 h0 s0
  exact dch_law x (by have := hC.kc; have := hC.km; unfold maxLen at this; omega) hB A c K k W hC (handle_of_laid hL)
end Go.Proofs.YtgjmgphmakiffaaGreatDoor


