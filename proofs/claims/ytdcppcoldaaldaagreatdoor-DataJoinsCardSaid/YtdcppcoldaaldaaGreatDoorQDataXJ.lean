/- Layer 13: the reference's Join. It writes nothing that was there. -/
import Derived.Test.YtdcppcoldaaldaaGreatDoorQDataY
import Derived.Test.YtdcppcoldaaldaaGreatDoorQDataS
import Derived.Test.YtdcppcoldaaldaaGreatDoorQDataD
import Derived.BigGuard
import Derived.Deep.RegionHeld3





namespace Go.Proofs.YtdcppcoldaaldaaGreatDoor
open Go.RowKit

set_option linter.unusedSimpArgs false
theorem sameB_ptEq (p q : Pt) : ptEq p q = sameB p q := by unfold sameB hdEq ptEq; simp only [Bool.and_assoc]
set_option maxRecDepth 100000 in
set_option maxHeartbeats 16000000 in
theorem rjoinP_any (m0 : Pm) (mr : List Pm) (A : Option Addr) (c : Nat) (w : World) (h : Pts w w.heap.size A c (m0 :: mr)) (hl : (m0 :: mr).length ≤ 30) (ht : tot ((m0 :: mr).map fun m => m.p.us) ≤ 1000000) :
    Calls Tryz.prog 25 #[.slice A (m0 :: mr).length c] w (JnR13 ((m0 :: mr).map Pm.p) w) := by
  obtain ⟨ms, hms⟩ : ∃ ms, ms = m0 :: mr := ⟨_, rfl⟩
  rw [← hms] at h hl ht ⊢
  have b0 : Below w.heap.size w (w.alloc (.cells #[.bool false, .int .u32 0, .int .u16 0, .int .u32 0, .int .u32 0, .bool false, .bool false, .bool false, .bool false, .slice none 0 0] 26)) := (Below.refl _ w).alloc (Nat.le_refl _) _
  have y0 := Whole.new w 26 #[.bool false, .int .u32 0, .int .u16 0, .int .u32 0, .int .u32 0, .bool false, .bool false, .bool false, .bool false, .slice none 0 0]
  have hs0 : w.heap.size + 1 ≤ (w.alloc (.cells #[.bool false, .int .u32 0, .int .u16 0, .int .u32 0, .int .u32 0, .bool false, .bool false, .bool false, .bool false, .slice none 0 0] 26)).heap.size := by simp
  have h0 : ms[0]? = some m0 := by rw [hms]; rfl
  have hlen : 1 ≤ ms.length := by rw [hms]; simp
  have HMS := Lib.hid hms
  have H0 := Lib.hid h0
  have HA := Lib.hid (h.on b0)
  have HT := Lib.hid ht
  clear hms ht
  generalize hw0 : w.alloc (.cells #[.bool false, .int .u32 0, .int .u16 0, .int .u32 0, .int .u32 0, .bool false, .bool false, .bool false, .bool false, .slice none 0 0] 26) = wa at *
  have HW := Lib.hid hw0
  clear hw0
  obtain ⟨ad, rfl, hadb, a0, a1, a2, a3, a4, a5, a6, a7, a8, a9⟩ := HA.out.cells h0
  have e0 : ad.add (0 * 10) = ad := by simp [Addr.add]
  rw [e0] at a0 a1 a2 a3 a4 a5 a6 a7 a8 a9
  have hne : ((ms.length : Int) == 0) = false := by rw [beq_eq_false_iff_ne]; omega
  have hgt : ¬ (65536 : Int) < (ms.length : Int) := by omega
  have hi0 : (0 : Int) < (ms.length : Int) := by omega
  have hi3 : 0 < ms.length := by omega
  clear h0 h
  go_enter Tryz.func25, Tryz.ntmps25
  go_upto_region 3 with fail
  rw [HW.out]
  clear HW
  go_upto_region 4 with fail
  have v1 : Below wa.heap.size wa (wa.alloc (.cells (ptCells m0.p m0.A m0.c) 26)) := (Below.refl _ _).alloc (Nat.le_refl _) _
  have x1 := Whole.new wa 26 (ptCells m0.p m0.A m0.c)
  generalize wa.alloc (.cells (ptCells m0.p m0.A m0.c) 26) = w1 at *
  generalize hgg : wa.heap.size = g7 at *
  clear a0 a1 a2 a3 a4 a5 a6 a7 a8 a9
  have q6 := x1.cs10.2.2.2.2.2.2.1
  have q9 := x1.cs10.2.2.2.2.2.2.2.2.2
  have f6 := x1.frozen 6
  go_upto_region 5 with fail
  have x2 : Whole (w1.setCell ⟨g7, 6, none⟩ (.bool true)) g7 26 #[.bool m0.p.inter, uv m0.p.tsn, hv m0.p.st, uv m0.p.sq, uv m0.p.pr, .bool m0.p.bg, .bool true, .bool m0.p.un, .bool m0.p.nw, .slice m0.A m0.p.us.length m0.c] := x1.set_ 6 _
  have B2 : Below g7 wa (w1.setCell ⟨g7, 6, none⟩ (.bool true)) := v1.setCell (p := ⟨g7, 6, none⟩) (Nat.le_refl _) _
  generalize w1.setCell ⟨g7, 6, none⟩ (.bool true) = w2 at *
  clear q6 q9 f6 x1 v1
  have q9 := x2.cs10.2.2.2.2.2.2.2.2.2
  have f9 := x2.frozen 9
  go_upto_region 7 with fail
  have x3 : Whole (w2.setCell ⟨g7, 9, none⟩ (.slice none 0 0)) g7 26 #[.bool m0.p.inter, uv m0.p.tsn, hv m0.p.st, uv m0.p.sq, uv m0.p.pr, .bool m0.p.bg, .bool true, .bool m0.p.un, .bool m0.p.nw, .slice none 0 0] := x2.set_ 9 _
  have B3 : Below g7 wa (w2.setCell ⟨g7, 9, none⟩ (.slice none 0 0)) := B2.setCell (p := ⟨g7, 9, none⟩) (Nat.le_refl _) _
  generalize w2.setCell ⟨g7, 9, none⟩ (.slice none 0 0) = w3 at *
  clear q9 f9 x2 B2
  obtain ⟨uss, huss⟩ : ∃ uss, uss = ms.map fun m => m.p.us := ⟨_, rfl⟩
  have HU := Lib.hid huss
  clear huss
  go_loopw [5] (fun i wr => ∃ (k : Nat) (Au : Option Addr) (cu : Nat), k ≤ ms.length ∧ i = .int .i64 (k : Int) ∧ Whole wr g7 26 #[.bool m0.p.inter, uv m0.p.tsn, hv m0.p.st, uv m0.p.sq, uv m0.p.pr, .bool m0.p.bg, .bool true, .bool m0.p.un, .bool m0.p.nw, .slice Au (uss.take k).flatten.length cu] ∧ wr.ownsRow g7 5 1 (.slice Au (uss.take k).flatten.length cu) (uss.take k).flatten.length ((uss.take k).flatten.map bv) ∧ Below g7 wa wr) (fun i _ => ms.length - (intOf i).toNat)
  case atStart => exact ⟨0, none, 0, Nat.zero_le _, rfl, x3, World.ownsRow_nil _ _ _ _, B3⟩
  case round =>
    obtain ⟨k, Au, cu, hk, rfl, hx, hown, hbel⟩ := hrel
    by_cases hlt : k < ms.length
    · obtain ⟨m, hm⟩ : ∃ m, ms[k]? = some m := ⟨_, List.getElem?_eq_getElem hlt⟩
      have hi1 : (k : Int) < (ms.length : Int) := by omega
      have hP := HA.out.below hbel
      have hm9 := hP.each m (List.mem_of_getElem? hm)
      have hC : ∀ V, Below g7 wr V → V.cell? ⟨(ad.add (k * 10)).block, (ad.add (k * 10)).off + 9, none⟩ = some (.slice m.A m.p.us.length m.c) := fun V hV => by
        obtain ⟨d, e, _, _, _, _, _, _, _, _, _, _, b9⟩ := (hP.below hV).cells hm
        cases e
        exact b9
      have KS := Lib.hid hC
      have hTk : (uss.take (k + 1)).flatten = (uss.take k).flatten ++ m.p.us := by
        have e : uss[k]? = some m.p.us := by rw [HU.out, List.getElem?_map, hm]; rfl
        rw [take_some e, List.flatten_append]
        simp
      have hTl : (uss.take (k + 1)).flatten.length ≤ 1000000 := by
        have h9 := HT.out
        unfold tot at h9
        rw [← HU.out] at h9
        have e9 : uss.flatten = (uss.take (k + 1)).flatten ++ (uss.drop (k + 1)).flatten := by rw [← List.flatten_append, List.take_append_drop]
        rw [e9, List.length_append] at h9
        omega
      have HTK := Lib.hid hTk
      rw [hTk, List.length_append] at hTl
      generalize (uss.take k).flatten = F at *
      have r9 : wr.drew.cell? ⟨g7, 9, none⟩ = some (.slice Au F.length cu) := hx.cs10.2.2.2.2.2.2.2.2.2
      clear hm hC hP hTk
      go_upto_region 9 with fail
      refine wp_region_held_drew (S := (fun V => V.cell? ⟨(ad.add (k * 10)).block, (ad.add (k * 10)).off + 9, none⟩ = some (.slice m.A m.p.us.length m.c))) (by kernel_rfl) (KS.out _ (below_drew (Below.refl _ _))) (fun hHeld => ?_)
      refine take_at (i := 0) (v := ?_) (some 28) rfl (by kernel_rfl) (by kernel_rfl) (by kernel_rfl) (fun _ _ _ h => h) (by kernel_rfl) (Or.inl ⟨by kernel_rfl, ?_⟩) (by assumption) ?_
      rotate_left
      · (intro w hSw; (try dsimp only at hSw); go_simp <;> with_reducible rfl)
      simp only [Act.put, List.setIfInBounds_toArray, List.set_cons_zero, List.set_cons_succ]
      refine take_at (i := 2) (v := ?_) (some 30) rfl (by kernel_rfl) (by kernel_rfl) (by kernel_rfl) (fun _ _ _ h => h) (by kernel_rfl) (Or.inl ⟨by kernel_rfl, ?_⟩) (by assumption) ?_
      rotate_left
      · (intro w hSw; (try dsimp only at hSw); go_simp <;> with_reducible rfl)
      simp only [Act.put, List.setIfInBounds_toArray, List.set_cons_zero, List.set_cons_succ]
      refine take_at (i := 3) (v := ?_) (some 31) rfl (by kernel_rfl) (by kernel_rfl) (by kernel_rfl) (fun _ _ _ h => h) (by kernel_rfl) (Or.inl ⟨by kernel_rfl, ?_⟩) (by assumption) ?_
      rotate_left
      · (intro w hSw; (try dsimp only at hSw); go_simp <;> with_reducible rfl)
      simp only [Act.put, List.setIfInBounds_toArray, List.set_cons_zero, List.set_cons_succ]
      refine take_at (i := 4) (v := ?_) (some 32) rfl (by kernel_rfl) (by kernel_rfl) (by kernel_rfl) (fun _ _ _ h => h) (by kernel_rfl) (Or.inl ⟨by kernel_rfl, ?_⟩) (by assumption) ?_
      rotate_left
      · (intro w hSw; (try dsimp only at hSw); go_simp <;> with_reducible rfl)
      simp only [Act.put, List.setIfInBounds_toArray, List.set_cons_zero, List.set_cons_succ]
      refine take_at (i := 5) (v := ?_) (some 33) rfl (by kernel_rfl) (by kernel_rfl) (by kernel_rfl) (fun _ _ _ h => h) (by kernel_rfl) (Or.inl ⟨by kernel_rfl, ?_⟩) (by assumption) ?_
      rotate_left
      · (intro w hSw; (try dsimp only at hSw); go_simp <;> with_reducible rfl)
      simp only [Act.put, List.setIfInBounds_toArray, List.set_cons_zero, List.set_cons_succ]
      refine take_at (i := 6) (v := ?_) (some 34) rfl (by kernel_rfl) (by kernel_rfl) (by kernel_rfl) (fun _ _ _ h => h) (by kernel_rfl) (Or.inl ⟨by kernel_rfl, ?_⟩) (by assumption) ?_
      rotate_left
      · (intro w hSw; (try dsimp only at hSw); go_simp <;> with_reducible rfl)
      simp only [Act.put, List.setIfInBounds_toArray, List.set_cons_zero, List.set_cons_succ]
      refine wpAnyH_ready (rs := [1]) (by kernel_rfl) (by simp) ?_
      refine AllReadyH.cons rfl (fun K hK => ?_) AllReadyH.nil
      go_simp
      clear hHeld
      refine hK.out _ _ (KS.out _ (below_drew (Below.refl _ _))) (fun hHeld => ?_)
      clear hK K
      try simp only [Act.put, List.setIfInBounds_toArray, List.set_cons_zero, List.set_cons_succ]
      refine wpAnyH_ready (rs := [7]) (by kernel_rfl) (by simp) ?_
      refine AllReadyH.cons rfl (fun K hK => ?_) AllReadyH.nil
      refine wp_append_lies _ (.tmp 29) (.tmp 34) 24 rfl g7 5 _ 1 Tryz.underlying24 u8info rfl (.slice Au F.length cu) F.length (F.map bv) rfl (show World.ownsRow wr.drew g7 _ 1 _ _ _ from hown) g7 m.A m.p.us.length m.c (m.p.us.map bv) rfl (by simp) hm9.data (by intro u hu; obtain ⟨_, _, rfl⟩ := List.mem_map.1 hu; rfl) (by omega) (by unfold maxLen; omega) (Nat.le_of_lt hx.lt) ?_
      intro A7 c7 w7 own7 gr7 _
      have B7 : Below g7 wr w7 := (below_drew (Below.refl g7 wr)).grown gr7 (Nat.le_of_lt hx.lt) (fun r e => (hown.lt r e).1)
      have x7 : Whole w7 g7 26 #[.bool m0.p.inter, uv m0.p.tsn, hv m0.p.st, uv m0.p.sq, uv m0.p.pr, .bool m0.p.bg, .bool true, .bool m0.p.un, .bool m0.p.nw, .slice Au F.length cu] := (gr7.block g7 hx.lt (fun e => whole_row_ne13 hx (by decide) hown (by first | exact e | exact e.symm))).trans hx
      have r79 := x7.cs10.2.2.2.2.2.2.2.2.2
      have f79 := x7.frozen 9
      clear hHeld
      refine hK.out _ _ (KS.out _ B7) (fun hHeld => ?_)
      clear hK K
      try simp only [Act.put, List.setIfInBounds_toArray, List.set_cons_zero, List.set_cons_succ]
      refine take_at (i := 8) (v := ?_) (some 36) rfl (by kernel_rfl) (by kernel_rfl) (by kernel_rfl) (fun _ _ _ h => h) (by kernel_rfl) (Or.inl ⟨by kernel_rfl, ?_⟩) (by assumption) ?_
      rotate_left
      · (intro w hSw; (try dsimp only at hSw); go_simp <;> with_reducible rfl)
      simp only [Act.put, List.setIfInBounds_toArray, List.set_cons_zero, List.set_cons_succ]
      refine wpAnyH_ready (rs := [9]) (by kernel_rfl) (by simp) ?_
      refine AllReadyH.cons rfl (fun K hK => ?_) AllReadyH.nil
      go_simp
      clear hHeld
      refine hK.out _ _ (KS.out _ (B7.setCell (p := ⟨g7, 9, none⟩) (Nat.le_refl _) _)) (fun hHeld => ?_)
      clear hK K
      try simp only [Act.put, List.setIfInBounds_toArray, List.set_cons_zero, List.set_cons_succ]
      refine wpAnyH_done (by kernel_rfl) ?_ _
      skip
      go_wp2_with fail
      go_roundw
      case rel =>
        refine ⟨k + 1, A7, c7, by omega, by go_num, ?_, ?_, hbel.trans (B7.setCell (p := ⟨g7, 9, none⟩) (Nat.le_refl _) _)⟩
        · rw [HTK.out, List.length_append]
          exact x7.set_ 9 _
        · rw [HTK.out, List.length_append, List.map_append]
          exact own_set13 own7 x7 (by decide)
      case measure => simp [intOf]; omega
    · obtain rfl : k = ms.length := by omega
      have hi1 : ¬ (ms.length : Int) < (ms.length : Int) := by omega
      have htk : uss.take ms.length = uss := List.take_of_length_le (by rw [HU.out, List.length_map]; omega)
      rw [htk] at hx hown
      have hfz : uss.flatten.length ≤ 1000000 := by have h9 := HT.out; unfold tot at h9; rw [← HU.out] at h9; exact h9
      have hHQ : jnQ (ms.map Pm.p) = ⟨m0.p.inter, m0.p.tsn, m0.p.st, m0.p.sq, m0.p.pr, m0.p.bg, true, m0.p.un, m0.p.nw, uss.flatten⟩ := by
        rw [HU.out, HMS.out]
        show Pt.mk _ _ _ _ _ _ _ _ _ _ = _
        simp only [List.map_cons, List.map_map]
        rfl
      have hHB : jnB (ms.map Pm.p) = eqfB (splL (jnQ (ms.map Pm.p)) (m0.p.us.length : Int)) (ms.map Pm.p) := by
        rw [HMS.out]
        rfl
      obtain ⟨Q, hQ⟩ : ∃ Q : Pt, Q = ⟨m0.p.inter, m0.p.tsn, m0.p.st, m0.p.sq, m0.p.pr, m0.p.bg, true, m0.p.un, m0.p.nw, uss.flatten⟩ := ⟨_, rfl⟩
      rw [← hQ] at hHQ
      rw [hHQ] at hHB
      have hxQ : Whole wr g7 26 (ptCells Q Au cu) := by rw [hQ]; exact hx
      have hoQ : wr.ownsRow g7 5 1 (.slice Au Q.us.length cu) Q.us.length (Q.us.map bv) := by rw [hQ]; exact hown
      have hQl : Q.us.length ≤ 1000000 := by rw [hQ]; exact hfz
      have hQb : Q.bg = m0.p.bg := by rw [hQ]
      have hQe : Q.en = true := by rw [hQ]
      have hcq := own_cap hoQ
      have hpt : PtL wr wr.heap.size Au cu Q := ⟨Lies.own hoQ, hcq.2.1, hcq.2.2⟩
      have HLw : Hid (Q.us.map bv ≠ [] → ∃ a1, Au = some a1 ∧ w.heap.size < a1.block) := fun hx9 => by
        rcases hoQ.2 with ⟨_, h2⟩ | ⟨q, cap, cur, h1, h2, _⟩
        · refine absurd (List.eq_nil_of_length_eq_zero ?_) hx9
          rw [List.length_map, h2]
        · simp only [Value.slice.injEq] at h1
          exact ⟨_, h1.1, by show w.heap.size < q; omega⟩
      have HHQ := Lib.hid hHQ
      have HHB := Lib.hid hHB
      have HQb := Lib.hid hQb
      have HQe := Lib.hid hQe
      clear hHQ hHB hQ hQb hQe hx hown htk hfz hcq
      have yr := y0.below hbel (by omega)
      have hB := b0.trans (hbel.mono (by omega))
      have hRt := rright_any Q Au cu wr
      have hwQ : whoB Q = (desB Q && m0.p.bg) := by unfold whoB; rw [HQe.out, HQb.out]; simp
      have hmne : (ms.map Pm.p).length = ms.length := List.length_map _
      have hbad : whoB Q = false ∨ m0.p.us.length = 0 → jnB (ms.map Pm.p) = false := fun hh => by
        rw [HHB.out]
        have : splL Q (m0.p.us.length : Int) = [] := by
          unfold splL
          rw [if_neg]
          rintro ⟨k1, k2⟩
          rcases hh with hh | hh
          · rw [hh] at k1; cases k1
          · omega
        rw [this]
        unfold eqfB
        rw [hmne]
        have : ¬ (([] : List Pt).length = ms.length) := by simp; omega
        rw [decide_eq_false this]
        rfl
      have HBAD := Lib.hid hbad
      have HWQ := Lib.hid hwQ
      clear hbad hwQ hmne
      obtain ⟨q0, q1, q2, q3, q4, q5, q6, q7, q8, q9⟩ := hxQ.cs10
      cases hd : desB Q with
      | false =>
        rw [hd] at hRt
        have hj := HBAD.out (Or.inl (by rw [HWQ.out, hd]; rfl))
        have HJ := Lib.hid hj
        clear hj hd
        go_wp2_with fail
        refine hRt.mono ?_
        rintro e w4 ⟨rfl, b4⟩
        have y4 := yr.below b4 yr.lt
        have B4 := hB.trans (b4.mono hB.size)
        go_wp2_with (first | (refine wpList_store_row rfl 26 _ _ rfl w.heap.size #[.bool false, .int .u32 0, .int .u16 0, .int .u32 0, .int .u32 0, .bool false, .bool false, .bool false, .bool false, .slice none 0 0] rfl rfl _ _ y4 (by kernel_rfl) rfl (by simp [Value.oneCell']) ?_) | fail)
        (try simp only [Exit.inBlock, Exit.then])
        refine bodyPost_ret (results_row_tmp rfl _ _ w.heap.size 26 _ _ rfl (y4.setRow _) Tryz.underlying26 rfl (by kernel_rfl)) rfl ?_
        exact jnR_no HJ.out (below_setRow B4 (Nat.le_refl _) _)
      | true =>
        rw [hd] at hRt
        have HD := Lib.hid hd
        clear hd
        go_wp2_with fail
        refine hRt.mono ?_
        rintro e w4 ⟨rfl, b4⟩
        have y4 := yr.below b4 yr.lt
        have B4 := hB.trans (b4.mono hB.size)
        have x4 := hxQ.below b4 hxQ.lt
        have hp4 := hpt.on b4
        have hb4 := hbel.trans (b4.mono (by have := hbel.size; omega))
        have hA4 := (HA.out.below hb4).more (B' := w4.heap.size) (by have := hb4.size; omega)
        clear q0 q1 q2 q3 q4 q5 q6 q7 q8 q9 hRt yr hB hxQ hpt hoQ
        obtain ⟨q0, q1, q2, q3, q4, q5, q6, q7, q8, q9⟩ := x4.cs10
        obtain ⟨ad2, e2, _, _, _, _, _, _, _, _, _, _, d9⟩ := hA4.cells H0.out
        cases e2
        rw [e0] at d9
        cases hb : m0.p.bg with
        | false =>
          rw [HQb.out, hb] at q5
          have HJ := Lib.hid (HBAD.out (Or.inl (by rw [HWQ.out, hb, Bool.and_false])))
          clear hb
          go_wp2_with (first | (refine wpList_store_row rfl 26 _ _ rfl w.heap.size #[.bool false, .int .u32 0, .int .u16 0, .int .u32 0, .int .u32 0, .bool false, .bool false, .bool false, .bool false, .slice none 0 0] rfl rfl _ _ y4 (by kernel_rfl) rfl (by simp [Value.oneCell']) ?_) | fail)
          (try simp only [Exit.inBlock, Exit.then])
          refine bodyPost_ret (results_row_tmp rfl _ _ w.heap.size 26 _ _ rfl (y4.setRow _) Tryz.underlying26 rfl (by kernel_rfl)) rfl ?_
          exact jnR_no HJ.out (below_setRow B4 (Nat.le_refl _) _)
        | true =>
          rw [HQb.out, hb] at q5
          have HW1 := Lib.hid (show whoB Q = true by rw [HWQ.out, HD.out, hb]; rfl)
          clear hb
          by_cases hz : m0.p.us.length = 0
          · have hz1 : ((m0.p.us.length : Int) == 0) = true := by rw [hz]; rfl
            have HJ := Lib.hid (HBAD.out (Or.inr hz))
            clear hz
            go_wp2_with (first | (refine wpList_store_row rfl 26 _ _ rfl w.heap.size #[.bool false, .int .u32 0, .int .u16 0, .int .u32 0, .int .u32 0, .bool false, .bool false, .bool false, .bool false, .slice none 0 0] rfl rfl _ _ y4 (by kernel_rfl) rfl (by simp [Value.oneCell']) ?_) | fail)
            (try simp only [Exit.inBlock, Exit.then])
            refine bodyPost_ret (results_row_tmp rfl _ _ w.heap.size 26 _ _ rfl (y4.setRow _) Tryz.underlying26 rfl (by kernel_rfl)) rfl ?_
            exact jnR_no HJ.out (below_setRow B4 (Nat.le_refl _) _)
          · have hz1 : ((m0.p.us.length : Int) == 0) = false := by rw [beq_eq_false_iff_ne]; omega
            have hlen0 : 1 ≤ m0.p.us.length := by omega
            have hl9 : m0.p.us.length ≤ 1000000 := by
              have h9 := HT.out
              rw [HMS.out] at h9
              have h1 : tot ((m0 :: mr).map fun m => m.p.us) = m0.p.us.length + tot (mr.map fun m => m.p.us) := by simp [tot]
              omega
            clear hz
            go_upto_region 12 with fail
            have KS4 : Hid (∀ V, Below w4.heap.size w4 V → V.cell? ⟨g7, 0, none⟩ = some (.bool Q.inter) ∧ V.cell? ⟨g7, 1, none⟩ = some (uv Q.tsn) ∧ V.cell? ⟨g7, 2, none⟩ = some (hv Q.st) ∧ V.cell? ⟨g7, 3, none⟩ = some (uv Q.sq) ∧ V.cell? ⟨g7, 4, none⟩ = some (uv Q.pr) ∧ V.cell? ⟨g7, 5, none⟩ = some (.bool Q.bg) ∧ V.cell? ⟨g7, 6, none⟩ = some (.bool Q.en) ∧ V.cell? ⟨g7, 7, none⟩ = some (.bool Q.un) ∧ V.cell? ⟨g7, 8, none⟩ = some (.bool Q.nw) ∧ V.cell? ⟨g7, 9, none⟩ = some (.slice Au Q.us.length cu) ∧ V.cell? ⟨ad.block, ad.off + 9, none⟩ = some (.slice m0.A m0.p.us.length m0.c)) := fun V hV => by
              obtain ⟨c0, c1, c2, c3, c4, c5, c6, c7, c8, c9⟩ := (x4.below hV x4.lt).cs10
              obtain ⟨ad2, e2, _, _, _, _, _, _, _, _, _, _, d9⟩ := (hA4.below hV).cells H0.out
              cases e2
              rw [e0] at d9
              exact ⟨c0, c1, c2, c3, c4, c5, c6, c7, c8, c9, d9⟩
            have HSp : Hid (∀ V, Below w4.heap.size w4 V → Calls Tryz.prog 85 #[ptV Q Au cu, .int .i64 (m0.p.us.length : Int)] V fun e w' => Below V.heap.size V w' ∧ ∃ A' c' ms', e = .returned (.slice A' ms'.length c') ∧ ms'.map Pm.p = splP Q m0.p.us.length ∧ Pts w' w'.heap.size A' c' ms') := fun V hV => by
              have h9 := rsplit13_any Q Au cu m0.p.us.length hlen0 hl9 hQl V (hp4.on hV)
              unfold SplR at h9
              refine h9.mono ?_
              rintro e w' ⟨k1, A', c', ms', rfl, k2, k3⟩
              exact ⟨k1, A', c', ms', by rw [← k2, List.length_map], k2, k3⟩
            clear q0 q1 q2 q3 q4 q5 q6 q7 q8 q9 d9
            refine wp_region_held_drew (S := (fun V => V.cell? ⟨g7, 0, none⟩ = some (.bool Q.inter) ∧ V.cell? ⟨g7, 1, none⟩ = some (uv Q.tsn) ∧ V.cell? ⟨g7, 2, none⟩ = some (hv Q.st) ∧ V.cell? ⟨g7, 3, none⟩ = some (uv Q.sq) ∧ V.cell? ⟨g7, 4, none⟩ = some (uv Q.pr) ∧ V.cell? ⟨g7, 5, none⟩ = some (.bool Q.bg) ∧ V.cell? ⟨g7, 6, none⟩ = some (.bool Q.en) ∧ V.cell? ⟨g7, 7, none⟩ = some (.bool Q.un) ∧ V.cell? ⟨g7, 8, none⟩ = some (.bool Q.nw) ∧ V.cell? ⟨g7, 9, none⟩ = some (.slice Au Q.us.length cu) ∧ V.cell? ⟨ad.block, ad.off + 9, none⟩ = some (.slice m0.A m0.p.us.length m0.c))) (by kernel_rfl) (KS4.out _ (below_drew (Below.refl _ _))) (fun hHeld => ?_)
            refine take_at (i := 0) (v := ?_) (some 54) rfl (by kernel_rfl) (by kernel_rfl) (by kernel_rfl) (fun _ _ _ h => h) (by kernel_rfl) (Or.inl ⟨by kernel_rfl, ?_⟩) (by assumption) ?_
            rotate_left
            · (intro w hSw; (try dsimp only at hSw); go_simp <;> with_reducible rfl)
            simp only [Act.put, List.setIfInBounds_toArray, List.set_cons_zero, List.set_cons_succ]
            refine take_at (i := 1) (v := ?_) (some 55) rfl (by kernel_rfl) (by kernel_rfl) (by kernel_rfl) (fun _ _ _ h => h) (by kernel_rfl) (Or.inl ⟨by kernel_rfl, ?_⟩) (by assumption) ?_
            rotate_left
            · (intro w hSw; (try dsimp only at hSw); go_simp <;> with_reducible rfl)
            simp only [Act.put, List.setIfInBounds_toArray, List.set_cons_zero, List.set_cons_succ]
            refine take_at (i := 2) (v := ?_) (some 56) rfl (by kernel_rfl) (by kernel_rfl) (by kernel_rfl) (fun _ _ _ h => h) (by kernel_rfl) (Or.inl ⟨by kernel_rfl, ?_⟩) (by assumption) ?_
            rotate_left
            · (intro w hSw; (try dsimp only at hSw); go_simp <;> with_reducible rfl)
            simp only [Act.put, List.setIfInBounds_toArray, List.set_cons_zero, List.set_cons_succ]
            refine take_at (i := 3) (v := ?_) (some 57) rfl (by kernel_rfl) (by kernel_rfl) (by kernel_rfl) (fun _ _ _ h => h) (by kernel_rfl) (Or.inl ⟨by kernel_rfl, ?_⟩) (by assumption) ?_
            rotate_left
            · (intro w hSw; (try dsimp only at hSw); go_simp <;> with_reducible rfl)
            simp only [Act.put, List.setIfInBounds_toArray, List.set_cons_zero, List.set_cons_succ]
            refine take_at (i := 4) (v := ?_) (some 58) rfl (by kernel_rfl) (by kernel_rfl) (by kernel_rfl) (fun _ _ _ h => h) (by kernel_rfl) (Or.inl ⟨by kernel_rfl, ?_⟩) (by assumption) ?_
            rotate_left
            · (intro w hSw; (try dsimp only at hSw); go_simp <;> with_reducible rfl)
            simp only [Act.put, List.setIfInBounds_toArray, List.set_cons_zero, List.set_cons_succ]
            refine take_at (i := 5) (v := ?_) (some 59) rfl (by kernel_rfl) (by kernel_rfl) (by kernel_rfl) (fun _ _ _ h => h) (by kernel_rfl) (Or.inl ⟨by kernel_rfl, ?_⟩) (by assumption) ?_
            rotate_left
            · (intro w hSw; (try dsimp only at hSw); go_simp <;> with_reducible rfl)
            simp only [Act.put, List.setIfInBounds_toArray, List.set_cons_zero, List.set_cons_succ]
            refine wpAnyH_ready (rs := [6]) (by kernel_rfl) (by simp) ?_
            refine AllReadyH.cons rfl (fun K hK => ?_) AllReadyH.nil
            go_simp
            go_at_call 85; (with_reducible refine (HSp.out _ (below_drew (Below.refl _ _))).mono ?_); rintro e w5 ⟨b5, A5, c5, ms5, rfl, hm5, hP5⟩; have R5 : Below w4.heap.size w4 w5 := below_undrew13 b5
            go_wp2_with fail
            clear hHeld
            refine hK.out _ _ (KS4.out _ R5) (fun hHeld => ?_)
            clear hK K
            try simp only [Act.put, List.setIfInBounds_toArray, List.set_cons_zero, List.set_cons_succ]
            refine take_at (i := 7) (v := ?_) (some 6) rfl (by kernel_rfl) (by kernel_rfl) (by kernel_rfl) (fun _ _ _ h => h) (by kernel_rfl) (Or.inl ⟨by kernel_rfl, ?_⟩) (by assumption) ?_
            rotate_left
            · (intro w hSw; (try dsimp only at hSw); go_simp <;> with_reducible rfl)
            simp only [Act.put, List.setIfInBounds_toArray, List.set_cons_zero, List.set_cons_succ]
            refine wpAnyH_done (by kernel_rfl) ?_ _
            skip
            have hsl : splL Q (m0.p.us.length : Int) = ms5.map Pm.p := by
              unfold splL
              rw [if_pos ⟨HW1.out, by omega⟩, Int.toNat_natCast]
              exact hm5.symm
            have HBQ : Hid (jnB (ms.map Pm.p) = eqfB (ms5.map Pm.p) (ms.map Pm.p)) := by unfold Hid; rw [HHB.out, hsl]
            have y5 := y4.below R5 y4.lt
            have B5 := B4.trans (R5.mono B4.size)
            have x5 := x4.below R5 x4.lt
            have hp5 := hp4.on R5
            have hA5 := hA4.on R5
            clear hsl hm5 y4 x4 hp4 hA4 KS4 HSp hHeld
            by_cases hq : ms5.length = ms.length
            rotate_left
            · have hne5 : ((ms5.length : Int) != (ms.length : Int)) = true := by rw [bne_iff_ne]; omega
              have HJ := Lib.hid (show jnB (ms.map Pm.p) = false by rw [HBQ.out]; unfold eqfB; rw [decide_eq_false (by simpa using hq)]; rfl)
              clear hq
              go_wp2_with (first | (refine wpList_store_row rfl 26 _ _ rfl w.heap.size #[.bool false, .int .u32 0, .int .u16 0, .int .u32 0, .int .u32 0, .bool false, .bool false, .bool false, .bool false, .slice none 0 0] rfl rfl _ _ y5 (by kernel_rfl) rfl (by simp [Value.oneCell']) ?_) | fail)
              (try simp only [Exit.inBlock, Exit.then])
              refine bodyPost_ret (results_row_tmp rfl _ _ w.heap.size 26 _ _ rfl (y5.setRow _) Tryz.underlying26 rfl (by kernel_rfl)) rfl ?_
              exact jnR_no HJ.out (below_setRow B5 (Nat.le_refl _) _)
            · have hne5 : ((ms5.length : Int) != (ms.length : Int)) = false := by rw [bne_eq_false_iff_eq]; omega
              have HQ5 := Lib.hid hq
              clear hq
              go_upto_region 16 with fail
              go_loopw [7] (fun i wr => ∃ k : Nat, k ≤ ms.length ∧ i = .int .i64 (k : Int) ∧ Hid (∀ i, i < k → sameB ((ms5.map Pm.p).getD i pt0) ((ms.map Pm.p).getD i pt0) = true) ∧ Below w5.heap.size w5 wr) (fun i _ => ms.length - (intOf i).toNat)
              case atStart => exact ⟨0, Nat.zero_le _, rfl, fun i hi => absurd hi (Nat.not_lt_zero i), Below.refl _ _⟩
              case round =>
                obtain ⟨k, hk, rfl, hall, hbel5⟩ := hrel
                have y6 := y5.below hbel5 y5.lt
                have B6 := B5.trans (hbel5.mono B5.size)
                by_cases hlt : k < ms.length
                · obtain ⟨m1, hm1⟩ : ∃ m1, ms5[k]? = some m1 := ⟨_, List.getElem?_eq_getElem (by rw [HQ5.out]; exact hlt)⟩
                  obtain ⟨m2, hm2⟩ : ∃ m2, ms[k]? = some m2 := ⟨_, List.getElem?_eq_getElem hlt⟩
                  have g1 := (hP5.on hbel5).each m1 (List.mem_of_getElem? hm1)
                  have g2 := (hA5.on hbel5).each m2 (List.mem_of_getElem? hm2)
                  have HC1 := Lib.hid (fun V (hV : Below wr.heap.size wr V) => (((hP5.on hbel5).below hV).cells hm1))
                  have HC2 := Lib.hid (fun V (hV : Below wr.heap.size wr V) => (((hA5.on hbel5).below hV).cells hm2))
                  obtain ⟨ad5, hA55, hadb5, _⟩ := HC1.out wr (Below.refl _ _)
                  have hlt5 : k < ms5.length := by rw [HQ5.out]; exact hlt
                  have hi1 : (k : Int) < (ms.length : Int) := by omega
                  have hi2 : (k : Int) < (ms5.length : Int) := by omega
                  have HS1 : Hid (sameB ((ms5.map Pm.p).getD k pt0) ((ms.map Pm.p).getD k pt0) = sameB m1.p m2.p) := by unfold Hid; rw [getD_pm hm1, getD_pm hm2]
                  have KS : Hid (∀ V, Below wr.heap.size wr V → V.cell? (ad5.add (k * 10)) = some (.bool m1.p.inter) ∧ V.cell? ⟨(ad5.add (k * 10)).block, (ad5.add (k * 10)).off + 1, none⟩ = some (uv m1.p.tsn) ∧ V.cell? ⟨(ad5.add (k * 10)).block, (ad5.add (k * 10)).off + 2, none⟩ = some (hv m1.p.st) ∧ V.cell? ⟨(ad5.add (k * 10)).block, (ad5.add (k * 10)).off + 3, none⟩ = some (uv m1.p.sq) ∧ V.cell? ⟨(ad5.add (k * 10)).block, (ad5.add (k * 10)).off + 4, none⟩ = some (uv m1.p.pr) ∧ V.cell? ⟨(ad5.add (k * 10)).block, (ad5.add (k * 10)).off + 5, none⟩ = some (.bool m1.p.bg) ∧ V.cell? ⟨(ad5.add (k * 10)).block, (ad5.add (k * 10)).off + 6, none⟩ = some (.bool m1.p.en) ∧ V.cell? ⟨(ad5.add (k * 10)).block, (ad5.add (k * 10)).off + 7, none⟩ = some (.bool m1.p.un) ∧ V.cell? ⟨(ad5.add (k * 10)).block, (ad5.add (k * 10)).off + 8, none⟩ = some (.bool m1.p.nw) ∧ V.cell? ⟨(ad5.add (k * 10)).block, (ad5.add (k * 10)).off + 9, none⟩ = some (.slice m1.A m1.p.us.length m1.c) ∧ V.cell? (ad.add (k * 10)) = some (.bool m2.p.inter) ∧ V.cell? ⟨(ad.add (k * 10)).block, (ad.add (k * 10)).off + 1, none⟩ = some (uv m2.p.tsn) ∧ V.cell? ⟨(ad.add (k * 10)).block, (ad.add (k * 10)).off + 2, none⟩ = some (hv m2.p.st) ∧ V.cell? ⟨(ad.add (k * 10)).block, (ad.add (k * 10)).off + 3, none⟩ = some (uv m2.p.sq) ∧ V.cell? ⟨(ad.add (k * 10)).block, (ad.add (k * 10)).off + 4, none⟩ = some (uv m2.p.pr) ∧ V.cell? ⟨(ad.add (k * 10)).block, (ad.add (k * 10)).off + 5, none⟩ = some (.bool m2.p.bg) ∧ V.cell? ⟨(ad.add (k * 10)).block, (ad.add (k * 10)).off + 6, none⟩ = some (.bool m2.p.en) ∧ V.cell? ⟨(ad.add (k * 10)).block, (ad.add (k * 10)).off + 7, none⟩ = some (.bool m2.p.un) ∧ V.cell? ⟨(ad.add (k * 10)).block, (ad.add (k * 10)).off + 8, none⟩ = some (.bool m2.p.nw) ∧ V.cell? ⟨(ad.add (k * 10)).block, (ad.add (k * 10)).off + 9, none⟩ = some (.slice m2.A m2.p.us.length m2.c)) := fun V hV => by
                    obtain ⟨d1, e1, _, a0, a1, a2, a3, a4, a5, a6, a7, a8, a9⟩ := HC1.out V hV
                    obtain ⟨d2, e2, _, b0, b1, b2, b3, b4, b5, b6, b7, b8, b9⟩ := HC2.out V hV
                    rw [hA55] at e1
                    cases e1
                    cases e2
                    exact ⟨a0, a1, a2, a3, a4, a5, a6, a7, a8, a9, b0, b1, b2, b3, b4, b5, b6, b7, b8, b9⟩
                  have hRS : ∀ V, Below wr.heap.size wr V → Calls Tryz.prog 21 #[ptV m1.p m1.A m1.c, ptV m2.p m2.A m2.c] V fun e w' => e = .returned (.bool (sameB m1.p m2.p)) ∧ Below V.heap.size V w' := fun V hV => by
                    have h9 := rsame13_any m1.p m2.p (by have := g1.dc; have := g1.dm; omega) m1.A m1.c m2.A m2.c V (g1.on hV) (g2.on hV)
                    rw [sameB_ptEq] at h9
                    exact h9
                  rw [hA55]
                  have HA55 := Lib.hid hA55
                  clear HC1 HC2 hm1 hm2 hadb5 hA55 g1 g2
                  cases hsm : sameB m1.p m2.p with
                  | false =>
                    rw [hsm] at hRS
                    have HSm := Lib.hid hRS
                    have HJ := Lib.hid (show jnB (ms.map Pm.p) = false by rw [HBQ.out]; exact eqfB_no (k := k) (by rw [List.length_map]; exact hlt5) (HS1.out.trans hsm))
                    clear hsm hall hRS
                    go_upto_region 18 with fail
                    refine wp_region_held_drew (S := (fun V => V.cell? (ad5.add (k * 10)) = some (.bool m1.p.inter) ∧ V.cell? ⟨(ad5.add (k * 10)).block, (ad5.add (k * 10)).off + 1, none⟩ = some (uv m1.p.tsn) ∧ V.cell? ⟨(ad5.add (k * 10)).block, (ad5.add (k * 10)).off + 2, none⟩ = some (hv m1.p.st) ∧ V.cell? ⟨(ad5.add (k * 10)).block, (ad5.add (k * 10)).off + 3, none⟩ = some (uv m1.p.sq) ∧ V.cell? ⟨(ad5.add (k * 10)).block, (ad5.add (k * 10)).off + 4, none⟩ = some (uv m1.p.pr) ∧ V.cell? ⟨(ad5.add (k * 10)).block, (ad5.add (k * 10)).off + 5, none⟩ = some (.bool m1.p.bg) ∧ V.cell? ⟨(ad5.add (k * 10)).block, (ad5.add (k * 10)).off + 6, none⟩ = some (.bool m1.p.en) ∧ V.cell? ⟨(ad5.add (k * 10)).block, (ad5.add (k * 10)).off + 7, none⟩ = some (.bool m1.p.un) ∧ V.cell? ⟨(ad5.add (k * 10)).block, (ad5.add (k * 10)).off + 8, none⟩ = some (.bool m1.p.nw) ∧ V.cell? ⟨(ad5.add (k * 10)).block, (ad5.add (k * 10)).off + 9, none⟩ = some (.slice m1.A m1.p.us.length m1.c) ∧ V.cell? (ad.add (k * 10)) = some (.bool m2.p.inter) ∧ V.cell? ⟨(ad.add (k * 10)).block, (ad.add (k * 10)).off + 1, none⟩ = some (uv m2.p.tsn) ∧ V.cell? ⟨(ad.add (k * 10)).block, (ad.add (k * 10)).off + 2, none⟩ = some (hv m2.p.st) ∧ V.cell? ⟨(ad.add (k * 10)).block, (ad.add (k * 10)).off + 3, none⟩ = some (uv m2.p.sq) ∧ V.cell? ⟨(ad.add (k * 10)).block, (ad.add (k * 10)).off + 4, none⟩ = some (uv m2.p.pr) ∧ V.cell? ⟨(ad.add (k * 10)).block, (ad.add (k * 10)).off + 5, none⟩ = some (.bool m2.p.bg) ∧ V.cell? ⟨(ad.add (k * 10)).block, (ad.add (k * 10)).off + 6, none⟩ = some (.bool m2.p.en) ∧ V.cell? ⟨(ad.add (k * 10)).block, (ad.add (k * 10)).off + 7, none⟩ = some (.bool m2.p.un) ∧ V.cell? ⟨(ad.add (k * 10)).block, (ad.add (k * 10)).off + 8, none⟩ = some (.bool m2.p.nw) ∧ V.cell? ⟨(ad.add (k * 10)).block, (ad.add (k * 10)).off + 9, none⟩ = some (.slice m2.A m2.p.us.length m2.c))) (by kernel_rfl) (KS.out _ (below_drew (Below.refl _ _))) (fun hHeld => ?_)
                    refine take_at (i := 0) (v := ?_) (some 73) rfl (by kernel_rfl) (by kernel_rfl) (by kernel_rfl) (fun _ _ _ h => h) (by kernel_rfl) (Or.inl ⟨by kernel_rfl, ?_⟩) (by assumption) ?_
                    rotate_left
                    · (intro w hSw; (try dsimp only at hSw); go_simp <;> with_reducible rfl)
                    simp only [Act.put, List.setIfInBounds_toArray, List.set_cons_zero, List.set_cons_succ]
                    refine take_at (i := 1) (v := ?_) (some 74) rfl (by kernel_rfl) (by kernel_rfl) (by kernel_rfl) (fun _ _ _ h => h) (by kernel_rfl) (Or.inl ⟨by kernel_rfl, ?_⟩) (by assumption) ?_
                    rotate_left
                    · (intro w hSw; (try dsimp only at hSw); go_simp <;> with_reducible rfl)
                    simp only [Act.put, List.setIfInBounds_toArray, List.set_cons_zero, List.set_cons_succ]
                    refine take_at (i := 2) (v := ?_) (some 75) rfl (by kernel_rfl) (by kernel_rfl) (by kernel_rfl) (fun _ _ _ h => h) (by kernel_rfl) (Or.inl ⟨by kernel_rfl, ?_⟩) (by assumption) ?_
                    rotate_left
                    · (intro w hSw; (try dsimp only at hSw); go_simp <;> with_reducible rfl)
                    simp only [Act.put, List.setIfInBounds_toArray, List.set_cons_zero, List.set_cons_succ]
                    refine take_at (i := 3) (v := ?_) (some 76) rfl (by kernel_rfl) (by kernel_rfl) (by kernel_rfl) (fun _ _ _ h => h) (by kernel_rfl) (Or.inl ⟨by kernel_rfl, ?_⟩) (by assumption) ?_
                    rotate_left
                    · (intro w hSw; (try dsimp only at hSw); go_simp <;> with_reducible rfl)
                    simp only [Act.put, List.setIfInBounds_toArray, List.set_cons_zero, List.set_cons_succ]
                    refine take_at (i := 4) (v := ?_) (some 77) rfl (by kernel_rfl) (by kernel_rfl) (by kernel_rfl) (fun _ _ _ h => h) (by kernel_rfl) (Or.inl ⟨by kernel_rfl, ?_⟩) (by assumption) ?_
                    rotate_left
                    · (intro w hSw; (try dsimp only at hSw); go_simp <;> with_reducible rfl)
                    simp only [Act.put, List.setIfInBounds_toArray, List.set_cons_zero, List.set_cons_succ]
                    refine take_at (i := 5) (v := ?_) (some 78) rfl (by kernel_rfl) (by kernel_rfl) (by kernel_rfl) (fun _ _ _ h => h) (by kernel_rfl) (Or.inl ⟨by kernel_rfl, ?_⟩) (by assumption) ?_
                    rotate_left
                    · (intro w hSw; (try dsimp only at hSw); go_simp <;> with_reducible rfl)
                    simp only [Act.put, List.setIfInBounds_toArray, List.set_cons_zero, List.set_cons_succ]
                    refine take_at (i := 6) (v := ?_) (some 79) rfl (by kernel_rfl) (by kernel_rfl) (by kernel_rfl) (fun _ _ _ h => h) (by kernel_rfl) (Or.inl ⟨by kernel_rfl, ?_⟩) (by assumption) ?_
                    rotate_left
                    · (intro w hSw; (try dsimp only at hSw); go_simp <;> with_reducible rfl)
                    simp only [Act.put, List.setIfInBounds_toArray, List.set_cons_zero, List.set_cons_succ]
                    refine take_at (i := 7) (v := ?_) (some 80) rfl (by kernel_rfl) (by kernel_rfl) (by kernel_rfl) (fun _ _ _ h => h) (by kernel_rfl) (Or.inl ⟨by kernel_rfl, ?_⟩) (by assumption) ?_
                    rotate_left
                    · (intro w hSw; (try dsimp only at hSw); go_simp <;> with_reducible rfl)
                    simp only [Act.put, List.setIfInBounds_toArray, List.set_cons_zero, List.set_cons_succ]
                    refine wpAnyH_ready (rs := [8]) (by kernel_rfl) (by simp) ?_
                    refine AllReadyH.cons rfl (fun K hK => ?_) AllReadyH.nil
                    go_simp
                    go_at_call 21; (with_reducible refine (HSm.out _ (below_drew (Below.refl _ _))).mono ?_); rintro e w6 ⟨rfl, b6⟩; have R6 : Below wr.heap.size wr w6 := below_undrew13 b6
                    go_wp2_with fail
                    clear hHeld
                    refine hK.out _ _ (KS.out _ R6) (fun hHeld => ?_)
                    clear hK K
                    try simp only [Act.put, List.setIfInBounds_toArray, List.set_cons_zero, List.set_cons_succ]
                    refine take_at (i := 9) (v := ?_) (some 82) rfl (by kernel_rfl) (by kernel_rfl) (by kernel_rfl) (fun _ _ _ h => h) (by kernel_rfl) (Or.inl ⟨by kernel_rfl, ?_⟩) (by assumption) ?_
                    rotate_left
                    · (intro w hSw; (try dsimp only at hSw); go_simp <;> with_reducible rfl)
                    simp only [Act.put, List.setIfInBounds_toArray, List.set_cons_zero, List.set_cons_succ]
                    refine wpAnyH_done (by kernel_rfl) ?_ _
                    skip
                    have y7 := y6.below R6 y6.lt
                    have B7' := B6.trans (R6.mono B6.size)
                    go_wp2_with (first | (refine wpList_store_row rfl 26 _ _ rfl w.heap.size #[.bool false, .int .u32 0, .int .u16 0, .int .u32 0, .int .u32 0, .bool false, .bool false, .bool false, .bool false, .slice none 0 0] rfl rfl _ _ y7 (by kernel_rfl) rfl (by simp [Value.oneCell']) ?_) | fail)
                    (try simp only [Exit.inBlock, Exit.then])
                    refine bodyPost_ret (results_row_tmp rfl _ _ w.heap.size 26 _ _ rfl (y7.setRow _) Tryz.underlying26 rfl (by kernel_rfl)) rfl ?_
                    exact jnR_no HJ.out (below_setRow B7' (Nat.le_refl _) _)
                  | true =>
                    rw [hsm] at hRS
                    have HSm := Lib.hid hRS
                    have HAL : Hid (∀ i, i < k + 1 → sameB ((ms5.map Pm.p).getD i pt0) ((ms.map Pm.p).getD i pt0) = true) := fun i hi => by
                      rcases Nat.lt_or_ge i k with h1 | h1
                      · exact hall.out i h1
                      · rw [show i = k by omega]; exact HS1.out.trans hsm
                    clear hsm hall hRS
                    go_upto_region 18 with fail
                    refine wp_region_held_drew (S := (fun V => V.cell? (ad5.add (k * 10)) = some (.bool m1.p.inter) ∧ V.cell? ⟨(ad5.add (k * 10)).block, (ad5.add (k * 10)).off + 1, none⟩ = some (uv m1.p.tsn) ∧ V.cell? ⟨(ad5.add (k * 10)).block, (ad5.add (k * 10)).off + 2, none⟩ = some (hv m1.p.st) ∧ V.cell? ⟨(ad5.add (k * 10)).block, (ad5.add (k * 10)).off + 3, none⟩ = some (uv m1.p.sq) ∧ V.cell? ⟨(ad5.add (k * 10)).block, (ad5.add (k * 10)).off + 4, none⟩ = some (uv m1.p.pr) ∧ V.cell? ⟨(ad5.add (k * 10)).block, (ad5.add (k * 10)).off + 5, none⟩ = some (.bool m1.p.bg) ∧ V.cell? ⟨(ad5.add (k * 10)).block, (ad5.add (k * 10)).off + 6, none⟩ = some (.bool m1.p.en) ∧ V.cell? ⟨(ad5.add (k * 10)).block, (ad5.add (k * 10)).off + 7, none⟩ = some (.bool m1.p.un) ∧ V.cell? ⟨(ad5.add (k * 10)).block, (ad5.add (k * 10)).off + 8, none⟩ = some (.bool m1.p.nw) ∧ V.cell? ⟨(ad5.add (k * 10)).block, (ad5.add (k * 10)).off + 9, none⟩ = some (.slice m1.A m1.p.us.length m1.c) ∧ V.cell? (ad.add (k * 10)) = some (.bool m2.p.inter) ∧ V.cell? ⟨(ad.add (k * 10)).block, (ad.add (k * 10)).off + 1, none⟩ = some (uv m2.p.tsn) ∧ V.cell? ⟨(ad.add (k * 10)).block, (ad.add (k * 10)).off + 2, none⟩ = some (hv m2.p.st) ∧ V.cell? ⟨(ad.add (k * 10)).block, (ad.add (k * 10)).off + 3, none⟩ = some (uv m2.p.sq) ∧ V.cell? ⟨(ad.add (k * 10)).block, (ad.add (k * 10)).off + 4, none⟩ = some (uv m2.p.pr) ∧ V.cell? ⟨(ad.add (k * 10)).block, (ad.add (k * 10)).off + 5, none⟩ = some (.bool m2.p.bg) ∧ V.cell? ⟨(ad.add (k * 10)).block, (ad.add (k * 10)).off + 6, none⟩ = some (.bool m2.p.en) ∧ V.cell? ⟨(ad.add (k * 10)).block, (ad.add (k * 10)).off + 7, none⟩ = some (.bool m2.p.un) ∧ V.cell? ⟨(ad.add (k * 10)).block, (ad.add (k * 10)).off + 8, none⟩ = some (.bool m2.p.nw) ∧ V.cell? ⟨(ad.add (k * 10)).block, (ad.add (k * 10)).off + 9, none⟩ = some (.slice m2.A m2.p.us.length m2.c))) (by kernel_rfl) (KS.out _ (below_drew (Below.refl _ _))) (fun hHeld => ?_)
                    refine take_at (i := 0) (v := ?_) (some 73) rfl (by kernel_rfl) (by kernel_rfl) (by kernel_rfl) (fun _ _ _ h => h) (by kernel_rfl) (Or.inl ⟨by kernel_rfl, ?_⟩) (by assumption) ?_
                    rotate_left
                    · (intro w hSw; (try dsimp only at hSw); go_simp <;> with_reducible rfl)
                    simp only [Act.put, List.setIfInBounds_toArray, List.set_cons_zero, List.set_cons_succ]
                    refine take_at (i := 1) (v := ?_) (some 74) rfl (by kernel_rfl) (by kernel_rfl) (by kernel_rfl) (fun _ _ _ h => h) (by kernel_rfl) (Or.inl ⟨by kernel_rfl, ?_⟩) (by assumption) ?_
                    rotate_left
                    · (intro w hSw; (try dsimp only at hSw); go_simp <;> with_reducible rfl)
                    simp only [Act.put, List.setIfInBounds_toArray, List.set_cons_zero, List.set_cons_succ]
                    refine take_at (i := 2) (v := ?_) (some 75) rfl (by kernel_rfl) (by kernel_rfl) (by kernel_rfl) (fun _ _ _ h => h) (by kernel_rfl) (Or.inl ⟨by kernel_rfl, ?_⟩) (by assumption) ?_
                    rotate_left
                    · (intro w hSw; (try dsimp only at hSw); go_simp <;> with_reducible rfl)
                    simp only [Act.put, List.setIfInBounds_toArray, List.set_cons_zero, List.set_cons_succ]
                    refine take_at (i := 3) (v := ?_) (some 76) rfl (by kernel_rfl) (by kernel_rfl) (by kernel_rfl) (fun _ _ _ h => h) (by kernel_rfl) (Or.inl ⟨by kernel_rfl, ?_⟩) (by assumption) ?_
                    rotate_left
                    · (intro w hSw; (try dsimp only at hSw); go_simp <;> with_reducible rfl)
                    simp only [Act.put, List.setIfInBounds_toArray, List.set_cons_zero, List.set_cons_succ]
                    refine take_at (i := 4) (v := ?_) (some 77) rfl (by kernel_rfl) (by kernel_rfl) (by kernel_rfl) (fun _ _ _ h => h) (by kernel_rfl) (Or.inl ⟨by kernel_rfl, ?_⟩) (by assumption) ?_
                    rotate_left
                    · (intro w hSw; (try dsimp only at hSw); go_simp <;> with_reducible rfl)
                    simp only [Act.put, List.setIfInBounds_toArray, List.set_cons_zero, List.set_cons_succ]
                    refine take_at (i := 5) (v := ?_) (some 78) rfl (by kernel_rfl) (by kernel_rfl) (by kernel_rfl) (fun _ _ _ h => h) (by kernel_rfl) (Or.inl ⟨by kernel_rfl, ?_⟩) (by assumption) ?_
                    rotate_left
                    · (intro w hSw; (try dsimp only at hSw); go_simp <;> with_reducible rfl)
                    simp only [Act.put, List.setIfInBounds_toArray, List.set_cons_zero, List.set_cons_succ]
                    refine take_at (i := 6) (v := ?_) (some 79) rfl (by kernel_rfl) (by kernel_rfl) (by kernel_rfl) (fun _ _ _ h => h) (by kernel_rfl) (Or.inl ⟨by kernel_rfl, ?_⟩) (by assumption) ?_
                    rotate_left
                    · (intro w hSw; (try dsimp only at hSw); go_simp <;> with_reducible rfl)
                    simp only [Act.put, List.setIfInBounds_toArray, List.set_cons_zero, List.set_cons_succ]
                    refine take_at (i := 7) (v := ?_) (some 80) rfl (by kernel_rfl) (by kernel_rfl) (by kernel_rfl) (fun _ _ _ h => h) (by kernel_rfl) (Or.inl ⟨by kernel_rfl, ?_⟩) (by assumption) ?_
                    rotate_left
                    · (intro w hSw; (try dsimp only at hSw); go_simp <;> with_reducible rfl)
                    simp only [Act.put, List.setIfInBounds_toArray, List.set_cons_zero, List.set_cons_succ]
                    refine wpAnyH_ready (rs := [8]) (by kernel_rfl) (by simp) ?_
                    refine AllReadyH.cons rfl (fun K hK => ?_) AllReadyH.nil
                    go_simp
                    go_at_call 21; (with_reducible refine (HSm.out _ (below_drew (Below.refl _ _))).mono ?_); rintro e w6 ⟨rfl, b6⟩; have R6 : Below wr.heap.size wr w6 := below_undrew13 b6
                    go_wp2_with fail
                    clear hHeld
                    refine hK.out _ _ (KS.out _ R6) (fun hHeld => ?_)
                    clear hK K
                    try simp only [Act.put, List.setIfInBounds_toArray, List.set_cons_zero, List.set_cons_succ]
                    refine take_at (i := 9) (v := ?_) (some 82) rfl (by kernel_rfl) (by kernel_rfl) (by kernel_rfl) (fun _ _ _ h => h) (by kernel_rfl) (Or.inl ⟨by kernel_rfl, ?_⟩) (by assumption) ?_
                    rotate_left
                    · (intro w hSw; (try dsimp only at hSw); go_simp <;> with_reducible rfl)
                    simp only [Act.put, List.setIfInBounds_toArray, List.set_cons_zero, List.set_cons_succ]
                    refine wpAnyH_done (by kernel_rfl) ?_ _
                    skip
                    go_wp2_with fail
                    go_roundw
                    case rel => exact ⟨k + 1, by omega, by go_num, HAL, hbel5.trans (R6.mono hbel5.size)⟩
                    case measure => simp [intOf]; omega
                · obtain rfl : k = ms.length := by omega
                  have hi1 : ¬ (ms.length : Int) < (ms.length : Int) := by omega
                  have HJ := Lib.hid (show jnB (ms.map Pm.p) = true by rw [HBQ.out]; exact eqfB_yes (by rw [List.length_map, List.length_map]; exact HQ5.out) (by rw [List.length_map, HQ5.out]; exact hall.out))
                  have x6 := x5.below hbel5 x5.lt
                  have hp6 := hp5.on hbel5
                  clear hall
                  go_wp2_with (first | (refine wpList_load_row rfl 26 _ rfl g7 rfl 26 #[.bool Q.inter, uv Q.tsn, hv Q.st, uv Q.sq, uv Q.pr, .bool Q.bg, .bool Q.en, .bool Q.un, .bool Q.nw, .slice Au Q.us.length cu] (0, 0) _ x6 Tryz.underlying26 rfl (by kernel_rfl) ?_) | (refine wpList_store_row rfl 26 _ _ rfl w.heap.size #[.bool Q.inter, uv Q.tsn, hv Q.st, uv Q.sq, uv Q.pr, .bool Q.bg, .bool Q.en, .bool Q.un, .bool Q.nw, .slice Au Q.us.length cu] rfl rfl _ _ y6 (by kernel_rfl) rfl (by simp [Value.oneCell']) ?_) | fail)
                  (try simp only [Exit.inBlock, Exit.then])
                  refine bodyPost_ret (results_row_tmp rfl _ _ w.heap.size 26 _ _ rfl (y6.setRow _) Tryz.underlying26 rfl (by kernel_rfl)) rfl ?_
                  unfold JnR13 jnP
                  rw [HJ.out, if_pos rfl, HHQ.out]
                  refine ⟨below_setRow B6 (Nat.le_refl _) _, Au, cu, rfl, ?_, hp6.dc, hp6.dm⟩
                  have hsz9 : (wr.setRow w.heap.size #[.bool Q.inter, uv Q.tsn, hv Q.st, uv Q.sq, uv Q.pr, .bool Q.bg, .bool Q.en, .bool Q.un, .bool Q.nw, .slice Au Q.us.length cu]).heap.size = wr.heap.size := by simp
                  rw [hsz9]
                  intro hx9
                  obtain ⟨a1, z1, z2, z3⟩ := hp6.data hx9
                  refine ⟨a1, z1, z2, fun j u hu => ?_⟩
                  obtain ⟨a2, f1, f2⟩ := HLw.out hx9
                  rw [z1] at f1
                  cases f1
                  rw [cell_setRow_other _ _ _ _ (fun e => by rw [blk_add] at e; omega)]
                  exact z3 j u hu
set_option maxRecDepth 100000 in
set_option maxHeartbeats 4000000 in
theorem rjoin13_any (ms : List Pm) (A : Option Addr) (c : Nat) (w : World) (h : Pts w w.heap.size A c ms) (hl : ms.length ≤ 30) (ht : tot (ms.map fun m => m.p.us) ≤ 1000000) :
    Calls Tryz.prog 25 #[.slice A ms.length c] w (JnR13 (ms.map Pm.p) w) := by
  cases ms with
  | cons m0 mr => exact rjoinP_any m0 mr A c w h hl ht
  | nil =>
    have b0 : Below w.heap.size w (w.alloc (.cells #[.bool false, .int .u32 0, .int .u16 0, .int .u32 0, .int .u32 0, .bool false, .bool false, .bool false, .bool false, .slice none 0 0] 26)) := (Below.refl _ w).alloc (Nat.le_refl _) _
    have y0 := Whole.new w 26 #[.bool false, .int .u32 0, .int .u16 0, .int .u32 0, .int .u32 0, .bool false, .bool false, .bool false, .bool false, .slice none 0 0]
    have hNo := jnR_no (ps := []) (w := w) rfl (below_setRow b0 (Nat.le_refl _) #[.bool false, .int .u32 0, .int .u16 0, .int .u32 0, .int .u32 0, .bool false, .bool false, .bool false, .bool false, .slice none 0 0])
    go_enter Tryz.func25, Tryz.ntmps25
    go_wp2_with (first | (refine wpList_store_row rfl 26 _ _ rfl w.heap.size #[.bool false, .int .u32 0, .int .u16 0, .int .u32 0, .int .u32 0, .bool false, .bool false, .bool false, .bool false, .slice none 0 0] rfl rfl _ _ y0 (by kernel_rfl) rfl (by simp [Value.oneCell']) ?_) | fail)
    (try simp only [Exit.inBlock, Exit.then])
    refine bodyPost_ret (results_row_tmp rfl _ _ w.heap.size 26 _ _ rfl (y0.setRow _) Tryz.underlying26 rfl (by kernel_rfl)) rfl ?_
    exact hNo
end Go.Proofs.YtdcppcoldaaldaaGreatDoor


