/- Layer 14: descriptions of the reference as the program's, and back (given, back). They write nothing that was there. -/
/- Layer 14: the reference's Of. It writes nothing that was there. -/
/- Layer 14: what the statements check first (awake). It writes nothing that was there. -/
/- Layer 14: what an argument that is a description reads as. No condition of its own. -/
/- Layer 14: few; the law SackCovers. It writes nothing that was there. -/
import Derived.Test.YtabljmiiekpgiaaGreatDoorQSackS
import Derived.BigGuard
import Derived.Deep.RegionHeld3
import Derived.Test.YtabljmiiekpgiaaGreatDoorQDT
import Derived.Test.YtabljmiiekpgiaaGreatDoorQWireF
import Derived.Deep.Cut
import Derived.Test.YtabljmiiekpgiaaGreatDoorQNS
import Derived.Test.YtabljmiiekpgiaaGreatDoorQCX
import Derived.Test.YtabljmiiekpgiaaGreatDoorQXA
import Derived.Test.YtabljmiiekpgiaaGreatDoorQSKA



namespace Go.Proofs.YtabljmiiekpgiaaGreatDoor
open Go.RowKit

set_option linter.unusedSimpArgs false
theorem own_empty32 (w : World) (base : Nat) (hb : base ≤ w.heap.size) : (w.alloc (.cells #[] 22)).ownsRow base 22 1 (.slice (some ⟨w.heap.size, 0, none⟩) 0 0) 0 [] :=
  World.ownsRow_made w #[] 0 hb (Nat.zero_le _) rfl
theorem rgapinfo : (Tryz.prog.info? 89).map (fun i => (i.zero, i.size, i.bytes)) = some (some (.agg #[.int .u16 0, .int .u16 0]), 2, 4) := by kernel_rfl
/-- what given and back hold while they copy the gaps -/
structure GvI (B L g : Nat) (T E : TypeId) (wa : World) (a b : UInt32) (gs : List Gp) (D : Option Addr) (dc n : Nat) (ds : List UInt32) (k : Nat) (V : World) : Prop where
  box : ∃ Gv gc, Whole V g T #[uv a, uv b, .slice Gv k gc, .slice D n dc] ∧ V.ownsRow B E 2 (.slice Gv k gc) k (gpFlat (gs.take k))
  dl : Lies V L D (ds.map uv) ∨ V.ownsRow B 22 1 (.slice D n dc) n (ds.map uv)
  low : Below B wa V
theorem gvI_next {B L g : Nat} {T E : TypeId} {wa : World} {a b : UInt32} {gs : List Gp} {D : Option Addr} {dc n : Nat} {ds : List UInt32} {k : Nat} {V w7 : World} {Gv A7 : Option Addr} {gc c7 : Nat} {news : List Value}
    (hi : GvI B L g T E wa a b gs D dc n ds k V) (x7 : Whole w7 g T #[uv a, uv b, .slice Gv k gc, .slice D n dc]) (own7 : w7.ownsRow B E 2 (.slice A7 (k + 1) c7) (k + 1) (gpFlat (gs.take k) ++ news)) (hT : gpFlat (gs.take (k + 1)) = gpFlat (gs.take k) ++ news)
    (hL : L ≤ B) (d7 : Lies w7 L D (ds.map uv) ∨ w7.ownsRow B 22 1 (.slice D n dc) n (ds.map uv)) (low7 : Below B V w7) (hge : B ≤ g) (hTE : T ≠ E) (hTu : T ≠ 22) : GvI B L g T E wa a b gs D dc n ds (k + 1) (w7.setCell ⟨g, 2, none⟩ (.slice A7 (k + 1) c7)) :=
  ⟨⟨A7, c7, x7.set_ 2 _, by rw [hT]; exact own7.kept (grownBy_setCell1 w7 g 2 _) (.inr (whole_row_ne13 x7 hTE own7))⟩, d7.imp (fun h => h.below ((Below.refl _ _).setCell (p := ⟨g, 2, none⟩) (Nat.le_trans hL hge) _)) (fun h => own_set13 h x7 hTu), hi.low.trans (low7.setCell (p := ⟨g, 2, none⟩) hge _)⟩
set_option maxRecDepth 100000 in
set_option maxHeartbeats 8000000 in
theorem given14_any (s : Sk) (G : Option Addr) (gc : Nat) (D : Option Addr) (dc : Nat) (w : World) (h : SkL w w.heap.size G gc D dc s) (hgl : s.gs.length ≤ 100000) (hdl : s.ds.length ≤ 100000) :
    Calls Tryz.prog 16 #[skV s G gc D dc] w fun e w' => Below w.heap.size w w' ∧ ∃ G' gc' D' dc', e = .returned (skV s G' gc' D' dc') ∧ SkL w' w'.heap.size G' gc' D' dc' s := by
  have b0 : Below w.heap.size w ((w.alloc (.cells (skCells s G gc D dc) 26)).alloc (.cells #[.int .u32 0, .int .u32 0, .slice none 0 0, .slice none 0 0] 38)) := ((Below.refl _ w).alloc (Nat.le_refl _) _).alloc (by simp) _
  have x0 := (Whole.new w 26 (skCells s G gc D dc)).alloc (.cells #[.int .u32 0, .int .u32 0, .slice none 0 0, .slice none 0 0] 38)
  have y0 := Whole.new (w.alloc (.cells (skCells s G gc D dc) 26)) 38 #[.int .u32 0, .int .u32 0, .slice none 0 0, .slice none 0 0]
  rw [World.size_alloc] at y0
  have hz : w.heap.size + 2 ≤ ((w.alloc (.cells (skCells s G gc D dc) 26)).alloc (.cells #[.int .u32 0, .int .u32 0, .slice none 0 0, .slice none 0 0] 38)).heap.size := by simp
  have HB := Lib.hid b0
  have HS := Lib.hid (h.on b0)
  have HD0 := Lib.hid h.dl
  have hd1 := h.d1
  have hd2 := h.d2
  clear h b0
  obtain ⟨cum, win, gs, ds⟩ := s
  simp only [skV, skCells] at *
  obtain ⟨q0, q1, q2, q3⟩ := wh4 x0
  generalize hwa : (w.alloc (.cells #[uv cum, uv win, .slice G gs.length gc, .slice D ds.length dc] 26)).alloc (.cells #[.int .u32 0, .int .u32 0, .slice none 0 0, .slice none 0 0] 38) = wa at *
  have HW := Lib.hid hwa
  clear hwa
  have KS : Hid (∀ V, Below wa.heap.size wa V → V.cell? ⟨w.heap.size, 0, none⟩ = some (uv cum) ∧ V.cell? ⟨w.heap.size, 1, none⟩ = some (uv win) ∧ V.cell? ⟨w.heap.size, 2, none⟩ = some (.slice G gs.length gc) ∧ V.cell? ⟨w.heap.size, 3, none⟩ = some (.slice D ds.length dc)) := Lib.hid (fun V hV => wh4 (Whole.below x0 hV (by omega)))
  go_enter Tryz.func16, Tryz.ntmps16
  go_upto_region 1 with fail
  rw [HW.out]
  clear HW
  refine cut_post (fun QQ => ∀ (u5 u6 u7 u8 u9 u10 u11 u12 u13 : Value) (g : Nat) (D' : Option Addr) (dc' : Nat) (W0 : World), Whole W0 g 38 #[uv cum, uv win, .slice none 0 0, .slice D' ds.length dc'] → W0.ownsRow wa.heap.size 22 1 (.slice D' ds.length dc') ds.length (ds.map uv) → Below wa.heap.size wa W0 → wa.heap.size ≤ g → QQ Exit.normal { tmps := #[.agg #[uv cum, uv win, .slice G gs.length gc, .slice D ds.length dc], .pointer (some ⟨w.heap.size, 0, none⟩), .pointer (some ⟨w.heap.size + 1, 0, none⟩), .pointer (some ⟨g, 0, none⟩), undef, u5, u6, u7, u8, u9, u10, u11, u12, u13, undef, undef, undef, undef, undef, undef, undef, undef, undef, undef, undef, undef, undef, undef, undef, undef, undef, undef], defers := [] } W0) ?_ (fun hT => ?_)
  rotate_left
  · refine wp_region_held_drew (S := (fun V => V.cell? ⟨w.heap.size, 0, none⟩ = some (uv cum) ∧ V.cell? ⟨w.heap.size, 1, none⟩ = some (uv win) ∧ V.cell? ⟨w.heap.size, 2, none⟩ = some (.slice G gs.length gc) ∧ V.cell? ⟨w.heap.size, 3, none⟩ = some (.slice D ds.length dc))) (by kernel_rfl) (KS.out _ (below_drew (Below.refl _ _))) (fun hHeld => ?_)
    refine take_at (i := 0) (v := ?_) (some 5) rfl (by kernel_rfl) (by kernel_rfl) (by kernel_rfl) (fun _ _ _ h => h) (by kernel_rfl) (Or.inl ⟨by kernel_rfl, ?_⟩) (by assumption) ?_
    rotate_left
    · (intro w hSw; (try dsimp only at hSw); go_simp <;> with_reducible rfl)
    simp only [Act.put, List.setIfInBounds_toArray, List.set_cons_zero, List.set_cons_succ]
    refine take_at (i := 1) (v := ?_) (some 6) rfl (by kernel_rfl) (by kernel_rfl) (by kernel_rfl) (fun _ _ _ h => h) (by kernel_rfl) (Or.inl ⟨by kernel_rfl, ?_⟩) (by assumption) ?_
    rotate_left
    · (intro w hSw; (try dsimp only at hSw); go_simp <;> with_reducible rfl)
    simp only [Act.put, List.setIfInBounds_toArray, List.set_cons_zero, List.set_cons_succ]
    refine take_at (i := 2) (v := ?_) (some 7) rfl (by kernel_rfl) (by kernel_rfl) (by kernel_rfl) (fun _ _ _ h => h) (by kernel_rfl) (Or.inl ⟨by kernel_rfl, ?_⟩) (by assumption) ?_
    rotate_left
    · (intro w hSw; (try dsimp only at hSw); go_simp <;> with_reducible rfl)
    simp only [Act.put, List.setIfInBounds_toArray, List.set_cons_zero, List.set_cons_succ]
    refine take_at (i := 3) (v := ?_) (some 8) rfl (by kernel_rfl) (by kernel_rfl) (by kernel_rfl) (fun _ _ _ h => h) (by kernel_rfl) (Or.inl ⟨by kernel_rfl, ?_⟩) (by assumption) ?_
    rotate_left
    · (intro w hSw; (try dsimp only at hSw); go_simp <;> with_reducible rfl)
    simp only [Act.put, List.setIfInBounds_toArray, List.set_cons_zero, List.set_cons_succ]
    refine take_at (i := 5) (v := ?_) (some 10) rfl (by kernel_rfl) (by kernel_rfl) (by kernel_rfl) (fun _ _ _ h => h) (by kernel_rfl) (Or.inl ⟨by kernel_rfl, ?_⟩) (by assumption) ?_
    rotate_left
    · (intro w hSw; (try dsimp only at hSw); go_simp <;> with_reducible rfl)
    simp only [Act.put, List.setIfInBounds_toArray, List.set_cons_zero, List.set_cons_succ]
    refine take_at (i := 6) (v := ?_) (some 11) rfl (by kernel_rfl) (by kernel_rfl) (by kernel_rfl) (fun _ _ _ h => h) (by kernel_rfl) (Or.inl ⟨by kernel_rfl, ?_⟩) (by assumption) ?_
    rotate_left
    · (intro w hSw; (try dsimp only at hSw); go_simp <;> with_reducible rfl)
    simp only [Act.put, List.setIfInBounds_toArray, List.set_cons_zero, List.set_cons_succ]
    refine wpAnyH_ready (rs := [4, 9]) (by kernel_rfl) (by simp) ?_
    refine AllReadyH.cons rfl (fun K hK => ?_) (AllReadyH.cons rfl (fun K hK => ?_) AllReadyH.nil)
    · go_simp
      have RE : Below wa.heap.size wa (wa.alloc (.cells #[] 22)).drew := below_drew ((Below.refl _ _).alloc (Nat.le_refl _) _)
      obtain ⟨dE, hdE⟩ : ∃ dE, dE = wa.heap.size := ⟨_, rfl⟩
      have oE : World.ownsRow (wa.alloc (.cells #[] 22)).drew wa.heap.size 22 1 (.slice (some ⟨dE, 0, none⟩) 0 0) 0 [] := by rw [hdE]; exact own_empty32 wa wa.heap.size (Nat.le_refl _)
      rw [← hdE]
      clear hdE
      generalize (wa.alloc (.cells #[] 22)).drew = wE at *
      clear hHeld
      refine hK.out _ _ (KS.out _ RE) (fun hHeld => ?_)
      clear hK K
      try simp only [Act.put, List.setIfInBounds_toArray, List.set_cons_zero, List.set_cons_succ]
      refine wpAnyH_ready (rs := [7, 9]) (by kernel_rfl) (by simp) ?_
      refine AllReadyH.cons rfl (fun K hK => ?_) (AllReadyH.cons rfl (fun K hK => ?_) AllReadyH.nil)
      · refine wp_append_lies _ (.tmp 9) (.tmp 11) 24 rfl wa.heap.size 22 _ 4 Tryz.underlying24 u32infoE rfl (.slice (some ⟨dE, 0, none⟩) 0 0) 0 [] rfl oE wE.heap.size D ds.length dc (ds.map uv) rfl (by simp) ((HS.out.dl.below RE).more RE.size) (by intro u hu; obtain ⟨_, _, rfl⟩ := List.mem_map.1 hu; rfl) (by omega) (by unfold maxLen; omega) RE.size ?_
        intro D' dc' wF oF' gF _
        have oF : wF.ownsRow wa.heap.size 22 1 (.slice D' ds.length dc') ds.length (ds.map uv) := by simpa using oF'
        have RF : Below wa.heap.size wa wF := RE.grown gF RE.size (fun r e => (oE.lt r e).1)
        simp only [Nat.zero_add]
        clear hHeld
        refine hK.out _ _ (KS.out _ RF) (fun hHeld => ?_)
        clear hK K
        try simp only [Act.put, List.setIfInBounds_toArray, List.set_cons_zero, List.set_cons_succ]
        refine take_at (i := 8) (v := ?_) (some 13) rfl (by kernel_rfl) (by kernel_rfl) (by kernel_rfl) (fun _ _ _ h => h) (by kernel_rfl) (Or.inl ⟨by kernel_rfl, ?_⟩) (by assumption) ?_
        rotate_left
        · (intro w hSw; (try dsimp only at hSw); go_simp <;> with_reducible rfl)
        simp only [Act.put, List.setIfInBounds_toArray, List.set_cons_zero, List.set_cons_succ]
        refine wpAnyH_ready (rs := [9]) (by kernel_rfl) (by simp) ?_
        refine AllReadyH.cons rfl (fun K hK => ?_) AllReadyH.nil
        go_simp
        have RG : Below wa.heap.size wa (wF.alloc (.cells #[.int .u32 0, .int .u32 0, .slice none 0 0, .slice none 0 0] 38)) := RF.alloc RF.size _
        obtain ⟨gG, hgg⟩ : ∃ gG, gG = wF.heap.size := ⟨_, rfl⟩
        have yG : Whole (wF.alloc (.cells #[.int .u32 0, .int .u32 0, .slice none 0 0, .slice none 0 0] 38)) gG 38 #[.int .u32 0, .int .u32 0, .slice none 0 0, .slice none 0 0] := by rw [hgg]; exact Whole.new wF _ _
        have hgG : wa.heap.size ≤ gG := by rw [hgg]; exact RF.size
        have oG := oF.alloc (.cells #[.int .u32 0, .int .u32 0, .slice none 0 0, .slice none 0 0] 38)
        rw [← hgg]
        clear hgg
        generalize (wF.alloc (.cells #[.int .u32 0, .int .u32 0, .slice none 0 0, .slice none 0 0] 38)) = wG at *
        clear hHeld
        refine hK.out _ _ (KS.out _ RG) (fun hHeld => ?_)
        clear hK K
        try simp only [Act.put, List.setIfInBounds_toArray, List.set_cons_zero, List.set_cons_succ]
        refine wpAnyH_ready (rs := [10]) (by kernel_rfl) (by simp) ?_
        refine AllReadyH.cons rfl (fun K hK => ?_) AllReadyH.nil
        have f0 := yG.frozen 0
        have f1 := yG.frozen 1
        have f2 := yG.frozen 2
        have f3 := yG.frozen 3
        obtain ⟨e0, e1, e2, e3⟩ := wh4 yG
        go_simp
        have R8 := (((RG.setCell (p := ⟨gG, 0, none⟩) hgG (uv cum)).setCell (p := ⟨gG, 1, none⟩) hgG (uv win)).setCell (p := ⟨gG, 2, none⟩) hgG (.slice none 0 0)).setCell (p := ⟨gG, 3, none⟩) hgG (.slice D' ds.length dc')
        have y8 := (((yG.set_ 0 (uv cum)).set_ 1 (uv win)).set_ 2 (.slice none 0 0)).set_ 3 (.slice D' ds.length dc')
        have O8 := own_set13 (i := 3) (u := (.slice D' ds.length dc')) (own_set13 (i := 2) (u := (.slice none 0 0)) (own_set13 (i := 1) (u := (uv win)) (own_set13 (i := 0) (u := (uv cum)) oG yG (by decide)) (yG.set_ 0 _) (by decide)) ((yG.set_ 0 _).set_ 1 _) (by decide)) (((yG.set_ 0 _).set_ 1 _).set_ 2 _) (by decide)
        clear hHeld
        refine hK.out _ _ (KS.out _ R8) (fun hHeld => ?_)
        clear hK K
        try simp only [Act.put, List.setIfInBounds_toArray, List.set_cons_zero, List.set_cons_succ]
        refine wpAnyH_done (by kernel_rfl) ?_ _
        exact hT _ _ _ _ _ _ _ _ _ _ _ _ _ y8 O8 R8 hgG
      · go_simp
        have RG : Below wa.heap.size wa (wE.alloc (.cells #[.int .u32 0, .int .u32 0, .slice none 0 0, .slice none 0 0] 38)) := RE.alloc RE.size _
        obtain ⟨gG, hgg⟩ : ∃ gG, gG = wE.heap.size := ⟨_, rfl⟩
        have yG : Whole (wE.alloc (.cells #[.int .u32 0, .int .u32 0, .slice none 0 0, .slice none 0 0] 38)) gG 38 #[.int .u32 0, .int .u32 0, .slice none 0 0, .slice none 0 0] := by rw [hgg]; exact Whole.new wE _ _
        have hgG : wa.heap.size ≤ gG := by rw [hgg]; exact RE.size
        have oG := oE.alloc (.cells #[.int .u32 0, .int .u32 0, .slice none 0 0, .slice none 0 0] 38)
        rw [← hgg]
        clear hgg
        generalize (wE.alloc (.cells #[.int .u32 0, .int .u32 0, .slice none 0 0, .slice none 0 0] 38)) = wG at *
        clear hHeld
        refine hK.out _ _ (KS.out _ RG) (fun hHeld => ?_)
        clear hK K
        try simp only [Act.put, List.setIfInBounds_toArray, List.set_cons_zero, List.set_cons_succ]
        refine wpAnyH_ready (rs := [7]) (by kernel_rfl) (by simp) ?_
        refine AllReadyH.cons rfl (fun K hK => ?_) AllReadyH.nil
        refine wp_append_lies _ (.tmp 9) (.tmp 11) 24 rfl wa.heap.size 22 _ 4 Tryz.underlying24 u32infoE rfl (.slice (some ⟨dE, 0, none⟩) 0 0) 0 [] rfl oG wG.heap.size D ds.length dc (ds.map uv) rfl (by simp) ((HS.out.dl.below RG).more RG.size) (by intro u hu; obtain ⟨_, _, rfl⟩ := List.mem_map.1 hu; rfl) (by omega) (by unfold maxLen; omega) RG.size ?_
        intro D' dc' wF oF' gF _
        have oF : wF.ownsRow wa.heap.size 22 1 (.slice D' ds.length dc') ds.length (ds.map uv) := by simpa using oF'
        have RF : Below wa.heap.size wa wF := RG.grown gF RG.size (fun r e => (oG.lt r e).1)
        have yF : Whole wF gG 38 #[.int .u32 0, .int .u32 0, .slice none 0 0, .slice none 0 0] := yG.grown gF (fun e => whole_row_ne13 yG (by decide) oG e.symm)
        simp only [Nat.zero_add]
        clear hHeld
        refine hK.out _ _ (KS.out _ RF) (fun hHeld => ?_)
        clear hK K
        try simp only [Act.put, List.setIfInBounds_toArray, List.set_cons_zero, List.set_cons_succ]
        refine take_at (i := 8) (v := ?_) (some 13) rfl (by kernel_rfl) (by kernel_rfl) (by kernel_rfl) (fun _ _ _ h => h) (by kernel_rfl) (Or.inl ⟨by kernel_rfl, ?_⟩) (by assumption) ?_
        rotate_left
        · (intro w hSw; (try dsimp only at hSw); go_simp <;> with_reducible rfl)
        simp only [Act.put, List.setIfInBounds_toArray, List.set_cons_zero, List.set_cons_succ]
        refine wpAnyH_ready (rs := [10]) (by kernel_rfl) (by simp) ?_
        refine AllReadyH.cons rfl (fun K hK => ?_) AllReadyH.nil
        have f0 := yF.frozen 0
        have f1 := yF.frozen 1
        have f2 := yF.frozen 2
        have f3 := yF.frozen 3
        obtain ⟨e0, e1, e2, e3⟩ := wh4 yF
        go_simp
        have R8 := (((RF.setCell (p := ⟨gG, 0, none⟩) hgG (uv cum)).setCell (p := ⟨gG, 1, none⟩) hgG (uv win)).setCell (p := ⟨gG, 2, none⟩) hgG (.slice none 0 0)).setCell (p := ⟨gG, 3, none⟩) hgG (.slice D' ds.length dc')
        have y8 := (((yF.set_ 0 (uv cum)).set_ 1 (uv win)).set_ 2 (.slice none 0 0)).set_ 3 (.slice D' ds.length dc')
        have O8 := own_set13 (i := 3) (u := (.slice D' ds.length dc')) (own_set13 (i := 2) (u := (.slice none 0 0)) (own_set13 (i := 1) (u := (uv win)) (own_set13 (i := 0) (u := (uv cum)) oF yF (by decide)) (yF.set_ 0 _) (by decide)) ((yF.set_ 0 _).set_ 1 _) (by decide)) (((yF.set_ 0 _).set_ 1 _).set_ 2 _) (by decide)
        clear hHeld
        refine hK.out _ _ (KS.out _ R8) (fun hHeld => ?_)
        clear hK K
        try simp only [Act.put, List.setIfInBounds_toArray, List.set_cons_zero, List.set_cons_succ]
        refine wpAnyH_done (by kernel_rfl) ?_ _
        exact hT _ _ _ _ _ _ _ _ _ _ _ _ _ y8 O8 R8 hgG
    · go_simp
      have RG : Below wa.heap.size wa (wa.alloc (.cells #[.int .u32 0, .int .u32 0, .slice none 0 0, .slice none 0 0] 38)).drew := below_drew ((Below.refl _ _).alloc (Nat.le_refl _) _)
      obtain ⟨gG, hgg⟩ : ∃ gG, gG = wa.heap.size := ⟨_, rfl⟩
      have yG : Whole (wa.alloc (.cells #[.int .u32 0, .int .u32 0, .slice none 0 0, .slice none 0 0] 38)).drew gG 38 #[.int .u32 0, .int .u32 0, .slice none 0 0, .slice none 0 0] := by rw [hgg]; exact Whole.drew (Whole.new wa _ _)
      have hgG : wa.heap.size ≤ gG := by rw [hgg]; exact Nat.le_refl _
      rw [← hgg]
      clear hgg
      generalize (wa.alloc (.cells #[.int .u32 0, .int .u32 0, .slice none 0 0, .slice none 0 0] 38)).drew = wG at *
      clear hHeld
      refine hK.out _ _ (KS.out _ RG) (fun hHeld => ?_)
      clear hK K
      try simp only [Act.put, List.setIfInBounds_toArray, List.set_cons_zero, List.set_cons_succ]
      refine wpAnyH_ready (rs := [4]) (by kernel_rfl) (by simp) ?_
      refine AllReadyH.cons rfl (fun K hK => ?_) AllReadyH.nil
      go_simp
      have RE : Below wa.heap.size wa (wG.alloc (.cells #[] 22)) := RG.alloc RG.size _
      obtain ⟨dE, hdE⟩ : ∃ dE, dE = wG.heap.size := ⟨_, rfl⟩
      have oE : World.ownsRow (wG.alloc (.cells #[] 22)) wa.heap.size 22 1 (.slice (some ⟨dE, 0, none⟩) 0 0) 0 [] := by rw [hdE]; exact own_empty32 wG wa.heap.size RG.size
      have yE : Whole (wG.alloc (.cells #[] 22)) gG 38 #[.int .u32 0, .int .u32 0, .slice none 0 0, .slice none 0 0] := yG.alloc _
      rw [← hdE]
      clear hdE
      generalize (wG.alloc (.cells #[] 22)) = wE at *
      clear hHeld
      refine hK.out _ _ (KS.out _ RE) (fun hHeld => ?_)
      clear hK K
      try simp only [Act.put, List.setIfInBounds_toArray, List.set_cons_zero, List.set_cons_succ]
      refine wpAnyH_ready (rs := [7]) (by kernel_rfl) (by simp) ?_
      refine AllReadyH.cons rfl (fun K hK => ?_) AllReadyH.nil
      refine wp_append_lies _ (.tmp 9) (.tmp 11) 24 rfl wa.heap.size 22 _ 4 Tryz.underlying24 u32infoE rfl (.slice (some ⟨dE, 0, none⟩) 0 0) 0 [] rfl oE wE.heap.size D ds.length dc (ds.map uv) rfl (by simp) ((HS.out.dl.below RE).more RE.size) (by intro u hu; obtain ⟨_, _, rfl⟩ := List.mem_map.1 hu; rfl) (by omega) (by unfold maxLen; omega) RE.size ?_
      intro D' dc' wF oF' gF _
      have oF : wF.ownsRow wa.heap.size 22 1 (.slice D' ds.length dc') ds.length (ds.map uv) := by simpa using oF'
      have RF : Below wa.heap.size wa wF := RE.grown gF RE.size (fun r e => (oE.lt r e).1)
      have yF : Whole wF gG 38 #[.int .u32 0, .int .u32 0, .slice none 0 0, .slice none 0 0] := yE.grown gF (fun e => whole_row_ne13 yE (by decide) oE e.symm)
      simp only [Nat.zero_add]
      clear hHeld
      refine hK.out _ _ (KS.out _ RF) (fun hHeld => ?_)
      clear hK K
      try simp only [Act.put, List.setIfInBounds_toArray, List.set_cons_zero, List.set_cons_succ]
      refine take_at (i := 8) (v := ?_) (some 13) rfl (by kernel_rfl) (by kernel_rfl) (by kernel_rfl) (fun _ _ _ h => h) (by kernel_rfl) (Or.inl ⟨by kernel_rfl, ?_⟩) (by assumption) ?_
      rotate_left
      · (intro w hSw; (try dsimp only at hSw); go_simp <;> with_reducible rfl)
      simp only [Act.put, List.setIfInBounds_toArray, List.set_cons_zero, List.set_cons_succ]
      refine wpAnyH_ready (rs := [10]) (by kernel_rfl) (by simp) ?_
      refine AllReadyH.cons rfl (fun K hK => ?_) AllReadyH.nil
      have f0 := yF.frozen 0
      have f1 := yF.frozen 1
      have f2 := yF.frozen 2
      have f3 := yF.frozen 3
      obtain ⟨e0, e1, e2, e3⟩ := wh4 yF
      go_simp
      have R8 := (((RF.setCell (p := ⟨gG, 0, none⟩) hgG (uv cum)).setCell (p := ⟨gG, 1, none⟩) hgG (uv win)).setCell (p := ⟨gG, 2, none⟩) hgG (.slice none 0 0)).setCell (p := ⟨gG, 3, none⟩) hgG (.slice D' ds.length dc')
      have y8 := (((yF.set_ 0 (uv cum)).set_ 1 (uv win)).set_ 2 (.slice none 0 0)).set_ 3 (.slice D' ds.length dc')
      have O8 := own_set13 (i := 3) (u := (.slice D' ds.length dc')) (own_set13 (i := 2) (u := (.slice none 0 0)) (own_set13 (i := 1) (u := (uv win)) (own_set13 (i := 0) (u := (uv cum)) oF yF (by decide)) (yF.set_ 0 _) (by decide)) ((yF.set_ 0 _).set_ 1 _) (by decide)) (((yF.set_ 0 _).set_ 1 _).set_ 2 _) (by decide)
      clear hHeld
      refine hK.out _ _ (KS.out _ R8) (fun hHeld => ?_)
      clear hK K
      try simp only [Act.put, List.setIfInBounds_toArray, List.set_cons_zero, List.set_cons_succ]
      refine wpAnyH_done (by kernel_rfl) ?_ _
      exact hT _ _ _ _ _ _ _ _ _ _ _ _ _ y8 O8 R8 hgG
  intro u5 u6 u7 u8 u9 u10 u11 u12 u13 g D' dc' W0 yW oW RW hge
  have J0 : GvI wa.heap.size w.heap.size g 38 86 wa cum win gs D' dc' ds.length ds 0 W0 := ⟨⟨none, 0, yW, World.ownsRow_nil _ _ _ _⟩, .inr oW, RW⟩
  have hdc' := own_cap oW
  have hRs := RW.size
  clear RW x0
  go_wp2_with fail
  go_loopw [4] (fun i wr => ∃ k : Nat, k ≤ gs.length ∧ i = .int .i64 (k : Int) ∧ GvI wa.heap.size w.heap.size g 38 86 wa cum win gs D' dc' ds.length ds k wr) (fun i _ => gs.length - (intOf i).toNat)
  case atStart => exact ⟨0, Nat.zero_le _, rfl, J0⟩
  case round =>
    obtain ⟨k, hk, rfl, hi⟩ := hrel
    have hIs := hi.low.size
    by_cases hlt : k < gs.length
    · obtain ⟨g1, hg1⟩ : ∃ g1, gs[k]? = some g1 := ⟨_, List.getElem?_eq_getElem hlt⟩
      obtain ⟨ad, rfl, hadb, a0, a1⟩ := (HS.out.gl.below hi.low).at_ hg1
      obtain ⟨Gv, gv, hw, hrow⟩ := hi.box
      have hi1 : (k : Int) < (gs.length : Int) := by omega
      have HT : Hid (gpFlat (gs.take (k + 1)) = gpFlat (gs.take k) ++ [hv g1.f, hv g1.t]) := Lib.hid (by rw [take_some hg1, gpFlat_snoc])
      have HI := Lib.hid hi
      have KB : Hid (∀ W, Below wa.heap.size wr W → W.cell? ⟨w.heap.size, 2, none⟩ = some (.slice (some ad) gs.length gc) ∧ W.cell? (ad.add (k * 2)) = some (hv g1.f) ∧ W.cell? ⟨(ad.add (k * 2)).block, (ad.add (k * 2)).off + 1, none⟩ = some (hv g1.t)) := Lib.hid (fun W hW =>
        ⟨(KS.out W (hi.low.trans hW)).2.2.1, (hW.cell (p := ad.add (k * 2)) (by rw [blk_add]; exact hadb)).trans a0, (hW.cell (p := ⟨(ad.add (k * 2)).block, (ad.add (k * 2)).off + 1, none⟩) (by show (ad.add (k * 2)).block < _; rw [blk_add]; exact hadb)).trans a1⟩)
      have k2 : wr.drew.cell? ⟨g, 2, none⟩ = some (.slice Gv k gv) := (wh4 hw).2.2.1
      have k2a : (wr.alloc (.cells #[hv g1.f, hv g1.t] 86)).drew.cell? ⟨g, 2, none⟩ = some (.slice Gv k gv) := (wh4 (hw.alloc _)).2.2.1
      have c2 := (KS.out wr hi.low).2.2.1
      clear hg1 hi a0 a1
      go_upto_region 5 with fail
      refine wp_region_held_drew (S := (fun V => V.cell? ⟨w.heap.size, 2, none⟩ = some (.slice (some ad) gs.length gc) ∧ V.cell? (ad.add (k * 2)) = some (hv g1.f) ∧ V.cell? ⟨(ad.add (k * 2)).block, (ad.add (k * 2)).off + 1, none⟩ = some (hv g1.t))) (by kernel_rfl) (KB.out _ (below_drew (Below.refl _ _))) (fun hHeld => ?_)
      refine take_at (i := 0) (v := ?_) (some 21) rfl (by kernel_rfl) (by kernel_rfl) (by kernel_rfl) (fun _ _ _ h => h) (by kernel_rfl) (Or.inl ⟨by kernel_rfl, ?_⟩) (by assumption) ?_
      rotate_left
      · (intro w hSw; (try dsimp only at hSw); go_simp <;> with_reducible rfl)
      simp only [Act.put, List.setIfInBounds_toArray, List.set_cons_zero, List.set_cons_succ]
      refine take_at (i := 2) (v := ?_) (some 23) rfl (by kernel_rfl) (by kernel_rfl) (by kernel_rfl) (fun _ _ _ h => h) (by kernel_rfl) (Or.inl ⟨by kernel_rfl, ?_⟩) (by assumption) ?_
      rotate_left
      · (intro w hSw; (try dsimp only at hSw); go_simp <;> with_reducible rfl)
      simp only [Act.put, List.setIfInBounds_toArray, List.set_cons_zero, List.set_cons_succ]
      refine take_at (i := 3) (v := ?_) (some 24) rfl (by kernel_rfl) (by kernel_rfl) (by kernel_rfl) (fun _ _ _ h => h) (by kernel_rfl) (Or.inl ⟨by kernel_rfl, ?_⟩) (by assumption) ?_
      rotate_left
      · (intro w hSw; (try dsimp only at hSw); go_simp <;> with_reducible rfl)
      simp only [Act.put, List.setIfInBounds_toArray, List.set_cons_zero, List.set_cons_succ]
      refine take_at (i := 4) (v := ?_) (some 25) rfl (by kernel_rfl) (by kernel_rfl) (by kernel_rfl) (fun _ _ _ h => h) (by kernel_rfl) (Or.inl ⟨by kernel_rfl, ?_⟩) (by assumption) ?_
      rotate_left
      · (intro w hSw; (try dsimp only at hSw); go_simp <;> with_reducible rfl)
      simp only [Act.put, List.setIfInBounds_toArray, List.set_cons_zero, List.set_cons_succ]
      refine take_at (i := 5) (v := ?_) (some 26) rfl (by kernel_rfl) (by kernel_rfl) (by kernel_rfl) (fun _ _ _ h => h) (by kernel_rfl) (Or.inl ⟨by kernel_rfl, ?_⟩) (by assumption) ?_
      rotate_left
      · (intro w hSw; (try dsimp only at hSw); go_simp <;> with_reducible rfl)
      simp only [Act.put, List.setIfInBounds_toArray, List.set_cons_zero, List.set_cons_succ]
      refine take_at (i := 6) (v := ?_) (some 27) rfl (by kernel_rfl) (by kernel_rfl) (by kernel_rfl) (fun _ _ _ h => h) (by kernel_rfl) (Or.inl ⟨by kernel_rfl, ?_⟩) (by assumption) ?_
      rotate_left
      · (intro w hSw; (try dsimp only at hSw); go_simp <;> with_reducible rfl)
      simp only [Act.put, List.setIfInBounds_toArray, List.set_cons_zero, List.set_cons_succ]
      refine wpAnyH_ready (rs := [1, 7]) (by kernel_rfl) (by simp) ?_
      refine AllReadyH.cons rfl (fun K hK => ?_) (AllReadyH.cons rfl (fun K hK => ?_) AllReadyH.nil)
      · go_simp
        clear hHeld
        refine hK.out _ _ (KB.out _ (below_drew (Below.refl _ _))) (fun hHeld => ?_)
        clear hK K
        try simp only [Act.put, List.setIfInBounds_toArray, List.set_cons_zero, List.set_cons_succ]
        refine wpAnyH_ready (rs := [7]) (by kernel_rfl) (by simp) ?_
        refine AllReadyH.cons rfl (fun K hK => ?_) AllReadyH.nil
        go_simp
        have bB : Below wa.heap.size wr (wr.alloc (.cells #[hv g1.f, hv g1.t] 86)).drew := below_drew ((Below.refl _ _).alloc hIs _)
        have LB : Lies (wr.alloc (.cells #[hv g1.f, hv g1.t] 86)).drew (wr.heap.size + 1) (some ⟨wr.heap.size, 0, none⟩) [hv g1.f, hv g1.t] := (Lies.newN wr [hv g1.f, hv g1.t] 86).below (below_drew (Below.refl _ _))
        have rB : World.ownsRow (wr.alloc (.cells #[hv g1.f, hv g1.t] 86)).drew wa.heap.size 86 2 (.slice Gv k gv) k (gpFlat (gs.take k)) := hrow.alloc _
        have xB : Whole (wr.alloc (.cells #[hv g1.f, hv g1.t] 86)).drew g 38 #[uv cum, uv win, .slice Gv k gv, .slice D' ds.length dc'] := hw.alloc _
        have dB : Lies (wr.alloc (.cells #[hv g1.f, hv g1.t] 86)).drew w.heap.size D' (ds.map uv) ∨ World.ownsRow (wr.alloc (.cells #[hv g1.f, hv g1.t] 86)).drew wa.heap.size 22 1 (.slice D' ds.length dc') ds.length (ds.map uv) := HI.out.dl.imp (fun h => h.below (bB.mono (by omega))) (fun h => h.alloc _)
        have kB : (wr.alloc (.cells #[hv g1.f, hv g1.t] 86)).drew.cell? ⟨g, 2, none⟩ = some (.slice Gv k gv) := k2a
        have hsB : wa.heap.size ≤ (wr.alloc (.cells #[hv g1.f, hv g1.t] 86)).drew.heap.size := Nat.le_trans hIs bB.size
        generalize (wr.alloc (.cells #[hv g1.f, hv g1.t] 86)).drew = wB at *
        clear hHeld
        refine hK.out _ _ (KB.out _ bB) (fun hHeld => ?_)
        clear hK K
        try simp only [Act.put, List.setIfInBounds_toArray, List.set_cons_zero, List.set_cons_succ]
        refine wpAnyH_ready (rs := [8]) (by kernel_rfl) (by simp) ?_
        refine AllReadyH.cons rfl (fun K hK => ?_) AllReadyH.nil
        have hone : ∀ u ∈ [hv g1.f, hv g1.t], u.oneCell' = true := by intro u hu; simp at hu; rcases hu with rfl | rfl <;> rfl
        refine wp_append_wide14 (.tmp 22) (.tmp 28) 36 rfl wa.heap.size 86 _ 2 4 Tryz.underlying36 gapinfo rfl (by omega) (.slice Gv k gv) k _ rfl rB _ (some ⟨wr.heap.size, 0, none⟩) 1 1 [hv g1.f, hv g1.t] rfl rfl LB hone (by omega) (by unfold maxLen; omega) hsB ?_
        intro v' w7 own7 gr7
        obtain ⟨A7, c7, rfl⟩ := own_slice2 own7
        have x7 : Whole w7 g 38 _ := xB.grown gr7 (fun e => whole_row_ne13 xB (by decide) rB e.symm)
        have R7 : Below wa.heap.size wr w7 := bB.grown gr7 hsB (fun r e => (rB.lt r e).1)
        have d7 : Lies w7 w.heap.size D' (ds.map uv) ∨ w7.ownsRow wa.heap.size 22 1 (.slice D' ds.length dc') ds.length (ds.map uv) := dB.imp (fun h => h.below (((Below.refl _ _).grown gr7 hsB (fun r e => (rB.lt r e).1)).mono (by omega))) (fun h => h.kept gr7 (row_ne2 (by decide) h rB))
        have f7 := x7.frozen 2
        have e7 := (wh4 x7).2.2.1
        clear hHeld
        refine hK.out _ _ (KB.out _ R7) (fun hHeld => ?_)
        clear hK K
        try simp only [Act.put, List.setIfInBounds_toArray, List.set_cons_zero, List.set_cons_succ]
        refine take_at (i := 9) (v := ?_) (some 30) rfl (by kernel_rfl) (by kernel_rfl) (by kernel_rfl) (fun _ _ _ h => h) (by kernel_rfl) (Or.inl ⟨by kernel_rfl, ?_⟩) (by assumption) ?_
        rotate_left
        · (intro w hSw; (try dsimp only at hSw); go_simp <;> with_reducible rfl)
        simp only [Act.put, List.setIfInBounds_toArray, List.set_cons_zero, List.set_cons_succ]
        refine wpAnyH_ready (rs := [10]) (by kernel_rfl) (by simp) ?_
        refine AllReadyH.cons rfl (fun K hK => ?_) AllReadyH.nil
        go_simp
        clear hHeld
        refine hK.out _ _ (KB.out _ (R7.setCell (p := ⟨g, 2, none⟩) hge _)) (fun hHeld => ?_)
        clear hK K
        try simp only [Act.put, List.setIfInBounds_toArray, List.set_cons_zero, List.set_cons_succ]
        refine wpAnyH_done (by kernel_rfl) ?_ _
        have hJ := gvI_next HI.out x7 own7 HT.out (by omega) d7 R7 hge (by decide) (by decide)
        go_wp2_with fail
        go_roundw
        case rel => exact ⟨k + 1, by omega, by go_num, hJ⟩
        case measure => simp [intOf]; omega
      · go_simp
        have bB : Below wa.heap.size wr (wr.alloc (.cells #[hv g1.f, hv g1.t] 86)).drew := below_drew ((Below.refl _ _).alloc hIs _)
        have LB : Lies (wr.alloc (.cells #[hv g1.f, hv g1.t] 86)).drew (wr.heap.size + 1) (some ⟨wr.heap.size, 0, none⟩) [hv g1.f, hv g1.t] := (Lies.newN wr [hv g1.f, hv g1.t] 86).below (below_drew (Below.refl _ _))
        have rB : World.ownsRow (wr.alloc (.cells #[hv g1.f, hv g1.t] 86)).drew wa.heap.size 86 2 (.slice Gv k gv) k (gpFlat (gs.take k)) := hrow.alloc _
        have xB : Whole (wr.alloc (.cells #[hv g1.f, hv g1.t] 86)).drew g 38 #[uv cum, uv win, .slice Gv k gv, .slice D' ds.length dc'] := hw.alloc _
        have dB : Lies (wr.alloc (.cells #[hv g1.f, hv g1.t] 86)).drew w.heap.size D' (ds.map uv) ∨ World.ownsRow (wr.alloc (.cells #[hv g1.f, hv g1.t] 86)).drew wa.heap.size 22 1 (.slice D' ds.length dc') ds.length (ds.map uv) := HI.out.dl.imp (fun h => h.below (bB.mono (by omega))) (fun h => h.alloc _)
        have kB : (wr.alloc (.cells #[hv g1.f, hv g1.t] 86)).drew.cell? ⟨g, 2, none⟩ = some (.slice Gv k gv) := k2a
        have hsB : wa.heap.size ≤ (wr.alloc (.cells #[hv g1.f, hv g1.t] 86)).drew.heap.size := Nat.le_trans hIs bB.size
        generalize (wr.alloc (.cells #[hv g1.f, hv g1.t] 86)).drew = wB at *
        clear hHeld
        refine hK.out _ _ (KB.out _ bB) (fun hHeld => ?_)
        clear hK K
        try simp only [Act.put, List.setIfInBounds_toArray, List.set_cons_zero, List.set_cons_succ]
        refine wpAnyH_ready (rs := [1]) (by kernel_rfl) (by simp) ?_
        refine AllReadyH.cons rfl (fun K hK => ?_) AllReadyH.nil
        go_simp
        clear hHeld
        refine hK.out _ _ (KB.out _ bB) (fun hHeld => ?_)
        clear hK K
        try simp only [Act.put, List.setIfInBounds_toArray, List.set_cons_zero, List.set_cons_succ]
        refine wpAnyH_ready (rs := [8]) (by kernel_rfl) (by simp) ?_
        refine AllReadyH.cons rfl (fun K hK => ?_) AllReadyH.nil
        have hone : ∀ u ∈ [hv g1.f, hv g1.t], u.oneCell' = true := by intro u hu; simp at hu; rcases hu with rfl | rfl <;> rfl
        refine wp_append_wide14 (.tmp 22) (.tmp 28) 36 rfl wa.heap.size 86 _ 2 4 Tryz.underlying36 gapinfo rfl (by omega) (.slice Gv k gv) k _ rfl rB _ (some ⟨wr.heap.size, 0, none⟩) 1 1 [hv g1.f, hv g1.t] rfl rfl LB hone (by omega) (by unfold maxLen; omega) hsB ?_
        intro v' w7 own7 gr7
        obtain ⟨A7, c7, rfl⟩ := own_slice2 own7
        have x7 : Whole w7 g 38 _ := xB.grown gr7 (fun e => whole_row_ne13 xB (by decide) rB e.symm)
        have R7 : Below wa.heap.size wr w7 := bB.grown gr7 hsB (fun r e => (rB.lt r e).1)
        have d7 : Lies w7 w.heap.size D' (ds.map uv) ∨ w7.ownsRow wa.heap.size 22 1 (.slice D' ds.length dc') ds.length (ds.map uv) := dB.imp (fun h => h.below (((Below.refl _ _).grown gr7 hsB (fun r e => (rB.lt r e).1)).mono (by omega))) (fun h => h.kept gr7 (row_ne2 (by decide) h rB))
        have f7 := x7.frozen 2
        have e7 := (wh4 x7).2.2.1
        clear hHeld
        refine hK.out _ _ (KB.out _ R7) (fun hHeld => ?_)
        clear hK K
        try simp only [Act.put, List.setIfInBounds_toArray, List.set_cons_zero, List.set_cons_succ]
        refine take_at (i := 9) (v := ?_) (some 30) rfl (by kernel_rfl) (by kernel_rfl) (by kernel_rfl) (fun _ _ _ h => h) (by kernel_rfl) (Or.inl ⟨by kernel_rfl, ?_⟩) (by assumption) ?_
        rotate_left
        · (intro w hSw; (try dsimp only at hSw); go_simp <;> with_reducible rfl)
        simp only [Act.put, List.setIfInBounds_toArray, List.set_cons_zero, List.set_cons_succ]
        refine wpAnyH_ready (rs := [10]) (by kernel_rfl) (by simp) ?_
        refine AllReadyH.cons rfl (fun K hK => ?_) AllReadyH.nil
        go_simp
        clear hHeld
        refine hK.out _ _ (KB.out _ (R7.setCell (p := ⟨g, 2, none⟩) hge _)) (fun hHeld => ?_)
        clear hK K
        try simp only [Act.put, List.setIfInBounds_toArray, List.set_cons_zero, List.set_cons_succ]
        refine wpAnyH_done (by kernel_rfl) ?_ _
        have hJ := gvI_next HI.out x7 own7 HT.out (by omega) d7 R7 hge (by decide) (by decide)
        go_wp2_with fail
        go_roundw
        case rel => exact ⟨k + 1, by omega, by go_num, hJ⟩
        case measure => simp [intOf]; omega
    · obtain rfl : k = gs.length := by omega
      have hi1 : ¬ (gs.length : Int) < (gs.length : Int) := by omega
      have c2 := (KS.out wr hi.low).2.2.1
      obtain ⟨Gv, gv, hw, hrow⟩ := hi.box
      rw [List.take_length] at hrow
      have yr := Whole.below y0 hi.low (by omega)
      have hdl := hi.dl
      have HBW := Lib.hid (HB.out.trans (hi.low.mono (by omega)))
      obtain ⟨r0, r1, r2, r3⟩ := wh4 hw
      obtain ⟨t0, t1, t2, t3⟩ := wh4 yr
      have f0 := yr.frozen 0
      have f1 := yr.frozen 1
      have f2 := yr.frozen 2
      have f3 := yr.frozen 3
      clear hi y0 J0
      go_wp2_with fail
      have y4 := (((yr.set_ 0 (uv cum)).set_ 1 (uv win)).set_ 2 (.slice Gv gs.length gv)).set_ 3 (.slice D' ds.length dc')
      refine bodyPost_ret (results_row13 rfl _ _ (w.heap.size + 1) 38 _ _ rfl y4 Tryz.underlying38 rfl (by kernel_rfl)) rfl ?_
      have hgr := (((grownBy_setCell1 wr (w.heap.size + 1) 0 (uv cum)).trans (grownBy_setCell1 _ (w.heap.size + 1) 1 (uv win))).trans (grownBy_setCell1 _ (w.heap.size + 1) 2 (.slice Gv gs.length gv))).trans (grownBy_setCell1 _ (w.heap.size + 1) 3 (.slice D' ds.length dc'))
      have hg3 := hrow.kept hgr (.inr (whole_row_ne13 yr (by decide) hrow))
      refine ⟨HBW.out.grown hgr (by omega) (fun r e => by cases e; omega), Gv, gv, D', dc', rfl, ⟨own_liesW hg3 (fun h0 => by have h9 : gs.length = 0 := h0; exact List.length_eq_zero_iff.1 (by show (gpFlat gs).length = 0; rw [gpFlat_len]; omega)), (own_capG hg3).1, (own_capG hg3).2⟩, ?_, ?_, ?_⟩
      · rcases hdl with h | h
        · exact (h.below ((Below.refl _ _).grown hgr (by omega) (fun r e => by cases e; omega))).more (Nat.le_trans (show w.heap.size ≤ wr.heap.size by omega) hgr.size)
        · exact Lies.own (h.kept hgr (.inr (whole_row_ne13 yr (by decide) h)))
      · exact hdc'.2.1
      · exact hdc'.2.2
set_option maxRecDepth 100000 in
set_option maxHeartbeats 8000000 in
theorem back14_any (s : Sk) (G : Option Addr) (gc : Nat) (D : Option Addr) (dc : Nat) (w : World) (h : SkL w w.heap.size G gc D dc s) (hgl : s.gs.length ≤ 100000) (hdl : s.ds.length ≤ 100000) :
    Calls Tryz.prog 21 #[skV s G gc D dc] w fun e w' => Below w.heap.size w w' ∧ ∃ G' gc' D' dc', e = .returned (skV s G' gc' D' dc') ∧ SkL w' w'.heap.size G' gc' D' dc' s := by
  have b0 : Below w.heap.size w ((w.alloc (.cells (skCells s G gc D dc) 38)).alloc (.cells #[.int .u32 0, .int .u32 0, .slice none 0 0, .slice none 0 0] 26)) := ((Below.refl _ w).alloc (Nat.le_refl _) _).alloc (by simp) _
  have x0 := (Whole.new w 38 (skCells s G gc D dc)).alloc (.cells #[.int .u32 0, .int .u32 0, .slice none 0 0, .slice none 0 0] 26)
  have y0 := Whole.new (w.alloc (.cells (skCells s G gc D dc) 38)) 26 #[.int .u32 0, .int .u32 0, .slice none 0 0, .slice none 0 0]
  rw [World.size_alloc] at y0
  have hz : w.heap.size + 2 ≤ ((w.alloc (.cells (skCells s G gc D dc) 38)).alloc (.cells #[.int .u32 0, .int .u32 0, .slice none 0 0, .slice none 0 0] 26)).heap.size := by simp
  have HB := Lib.hid b0
  have HS := Lib.hid (h.on b0)
  have HD0 := Lib.hid h.dl
  have hd1 := h.d1
  have hd2 := h.d2
  clear h b0
  obtain ⟨cum, win, gs, ds⟩ := s
  simp only [skV, skCells] at *
  obtain ⟨q0, q1, q2, q3⟩ := wh4 x0
  generalize hwa : (w.alloc (.cells #[uv cum, uv win, .slice G gs.length gc, .slice D ds.length dc] 38)).alloc (.cells #[.int .u32 0, .int .u32 0, .slice none 0 0, .slice none 0 0] 26) = wa at *
  have HW := Lib.hid hwa
  clear hwa
  have KS : Hid (∀ V, Below wa.heap.size wa V → V.cell? ⟨w.heap.size, 0, none⟩ = some (uv cum) ∧ V.cell? ⟨w.heap.size, 1, none⟩ = some (uv win) ∧ V.cell? ⟨w.heap.size, 2, none⟩ = some (.slice G gs.length gc) ∧ V.cell? ⟨w.heap.size, 3, none⟩ = some (.slice D ds.length dc)) := Lib.hid (fun V hV => wh4 (Whole.below x0 hV (by omega)))
  go_enter Tryz.func21, Tryz.ntmps21
  go_upto_region 1 with fail
  rw [HW.out]
  clear HW
  have RW : Below wa.heap.size wa (wa.alloc (.cells #[uv cum, uv win, .slice none 0 0, .slice D ds.length dc] 26)) := (Below.refl _ _).alloc (Nat.le_refl _) _
  have yW := Whole.new wa 26 #[uv cum, uv win, .slice none 0 0, .slice D ds.length dc]
  go_upto_region 2 with fail
  obtain ⟨W0, hW0⟩ : ∃ W0, W0 = wa.alloc (.cells #[uv cum, uv win, .slice none 0 0, .slice D ds.length dc] 26) := ⟨_, rfl⟩
  rw [← hW0] at RW yW ⊢
  clear hW0
  obtain ⟨g, hg⟩ : ∃ g, g = wa.heap.size := ⟨_, rfl⟩
  have J0 : GvI wa.heap.size w.heap.size g 26 89 wa cum win gs D dc ds.length ds 0 W0 := ⟨⟨none, 0, by rw [hg]; exact yW, World.ownsRow_nil _ _ _ _⟩, .inl (HD0.out.below (HB.out.trans (RW.mono (by omega)))), RW⟩
  have hge : wa.heap.size ≤ g := by omega
  (try rw [← hg])
  clear hg yW
  have hRs := RW.size
  clear RW x0
  go_wp2_with fail
  go_loopw [4] (fun i wr => ∃ k : Nat, k ≤ gs.length ∧ i = .int .i64 (k : Int) ∧ GvI wa.heap.size w.heap.size g 26 89 wa cum win gs D dc ds.length ds k wr) (fun i _ => gs.length - (intOf i).toNat)
  case atStart => exact ⟨0, Nat.zero_le _, rfl, J0⟩
  case round =>
    obtain ⟨k, hk, rfl, hi⟩ := hrel
    have hIs := hi.low.size
    by_cases hlt : k < gs.length
    · obtain ⟨g1, hg1⟩ : ∃ g1, gs[k]? = some g1 := ⟨_, List.getElem?_eq_getElem hlt⟩
      obtain ⟨ad, rfl, hadb, a0, a1⟩ := (HS.out.gl.below hi.low).at_ hg1
      obtain ⟨Gv, gv, hw, hrow⟩ := hi.box
      have hi1 : (k : Int) < (gs.length : Int) := by omega
      have HT : Hid (gpFlat (gs.take (k + 1)) = gpFlat (gs.take k) ++ [hv g1.f, hv g1.t]) := Lib.hid (by rw [take_some hg1, gpFlat_snoc])
      have HI := Lib.hid hi
      have KB : Hid (∀ W, Below wa.heap.size wr W → W.cell? ⟨w.heap.size, 2, none⟩ = some (.slice (some ad) gs.length gc) ∧ W.cell? (ad.add (k * 2)) = some (hv g1.f) ∧ W.cell? ⟨(ad.add (k * 2)).block, (ad.add (k * 2)).off + 1, none⟩ = some (hv g1.t)) := Lib.hid (fun W hW =>
        ⟨(KS.out W (hi.low.trans hW)).2.2.1, (hW.cell (p := ad.add (k * 2)) (by rw [blk_add]; exact hadb)).trans a0, (hW.cell (p := ⟨(ad.add (k * 2)).block, (ad.add (k * 2)).off + 1, none⟩) (by show (ad.add (k * 2)).block < _; rw [blk_add]; exact hadb)).trans a1⟩)
      have k2 : wr.drew.cell? ⟨g, 2, none⟩ = some (.slice Gv k gv) := (wh4 hw).2.2.1
      have k2a : (wr.alloc (.cells #[hv g1.f, hv g1.t] 89)).drew.cell? ⟨g, 2, none⟩ = some (.slice Gv k gv) := (wh4 (hw.alloc _)).2.2.1
      have c2 := (KS.out wr hi.low).2.2.1
      clear hg1 hi a0 a1
      go_upto_region 5 with fail
      refine wp_region_held_drew (S := (fun V => V.cell? ⟨w.heap.size, 2, none⟩ = some (.slice (some ad) gs.length gc) ∧ V.cell? (ad.add (k * 2)) = some (hv g1.f) ∧ V.cell? ⟨(ad.add (k * 2)).block, (ad.add (k * 2)).off + 1, none⟩ = some (hv g1.t))) (by kernel_rfl) (KB.out _ (below_drew (Below.refl _ _))) (fun hHeld => ?_)
      refine take_at (i := 0) (v := ?_) (some 19) rfl (by kernel_rfl) (by kernel_rfl) (by kernel_rfl) (fun _ _ _ h => h) (by kernel_rfl) (Or.inl ⟨by kernel_rfl, ?_⟩) (by assumption) ?_
      rotate_left
      · (intro w hSw; (try dsimp only at hSw); go_simp <;> with_reducible rfl)
      simp only [Act.put, List.setIfInBounds_toArray, List.set_cons_zero, List.set_cons_succ]
      refine take_at (i := 2) (v := ?_) (some 21) rfl (by kernel_rfl) (by kernel_rfl) (by kernel_rfl) (fun _ _ _ h => h) (by kernel_rfl) (Or.inl ⟨by kernel_rfl, ?_⟩) (by assumption) ?_
      rotate_left
      · (intro w hSw; (try dsimp only at hSw); go_simp <;> with_reducible rfl)
      simp only [Act.put, List.setIfInBounds_toArray, List.set_cons_zero, List.set_cons_succ]
      refine take_at (i := 3) (v := ?_) (some 22) rfl (by kernel_rfl) (by kernel_rfl) (by kernel_rfl) (fun _ _ _ h => h) (by kernel_rfl) (Or.inl ⟨by kernel_rfl, ?_⟩) (by assumption) ?_
      rotate_left
      · (intro w hSw; (try dsimp only at hSw); go_simp <;> with_reducible rfl)
      simp only [Act.put, List.setIfInBounds_toArray, List.set_cons_zero, List.set_cons_succ]
      refine take_at (i := 4) (v := ?_) (some 23) rfl (by kernel_rfl) (by kernel_rfl) (by kernel_rfl) (fun _ _ _ h => h) (by kernel_rfl) (Or.inl ⟨by kernel_rfl, ?_⟩) (by assumption) ?_
      rotate_left
      · (intro w hSw; (try dsimp only at hSw); go_simp <;> with_reducible rfl)
      simp only [Act.put, List.setIfInBounds_toArray, List.set_cons_zero, List.set_cons_succ]
      refine take_at (i := 5) (v := ?_) (some 24) rfl (by kernel_rfl) (by kernel_rfl) (by kernel_rfl) (fun _ _ _ h => h) (by kernel_rfl) (Or.inl ⟨by kernel_rfl, ?_⟩) (by assumption) ?_
      rotate_left
      · (intro w hSw; (try dsimp only at hSw); go_simp <;> with_reducible rfl)
      simp only [Act.put, List.setIfInBounds_toArray, List.set_cons_zero, List.set_cons_succ]
      refine take_at (i := 6) (v := ?_) (some 25) rfl (by kernel_rfl) (by kernel_rfl) (by kernel_rfl) (fun _ _ _ h => h) (by kernel_rfl) (Or.inl ⟨by kernel_rfl, ?_⟩) (by assumption) ?_
      rotate_left
      · (intro w hSw; (try dsimp only at hSw); go_simp <;> with_reducible rfl)
      simp only [Act.put, List.setIfInBounds_toArray, List.set_cons_zero, List.set_cons_succ]
      refine wpAnyH_ready (rs := [1, 7]) (by kernel_rfl) (by simp) ?_
      refine AllReadyH.cons rfl (fun K hK => ?_) (AllReadyH.cons rfl (fun K hK => ?_) AllReadyH.nil)
      · go_simp
        clear hHeld
        refine hK.out _ _ (KB.out _ (below_drew (Below.refl _ _))) (fun hHeld => ?_)
        clear hK K
        try simp only [Act.put, List.setIfInBounds_toArray, List.set_cons_zero, List.set_cons_succ]
        refine wpAnyH_ready (rs := [7]) (by kernel_rfl) (by simp) ?_
        refine AllReadyH.cons rfl (fun K hK => ?_) AllReadyH.nil
        go_simp
        have bB : Below wa.heap.size wr (wr.alloc (.cells #[hv g1.f, hv g1.t] 89)).drew := below_drew ((Below.refl _ _).alloc hIs _)
        have LB : Lies (wr.alloc (.cells #[hv g1.f, hv g1.t] 89)).drew (wr.heap.size + 1) (some ⟨wr.heap.size, 0, none⟩) [hv g1.f, hv g1.t] := (Lies.newN wr [hv g1.f, hv g1.t] 89).below (below_drew (Below.refl _ _))
        have rB : World.ownsRow (wr.alloc (.cells #[hv g1.f, hv g1.t] 89)).drew wa.heap.size 89 2 (.slice Gv k gv) k (gpFlat (gs.take k)) := hrow.alloc _
        have xB : Whole (wr.alloc (.cells #[hv g1.f, hv g1.t] 89)).drew g 26 #[uv cum, uv win, .slice Gv k gv, .slice D ds.length dc] := hw.alloc _
        have dB : Lies (wr.alloc (.cells #[hv g1.f, hv g1.t] 89)).drew w.heap.size D (ds.map uv) ∨ World.ownsRow (wr.alloc (.cells #[hv g1.f, hv g1.t] 89)).drew wa.heap.size 22 1 (.slice D ds.length dc) ds.length (ds.map uv) := HI.out.dl.imp (fun h => h.below (bB.mono (by omega))) (fun h => h.alloc _)
        have kB : (wr.alloc (.cells #[hv g1.f, hv g1.t] 89)).drew.cell? ⟨g, 2, none⟩ = some (.slice Gv k gv) := k2a
        have hsB : wa.heap.size ≤ (wr.alloc (.cells #[hv g1.f, hv g1.t] 89)).drew.heap.size := Nat.le_trans hIs bB.size
        generalize (wr.alloc (.cells #[hv g1.f, hv g1.t] 89)).drew = wB at *
        clear hHeld
        refine hK.out _ _ (KB.out _ bB) (fun hHeld => ?_)
        clear hK K
        try simp only [Act.put, List.setIfInBounds_toArray, List.set_cons_zero, List.set_cons_succ]
        refine wpAnyH_ready (rs := [8]) (by kernel_rfl) (by simp) ?_
        refine AllReadyH.cons rfl (fun K hK => ?_) AllReadyH.nil
        have hone : ∀ u ∈ [hv g1.f, hv g1.t], u.oneCell' = true := by intro u hu; simp at hu; rcases hu with rfl | rfl <;> rfl
        refine wp_append_wide14 (.tmp 20) (.tmp 26) 23 rfl wa.heap.size 89 _ 2 4 Tryz.underlying23 rgapinfo rfl (by omega) (.slice Gv k gv) k _ rfl rB _ (some ⟨wr.heap.size, 0, none⟩) 1 1 [hv g1.f, hv g1.t] rfl rfl LB hone (by omega) (by unfold maxLen; omega) hsB ?_
        intro v' w7 own7 gr7
        obtain ⟨A7, c7, rfl⟩ := own_slice2 own7
        have x7 : Whole w7 g 26 _ := xB.grown gr7 (fun e => whole_row_ne13 xB (by decide) rB e.symm)
        have R7 : Below wa.heap.size wr w7 := bB.grown gr7 hsB (fun r e => (rB.lt r e).1)
        have d7 : Lies w7 w.heap.size D (ds.map uv) ∨ w7.ownsRow wa.heap.size 22 1 (.slice D ds.length dc) ds.length (ds.map uv) := dB.imp (fun h => h.below (((Below.refl _ _).grown gr7 hsB (fun r e => (rB.lt r e).1)).mono (by omega))) (fun h => h.kept gr7 (row_ne2 (by decide) h rB))
        have f7 := x7.frozen 2
        have e7 := (wh4 x7).2.2.1
        clear hHeld
        refine hK.out _ _ (KB.out _ R7) (fun hHeld => ?_)
        clear hK K
        try simp only [Act.put, List.setIfInBounds_toArray, List.set_cons_zero, List.set_cons_succ]
        refine take_at (i := 9) (v := ?_) (some 28) rfl (by kernel_rfl) (by kernel_rfl) (by kernel_rfl) (fun _ _ _ h => h) (by kernel_rfl) (Or.inl ⟨by kernel_rfl, ?_⟩) (by assumption) ?_
        rotate_left
        · (intro w hSw; (try dsimp only at hSw); go_simp <;> with_reducible rfl)
        simp only [Act.put, List.setIfInBounds_toArray, List.set_cons_zero, List.set_cons_succ]
        refine wpAnyH_ready (rs := [10]) (by kernel_rfl) (by simp) ?_
        refine AllReadyH.cons rfl (fun K hK => ?_) AllReadyH.nil
        go_simp
        clear hHeld
        refine hK.out _ _ (KB.out _ (R7.setCell (p := ⟨g, 2, none⟩) hge _)) (fun hHeld => ?_)
        clear hK K
        try simp only [Act.put, List.setIfInBounds_toArray, List.set_cons_zero, List.set_cons_succ]
        refine wpAnyH_done (by kernel_rfl) ?_ _
        have hJ := gvI_next HI.out x7 own7 HT.out (by omega) d7 R7 hge (by decide) (by decide)
        go_wp2_with fail
        go_roundw
        case rel => exact ⟨k + 1, by omega, by go_num, hJ⟩
        case measure => simp [intOf]; omega
      · go_simp
        have bB : Below wa.heap.size wr (wr.alloc (.cells #[hv g1.f, hv g1.t] 89)).drew := below_drew ((Below.refl _ _).alloc hIs _)
        have LB : Lies (wr.alloc (.cells #[hv g1.f, hv g1.t] 89)).drew (wr.heap.size + 1) (some ⟨wr.heap.size, 0, none⟩) [hv g1.f, hv g1.t] := (Lies.newN wr [hv g1.f, hv g1.t] 89).below (below_drew (Below.refl _ _))
        have rB : World.ownsRow (wr.alloc (.cells #[hv g1.f, hv g1.t] 89)).drew wa.heap.size 89 2 (.slice Gv k gv) k (gpFlat (gs.take k)) := hrow.alloc _
        have xB : Whole (wr.alloc (.cells #[hv g1.f, hv g1.t] 89)).drew g 26 #[uv cum, uv win, .slice Gv k gv, .slice D ds.length dc] := hw.alloc _
        have dB : Lies (wr.alloc (.cells #[hv g1.f, hv g1.t] 89)).drew w.heap.size D (ds.map uv) ∨ World.ownsRow (wr.alloc (.cells #[hv g1.f, hv g1.t] 89)).drew wa.heap.size 22 1 (.slice D ds.length dc) ds.length (ds.map uv) := HI.out.dl.imp (fun h => h.below (bB.mono (by omega))) (fun h => h.alloc _)
        have kB : (wr.alloc (.cells #[hv g1.f, hv g1.t] 89)).drew.cell? ⟨g, 2, none⟩ = some (.slice Gv k gv) := k2a
        have hsB : wa.heap.size ≤ (wr.alloc (.cells #[hv g1.f, hv g1.t] 89)).drew.heap.size := Nat.le_trans hIs bB.size
        generalize (wr.alloc (.cells #[hv g1.f, hv g1.t] 89)).drew = wB at *
        clear hHeld
        refine hK.out _ _ (KB.out _ bB) (fun hHeld => ?_)
        clear hK K
        try simp only [Act.put, List.setIfInBounds_toArray, List.set_cons_zero, List.set_cons_succ]
        refine wpAnyH_ready (rs := [1]) (by kernel_rfl) (by simp) ?_
        refine AllReadyH.cons rfl (fun K hK => ?_) AllReadyH.nil
        go_simp
        clear hHeld
        refine hK.out _ _ (KB.out _ bB) (fun hHeld => ?_)
        clear hK K
        try simp only [Act.put, List.setIfInBounds_toArray, List.set_cons_zero, List.set_cons_succ]
        refine wpAnyH_ready (rs := [8]) (by kernel_rfl) (by simp) ?_
        refine AllReadyH.cons rfl (fun K hK => ?_) AllReadyH.nil
        have hone : ∀ u ∈ [hv g1.f, hv g1.t], u.oneCell' = true := by intro u hu; simp at hu; rcases hu with rfl | rfl <;> rfl
        refine wp_append_wide14 (.tmp 20) (.tmp 26) 23 rfl wa.heap.size 89 _ 2 4 Tryz.underlying23 rgapinfo rfl (by omega) (.slice Gv k gv) k _ rfl rB _ (some ⟨wr.heap.size, 0, none⟩) 1 1 [hv g1.f, hv g1.t] rfl rfl LB hone (by omega) (by unfold maxLen; omega) hsB ?_
        intro v' w7 own7 gr7
        obtain ⟨A7, c7, rfl⟩ := own_slice2 own7
        have x7 : Whole w7 g 26 _ := xB.grown gr7 (fun e => whole_row_ne13 xB (by decide) rB e.symm)
        have R7 : Below wa.heap.size wr w7 := bB.grown gr7 hsB (fun r e => (rB.lt r e).1)
        have d7 : Lies w7 w.heap.size D (ds.map uv) ∨ w7.ownsRow wa.heap.size 22 1 (.slice D ds.length dc) ds.length (ds.map uv) := dB.imp (fun h => h.below (((Below.refl _ _).grown gr7 hsB (fun r e => (rB.lt r e).1)).mono (by omega))) (fun h => h.kept gr7 (row_ne2 (by decide) h rB))
        have f7 := x7.frozen 2
        have e7 := (wh4 x7).2.2.1
        clear hHeld
        refine hK.out _ _ (KB.out _ R7) (fun hHeld => ?_)
        clear hK K
        try simp only [Act.put, List.setIfInBounds_toArray, List.set_cons_zero, List.set_cons_succ]
        refine take_at (i := 9) (v := ?_) (some 28) rfl (by kernel_rfl) (by kernel_rfl) (by kernel_rfl) (fun _ _ _ h => h) (by kernel_rfl) (Or.inl ⟨by kernel_rfl, ?_⟩) (by assumption) ?_
        rotate_left
        · (intro w hSw; (try dsimp only at hSw); go_simp <;> with_reducible rfl)
        simp only [Act.put, List.setIfInBounds_toArray, List.set_cons_zero, List.set_cons_succ]
        refine wpAnyH_ready (rs := [10]) (by kernel_rfl) (by simp) ?_
        refine AllReadyH.cons rfl (fun K hK => ?_) AllReadyH.nil
        go_simp
        clear hHeld
        refine hK.out _ _ (KB.out _ (R7.setCell (p := ⟨g, 2, none⟩) hge _)) (fun hHeld => ?_)
        clear hK K
        try simp only [Act.put, List.setIfInBounds_toArray, List.set_cons_zero, List.set_cons_succ]
        refine wpAnyH_done (by kernel_rfl) ?_ _
        have hJ := gvI_next HI.out x7 own7 HT.out (by omega) d7 R7 hge (by decide) (by decide)
        go_wp2_with fail
        go_roundw
        case rel => exact ⟨k + 1, by omega, by go_num, hJ⟩
        case measure => simp [intOf]; omega
    · obtain rfl : k = gs.length := by omega
      have hi1 : ¬ (gs.length : Int) < (gs.length : Int) := by omega
      have c2 := (KS.out wr hi.low).2.2.1
      obtain ⟨Gv, gv, hw, hrow⟩ := hi.box
      rw [List.take_length] at hrow
      have yr := Whole.below y0 hi.low (by omega)
      have hdl := hi.dl
      have HBW := Lib.hid (HB.out.trans (hi.low.mono (by omega)))
      obtain ⟨r0, r1, r2, r3⟩ := wh4 hw
      obtain ⟨t0, t1, t2, t3⟩ := wh4 yr
      have f0 := yr.frozen 0
      have f1 := yr.frozen 1
      have f2 := yr.frozen 2
      have f3 := yr.frozen 3
      clear hi y0 J0
      go_wp2_with fail
      have y4 := (((yr.set_ 0 (uv cum)).set_ 1 (uv win)).set_ 2 (.slice Gv gs.length gv)).set_ 3 (.slice D ds.length dc)
      refine bodyPost_ret (results_row13 rfl _ _ (w.heap.size + 1) 26 _ _ rfl y4 Tryz.underlying26 rfl (by kernel_rfl)) rfl ?_
      have hgr := (((grownBy_setCell1 wr (w.heap.size + 1) 0 (uv cum)).trans (grownBy_setCell1 _ (w.heap.size + 1) 1 (uv win))).trans (grownBy_setCell1 _ (w.heap.size + 1) 2 (.slice Gv gs.length gv))).trans (grownBy_setCell1 _ (w.heap.size + 1) 3 (.slice D ds.length dc))
      have hg3 := hrow.kept hgr (.inr (whole_row_ne13 yr (by decide) hrow))
      refine ⟨HBW.out.grown hgr (by omega) (fun r e => by cases e; omega), Gv, gv, D, dc, rfl, ⟨own_liesW hg3 (fun h0 => by have h9 : gs.length = 0 := h0; exact List.length_eq_zero_iff.1 (by show (gpFlat gs).length = 0; rw [gpFlat_len]; omega)), (own_capG hg3).1, (own_capG hg3).2⟩, ?_, ?_, ?_⟩
      · rcases hdl with h | h
        · exact (h.below ((Below.refl _ _).grown hgr (by omega) (fun r e => by cases e; omega))).more (Nat.le_trans (show w.heap.size ≤ wr.heap.size by omega) hgr.size)
        · exact Lies.own (h.kept hgr (.inr (whole_row_ne13 yr (by decide) h)))
      · exact hd1
      · exact hd2
end Go.Proofs.YtabljmiiekpgiaaGreatDoor







namespace Go.Proofs.YtabljmiiekpgiaaGreatDoor
open Go.RowKit

set_option linter.unusedSimpArgs false
theorem nrd2_num {d : List UInt8} {i : Nat} (h : i + 2 ≤ d.length) : nrd d i 2 = UInt32.ofNat (num2 d i) := by
  unfold nrd num2
  rw [drop_two h, numOf_twoE]
theorem rnum_len (k : Nat) (hk : widthB k = true) (A : Option Addr) (c : Nat) (b : List UInt8) (m q : Nat) (hm : b.length = m) (hq : m = q * k) (hs : m ≤ 35184372088832) (w : World) (h : Lies w w.heap.size A (b.map bv)) :
    Calls Tryz.prog 74 #[.int .i64 (k : Int), .slice A m c] w fun e w' => ∃ A' c', e = .returned (.slice A' q c') ∧ w'.ownsRow w.heap.size 22 1 (.slice A' q c') q ((nums k b).map uv) ∧ Below w.heap.size w w' := by
  subst hm
  have hk0 : 0 < k := by
    rcases Nat.eq_zero_or_pos k with rfl | h
    · simp [widthB] at hk
    · exact h
  have h1 := rnumbers_any k hk A c b w h (by rw [hq]; exact Nat.mul_mod_left _ _) hs
  have e : b.length / k = q := by rw [hq]; exact Nat.mul_div_cancel _ hk0
  rw [e] at h1
  exact h1
theorem own_belowR {w w' : World} {base e s n : Nat} {v : Value} {xs : List Value} (h : w.ownsRow base e s v n xs) (hb : Below w.heap.size w w') : w'.ownsRow base e s v n xs := by
  refine ⟨h.1, ?_⟩
  rcases h.2 with hn | ⟨g, cap, cur, rfl, hb', hgg, rest⟩
  · exact .inl hn
  · exact .inr ⟨g, cap, cur, rfl, hb', (hb.block g (Array.getElem?_eq_some_iff.1 hgg).1).trans hgg, rest⟩
theorem nums_at {b : List UInt8} {k j : Nat} (h : j < b.length / k) : (nums k b)[j]? = some (numAt k b j) := by
  unfold nums
  rw [List.getElem?_map, List.getElem?_range h]
  rfl
theorem gap_at (d : List UInt8) (G j : Nat) (hj : j < G) (hd : 12 + 4 * G ≤ d.length) : (prG (nums 2 ((d.drop 12).take (4 * G))))[j]? = some ⟨UInt16.ofNat (nrd d (12 + 4 * j) 2).toNat, UInt16.ofNat (nrd d (12 + 4 * j + 2) 2).toNat⟩ := by
  have hl : ((d.drop 12).take (4 * G)).length / 2 = 2 * G := by rw [List.length_take, List.length_drop]; omega
  have e : ∀ i, i < 2 * G → numAt 2 ((d.drop 12).take (4 * G)) i = nrd d (12 + 2 * i) 2 := fun i hi => by
    unfold numAt nrd
    congr 2
    rw [List.drop_take, List.take_take, List.drop_drop, Nat.mul_comm i 2]
    congr 1
    omega
  refine prG_at _ _ _ _ ?_ ?_
  · rw [nums_at (by omega), e _ (by omega), show 12 + 2 * (2 * j) = 12 + 4 * j by omega]
  · rw [nums_at (by omega), e _ (by omega), show 12 + 2 * (2 * j + 1) = 12 + 4 * j + 2 by omega]
set_option maxRecDepth 100000 in
set_option maxHeartbeats 16000000 in
theorem rof14_any (d : List UInt8) (hx : isS ⟨3, 0, d, []⟩ = true) (A : Option Addr) (c : Nat) (K : Option Addr) (k : Nat) (w : World) (h : Chunk w w.heap.size A c K k ⟨3, 0, d, []⟩) :
    Calls Tryz.prog 26 #[.agg #[.int .u8 3, .int .u8 0, .slice A d.length c, .slice K 0 k]] w fun e w' => Below w.heap.size w w' ∧ ∃ G gc D dc, e = .returned (skV (skOf ⟨3, 0, d, []⟩) G gc D dc) ∧ SkL w' w'.heap.size G gc D dc (skOf ⟨3, 0, d, []⟩) := by
  obtain ⟨_, _, _, hd1, hd2⟩ := isS_all hx
  simp only at hd1 hd2
  have hdc : d.length ≤ c := h.dc
  have hdm := h.dm
  have hLd : Lies w w.heap.size A (d.map bv) := h.data
  obtain ⟨ad, hA, hadb, _⟩ := hLd (fun e => by rw [List.map_eq_nil_iff] at e; rw [e] at hd2; simp at hd2; omega)
  subst hA
  obtain ⟨G, hG⟩ : ∃ G, G = num2 d 8 := ⟨_, rfl⟩
  obtain ⟨N, hN⟩ : ∃ N, N = num2 d 10 := ⟨_, rfl⟩
  have hGlt : G < 65536 := by rw [hG]; exact num2_lt d 8
  have hOf : skOf ⟨3, 0, d, []⟩ = ⟨nrd d 0 4, nrd d 4 4, prG (nums 2 ((d.drop 12).take (4 * G))), nums 4 (d.drop (12 + 4 * G))⟩ := by rw [hG]; rfl
  have h82 : nrd d 8 2 = UInt32.ofNat G := by rw [hG]; exact nrd2_num (by omega)
  have hG32 : (UInt32.ofNat G).toNat = G := by rw [UInt32.toNat_ofNat']; omega
  rw [← hG, ← hN] at hd2
  have HD2 := Lib.hid hd2
  have hd3 : 12 + 4 * G ≤ d.length := by omega
  have hd4 : 12 ≤ d.length := by omega
  have hm6 : d.length ≤ 1000000 := by omega
  rw [hOf]
  have hpl : (prG (nums 2 ((d.drop 12).take (4 * G)))).length = G := prG_len _ _ (by rw [nums_len, List.length_take, List.length_drop]; omega)
  have hnl : (nums 4 (d.drop (12 + 4 * G))).length = N := by rw [nums_len, List.length_drop]; omega
  have HGA := Lib.hid (gap_at d G)
  generalize hgs : prG (nums 2 ((d.drop 12).take (4 * G))) = gs at *
  have b0 : Below w.heap.size w (((w.alloc (.cells #[.int .u8 3, .int .u8 0, .slice (some ad) d.length c, .slice K 0 k] 33)).alloc (.cells #[.int .u32 0, .int .u32 0, .slice none 0 0, .slice none 0 0] 26)).alloc (.cells #[.int .u32 0, .int .u32 0, .slice none 0 0, .slice none 0 0] 26)) := (((Below.refl _ w).alloc (Nat.le_refl _) _).alloc (by simp) _).alloc (by simp; omega) _
  have x0 := ((Whole.new w 33 #[.int .u8 3, .int .u8 0, .slice (some ad) d.length c, .slice K 0 k]).alloc (.cells #[.int .u32 0, .int .u32 0, .slice none 0 0, .slice none 0 0] 26)).alloc (.cells #[.int .u32 0, .int .u32 0, .slice none 0 0, .slice none 0 0] 26)
  have y0 := (Whole.new (w.alloc (.cells #[.int .u8 3, .int .u8 0, .slice (some ad) d.length c, .slice K 0 k] 33)) 26 #[.int .u32 0, .int .u32 0, .slice none 0 0, .slice none 0 0]).alloc (.cells #[.int .u32 0, .int .u32 0, .slice none 0 0, .slice none 0 0] 26)
  have z0 := Whole.new ((w.alloc (.cells #[.int .u8 3, .int .u8 0, .slice (some ad) d.length c, .slice K 0 k] 33)).alloc (.cells #[.int .u32 0, .int .u32 0, .slice none 0 0, .slice none 0 0] 26)) 26 #[.int .u32 0, .int .u32 0, .slice none 0 0, .slice none 0 0]
  rw [World.size_alloc] at y0
  rw [World.size_alloc, World.size_alloc] at z0
  have hz : w.heap.size + 3 ≤ (((w.alloc (.cells #[.int .u8 3, .int .u8 0, .slice (some ad) d.length c, .slice K 0 k] 33)).alloc (.cells #[.int .u32 0, .int .u32 0, .slice none 0 0, .slice none 0 0] 26)).alloc (.cells #[.int .u32 0, .int .u32 0, .slice none 0 0, .slice none 0 0] 26)).heap.size := by simp
  have L0 : Lies _ w.heap.size (some ad) (d.map bv) := hLd.below b0
  have h0L := hLd
  clear h hx hOf hd2 hLd hadb hgs hG hN
  go_enter Tryz.func26, Tryz.ntmps26
  go_upto_region 2 with fail
  generalize ((w.alloc (.cells #[.int .u8 3, .int .u8 0, .slice (some ad) d.length c, .slice K 0 k] 33)).alloc (.cells #[.int .u32 0, .int .u32 0, .slice none 0 0, .slice none 0 0] 26)).alloc (.cells #[.int .u32 0, .int .u32 0, .slice none 0 0, .slice none 0 0] 26) = wa at *
  have N1 : Calls Tryz.prog 73 #[.slice (some ad) d.length c, .int .i64 0, .int .i64 4] wa fun e w' => e = .returned (.tuple #[uv (nrd d 0 4), .bool true]) ∧ wa = w' := num13 (some ad) c d 0 4 wa (L0.more (by omega)) hm6 rfl (by omega)
  obtain ⟨_, _, q2, _⟩ := wh4 x0
  obtain ⟨r0, _, _, _⟩ := wh4 z0
  have f0 := z0.frozen 0
  go_wp2_with fail
  refine N1.mono ?_
  rintro e w9 ⟨rfl, rfl⟩
  go_upto_region 3 with fail
  have x1 := x0.far (p := ⟨w.heap.size + 2, 0, none⟩) (by show w.heap.size ≠ w.heap.size + 2; omega) (uv (nrd d 0 4))
  have y1 := y0.far (p := ⟨w.heap.size + 2, 0, none⟩) (by show w.heap.size + 1 ≠ w.heap.size + 2; omega) (uv (nrd d 0 4))
  have z1 := z0.set_ 0 (uv (nrd d 0 4))
  have b1 := b0.setCell (p := ⟨w.heap.size + 2, 0, none⟩) (by show w.heap.size ≤ w.heap.size + 2; omega) (uv (nrd d 0 4))
  have hs1 : (wa.setCell ⟨w.heap.size + 2, 0, none⟩ (uv (nrd d 0 4))).heap.size = wa.heap.size := by simp
  have L1 : Lies _ w.heap.size (some ad) (d.map bv) := L0.below ((Below.refl _ _).setCell (p := ⟨w.heap.size + 2, 0, none⟩) (by show w.heap.size ≤ w.heap.size + 2; omega) (uv (nrd d 0 4)))
  generalize wa.setCell ⟨w.heap.size + 2, 0, none⟩ (uv (nrd d 0 4)) = wb at *
  rw [← hs1] at hz
  clear x0 y0 z0 b0 L0 N1 q2 r0 f0 hs1
  have N2 : Calls Tryz.prog 73 #[.slice (some ad) d.length c, .int .i64 4, .int .i64 4] wb fun e w' => e = .returned (.tuple #[uv (nrd d 4 4), .bool true]) ∧ wb = w' := num13 (some ad) c d 4 4 wb (L1.more (by omega)) hm6 rfl (by omega)
  obtain ⟨_, _, q2, _⟩ := wh4 x1
  obtain ⟨_, r1, _, _⟩ := wh4 z1
  have f1 := z1.frozen 1
  go_wp2_with fail
  refine N2.mono ?_
  rintro e w9 ⟨rfl, rfl⟩
  go_upto_region 4 with fail
  have x2 := x1.far (p := ⟨w.heap.size + 2, 1, none⟩) (by show w.heap.size ≠ w.heap.size + 2; omega) (uv (nrd d 4 4))
  have y2 := y1.far (p := ⟨w.heap.size + 2, 1, none⟩) (by show w.heap.size + 1 ≠ w.heap.size + 2; omega) (uv (nrd d 4 4))
  have z2 := z1.set_ 1 (uv (nrd d 4 4))
  have b2 := b1.setCell (p := ⟨w.heap.size + 2, 1, none⟩) (by show w.heap.size ≤ w.heap.size + 2; omega) (uv (nrd d 4 4))
  have hs2 : (wb.setCell ⟨w.heap.size + 2, 1, none⟩ (uv (nrd d 4 4))).heap.size = wb.heap.size := by simp
  have L2 : Lies _ w.heap.size (some ad) (d.map bv) := L1.below ((Below.refl _ _).setCell (p := ⟨w.heap.size + 2, 1, none⟩) (by show w.heap.size ≤ w.heap.size + 2; omega) (uv (nrd d 4 4)))
  generalize wb.setCell ⟨w.heap.size + 2, 1, none⟩ (uv (nrd d 4 4)) = wc at *
  rw [← hs2] at hz
  clear x1 y1 z1 b1 L1 N2 q2 r1 f1 hs2
  have N3 : Calls Tryz.prog 73 #[.slice (some ad) d.length c, .int .i64 8, .int .i64 2] wc fun e w' => e = .returned (.tuple #[.int .u32 (G : Int), .bool true]) ∧ wc = w' := by
    have h9 := num13 (some ad) c d 8 2 wc (L2.more (by omega)) hm6 rfl (by omega)
    rw [h82, uv, hG32] at h9
    exact h9
  obtain ⟨_, _, q2, _⟩ := wh4 x2
  go_wp2_with fail
  refine N3.mono ?_
  rintro e w9 ⟨rfl, rfl⟩
  have hI0 : Whole wc (w.heap.size + 2) 26 #[uv (nrd d 0 4), uv (nrd d 4 4), .slice none 0 0, .slice none 0 0] := z2
  clear N3 h82 hG32 hGlt q2
  go_wp2_with fail
  go_loopw [6, 7] (fun a i wr => ∃ (j : Nat) (Gv : Option Addr) (gv : Nat), j ≤ G ∧ a = .int .i64 (12 + 4 * (j : Int)) ∧ i = .int .i64 (j : Int) ∧ Whole wr (w.heap.size + 2) 26 #[uv (nrd d 0 4), uv (nrd d 4 4), .slice Gv j gv, .slice none 0 0] ∧ wr.ownsRow (w.heap.size + 3) 89 2 (.slice Gv j gv) j (gpFlat (gs.take j)) ∧
    Whole wr w.heap.size 33 #[.int .u8 3, .int .u8 0, .slice (some ad) d.length c, .slice K 0 k] ∧ Whole wr (w.heap.size + 1) 26 #[.int .u32 0, .int .u32 0, .slice none 0 0, .slice none 0 0] ∧ Below w.heap.size w wr ∧ w.heap.size + 3 ≤ wr.heap.size) (fun _ i _ => G - (intOf i).toNat)
  case atStart => exact ⟨0, none, 0, Nat.zero_le _, rfl, rfl, hI0, World.ownsRow_nil _ _ _ _, x2, y2, b2, hz⟩
  case round =>
    obtain ⟨j, Gv, gv, hj, rfl, rfl, hw, hrow, hx, hy, hbel, hsz⟩ := hrel
    have Lr : Lies wr w.heap.size (some ad) (d.map bv) := (h0L.below hbel)
    obtain ⟨_, _, q2, _⟩ := wh4 hx
    by_cases hlt : j < G
    · have hi1 : (j : Int) < (G : Int) := by omega
      have NA : Calls Tryz.prog 73 #[.slice (some ad) d.length c, .int .i64 (12 + 4 * (j : Int)), .int .i64 2] wr fun e w' => e = .returned (.tuple #[uv (nrd d (12 + 4 * j) 2), .bool true]) ∧ wr = w' := by
        have h9 := num13 (some ad) c d (12 + 4 * j) 2 wr (Lr.more (by omega)) hm6 rfl (by omega)
        rw [show ((12 + 4 * j : Nat) : Int) = 12 + 4 * (j : Int) by omega] at h9
        exact h9
      have NB : Calls Tryz.prog 73 #[.slice (some ad) d.length c, .int .i64 (12 + 4 * (j : Int) + 2), .int .i64 2] wr fun e w' => e = .returned (.tuple #[uv (nrd d (12 + 4 * j + 2) 2), .bool true]) ∧ wr = w' := by
        have h9 := num13 (some ad) c d (12 + 4 * j + 2) 2 wr (Lr.more (by omega)) hm6 rfl (by omega)
        rw [show ((12 + 4 * j + 2 : Nat) : Int) = 12 + 4 * (j : Int) + 2 by omega] at h9
        exact h9
      have HG1 := Lib.hid (HGA.out j hlt hd3)
      have hba : nrd d (12 + 4 * j) 2 = UInt32.ofNat (num2 d (12 + 4 * j)) := nrd2_num (by omega)
      have hbb : nrd d (12 + 4 * j + 2) 2 = UInt32.ofNat (num2 d (12 + 4 * j + 2)) := nrd2_num (by omega)
      have hla : (nrd d (12 + 4 * j) 2).toNat < 65536 := by have := num2_lt d (12 + 4 * j); rw [hba, UInt32.toNat_ofNat']; omega
      have hlb : (nrd d (12 + 4 * j + 2) 2).toNat < 65536 := by have := num2_lt d (12 + 4 * j + 2); rw [hbb, UInt32.toNat_ofNat']; omega
      clear hba hbb
      generalize nrd d (12 + 4 * j) 2 = na at *
      generalize nrd d (12 + 4 * j + 2) 2 = nb at *
      have ma : (na.toNat : Int) % 65536 = (na.toNat : Int) := by omega
      have mb : (nb.toNat : Int) % 65536 = (nb.toNat : Int) := by omega
      have eh : ∀ n : UInt32, n.toNat < 65536 → Value.int .u16 (n.toNat : Int) = hv (UInt16.ofNat n.toNat) := fun n h => by rw [hv, UInt16.toNat_ofNat', Nat.mod_eq_of_lt h]
      have HE := Lib.hid (And.intro (eh na hla) (eh nb hlb))
      have c2 : wr.cell? ⟨w.heap.size + 2, 2, none⟩ = some (.slice Gv j gv) := (wh4 hw).2.2.1
      have HL := Lib.hid Lr
      clear eh Lr
      go_wp2_with fail
      refine NA.mono ?_
      rintro e w9 ⟨rfl, rfl⟩
      go_wp2_with fail
      refine NB.mono ?_
      rintro e w9 ⟨rfl, rfl⟩
      go_upto_region 11 with fail
      have hone : ∀ u ∈ ([.int .u16 (na.toNat : Int), .int .u16 (nb.toNat : Int)] : List Value), u.oneCell' = true := by intro u hu; simp at hu; rcases hu with rfl | rfl <;> rfl
      have c2a : (wr.alloc (.cells #[.int .u16 (na.toNat : Int), .int .u16 (nb.toNat : Int)] 89)).cell? ⟨w.heap.size + 2, 2, none⟩ = some (.slice Gv j gv) := (wh4 (hw.alloc _)).2.2.1
      have xA : Whole (wr.alloc (.cells #[.int .u16 (na.toNat : Int), .int .u16 (nb.toNat : Int)] 89)) (w.heap.size + 2) 26 #[uv (nrd d 0 4), uv (nrd d 4 4), .slice Gv j gv, .slice none 0 0] := hw.alloc _
      have rA : World.ownsRow (wr.alloc (.cells #[.int .u16 (na.toNat : Int), .int .u16 (nb.toNat : Int)] 89)) (w.heap.size + 3) 89 2 (.slice Gv j gv) j (gpFlat (gs.take j)) := hrow.alloc _
      clear NA NB q2
      go_wp2_with (at_builtin; refine wpList_append_wide13 _ rfl (.tmp 55) (.tmp 61) 23 rfl (w.heap.size + 3) 89 _ 2 4 Tryz.underlying23 rgapinfo rfl (by omega) _ _ _ rfl rA _ _ 1 1 [.int .u16 (na.toNat : Int), .int .u16 (nb.toNat : Int)] rfl rfl (Lies.newN _ _ _) hone (by omega) (by unfold maxLen; omega) (by simp; omega) ?_; intro v' w7 own7 gr7; obtain ⟨A7, c7, rfl⟩ := own_slice2 own7; have x7 : Whole w7 (w.heap.size + 2) 26 _ := xA.grown gr7 (fun e => whole_row_ne13 xA (by decide) rA e.symm); have e7 := (wh4 x7).2.2.1; have f7 := x7.frozen 2)
      have bA : Below (w.heap.size + 3) wr (wr.alloc (.cells #[.int .u16 (na.toNat : Int), .int .u16 (nb.toNat : Int)] 89)) := (Below.refl _ _).alloc hsz _
      have b7 : Below (w.heap.size + 3) wr w7 := bA.grown gr7 (by simp; omega) (fun r e => (rA.lt r e).1)
      have hx7 := (hx.below b7 (by omega)).far (p := ⟨w.heap.size + 2, 2, none⟩) (by show w.heap.size ≠ w.heap.size + 2; omega) (.slice A7 (j + 1) c7)
      have hy7 := (hy.below b7 (by omega)).far (p := ⟨w.heap.size + 2, 2, none⟩) (by show w.heap.size + 1 ≠ w.heap.size + 2; omega) (.slice A7 (j + 1) c7)
      have hz7 := x7.set_ 2 (.slice A7 (j + 1) c7)
      have own8 := own7.kept (grownBy_setCell1 w7 (w.heap.size + 2) 2 (.slice A7 (j + 1) c7)) (.inr (whole_row_ne13 x7 (by decide) own7))
      have b8 := (hbel.trans (b7.mono (by omega))).setCell (p := ⟨w.heap.size + 2, 2, none⟩) (by show w.heap.size ≤ w.heap.size + 2; omega) (.slice A7 (j + 1) c7)
      have hsz8 : w.heap.size + 3 ≤ (w7.setCell ⟨w.heap.size + 2, 2, none⟩ (.slice A7 (j + 1) c7)).heap.size := by have := b7.size; simp; omega
      have HFl : Hid (gpFlat (gs.take (j + 1)) = gpFlat (gs.take j) ++ [.int .u16 (na.toNat : Int), .int .u16 (nb.toNat : Int)]) := Lib.hid (by rw [take_some HG1.out, gpFlat_snoc, HE.out.1, HE.out.2])
      rw [← HFl.out] at own8
      go_wp2_with fail
      go_roundw
      case rel => exact ⟨j + 1, A7, c7, by omega, by go_num, by go_num, hz7, own8, hx7, hy7, b8, hsz8⟩
      case measure => simp [intOf]; omega
    · obtain rfl : j = G := by omega
      have hi1 : ¬ (j : Int) < (j : Int) := by omega
      rw [List.take_of_length_le (by omega)] at hrow
      have hN4 := HD2.out
      have LD := Lr.drop (k := 12 + 4 * j) (c := c) (by simpa using hdc)
      simp only [Option.map_some] at LD
      rw [← List.map_drop] at LD
      have hc1 : (12 : Int) + 4 * (j : Int) ≤ (d.length : Int) := by omega
      have hc2 : (12 : Int) + 4 * (j : Int) ≤ (c : Int) := by omega
      have hc0 : (0 : Int) ≤ 12 + 4 * (j : Int) := by omega
      have htn : ((12 : Int) + 4 * (j : Int)).toNat = 12 + 4 * j := by omega
      have NC : ∀ P cc, Lies wr w.heap.size P ((d.drop (12 + 4 * j)).map bv) → Calls Tryz.prog 74 #[.int .i64 4, .slice P (d.length - (12 + 4 * j)) cc] wr fun e w' => ∃ A' c', e = .returned (.slice A' N c') ∧ w'.ownsRow wr.heap.size 22 1 (.slice A' N c') N ((nums 4 (d.drop (12 + 4 * j))).map uv) ∧ Below wr.heap.size wr w' := fun P cc hP =>
        rnum_len 4 rfl P cc (d.drop (12 + 4 * j)) (d.length - (12 + 4 * j)) N (by rw [List.length_drop]) (by omega) (by omega) wr (hP.more (by omega))
      clear HGA Lr hN4
      go_upto_region 13 with fail
      have HL1 : Hid (c = 12 + 4 * j → Lies wr w.heap.size (some ad) ((d.drop (12 + 4 * j)).map bv)) := Lib.hid (fun e => by rw [if_pos e] at LD; exact LD)
      have HL2 : Hid (¬ c = 12 + 4 * j → Lies wr w.heap.size (some (ad.add (12 + 4 * j))) ((d.drop (12 + 4 * j)).map bv)) := Lib.hid (fun e => by rw [if_neg e] at LD; exact LD)
      clear LD
      have HNC := Lib.hid NC
      clear NC
      go_wp2_with fail
      · refine (HNC.out _ 0 (HL1.out (by omega))).mono ?_
        rintro e w5 ⟨D, dc, rfl, own5, b5⟩
        have z5 := hw.below b5 (by omega)
        have y5 := hy.below b5 (by omega)
        have hrow5 := own_belowR hrow b5
        have B5 := hbel.trans (b5.mono (by omega))
        have e3 := (wh4 z5).2.2.2
        have f3 := z5.frozen 3
        go_upto_region 14 with fail
        have y6 := y5.far (p := ⟨w.heap.size + 2, 3, none⟩) (by show w.heap.size + 1 ≠ w.heap.size + 2; omega) (.slice D N dc)
        have z6 := z5.set_ 3 (.slice D N dc)
        have own6 := own_set13 (i := 3) (u := .slice D N dc) own5 z5 (by decide)
        have row6 := hrow5.kept (grownBy_setCell1 w5 (w.heap.size + 2) 3 (.slice D N dc)) (.inr (whole_row_ne13 z5 (by decide) hrow5))
        have B6 := B5.setCell (p := ⟨w.heap.size + 2, 3, none⟩) (by show w.heap.size ≤ w.heap.size + 2; omega) (.slice D N dc)
        have hs6 : w.heap.size + 3 ≤ (w5.setCell ⟨w.heap.size + 2, 3, none⟩ (.slice D N dc)).heap.size := by have := b5.size; simp; omega
        generalize w5.setCell ⟨w.heap.size + 2, 3, none⟩ (.slice D N dc) = w6 at *
        clear e3 f3 z5 y5 hrow5 B5 own5 b5
        obtain ⟨r0, r1, r2, r3⟩ := wh4 z6
        obtain ⟨t0, t1, t2, t3⟩ := wh4 y6
        have f0 := y6.frozen 0
        have f1 := y6.frozen 1
        have f2 := y6.frozen 2
        have f3 := y6.frozen 3
        go_wp2_with fail
        have y7 := (((y6.set_ 0 (uv (nrd d 0 4))).set_ 1 (uv (nrd d 4 4))).set_ 2 (.slice Gv j gv)).set_ 3 (.slice D N dc)
        refine bodyPost_ret (results_row13 rfl _ _ (w.heap.size + 1) 26 _ _ rfl y7 Tryz.underlying26 rfl (by kernel_rfl)) rfl ?_
        have hgr := (((grownBy_setCell1 w6 (w.heap.size + 1) 0 (uv (nrd d 0 4))).trans (grownBy_setCell1 _ (w.heap.size + 1) 1 (uv (nrd d 4 4)))).trans (grownBy_setCell1 _ (w.heap.size + 1) 2 (.slice Gv j gv))).trans (grownBy_setCell1 _ (w.heap.size + 1) 3 (.slice D N dc))
        have hg9 := row6.kept hgr (.inr (whole_row_ne13 y6 (by decide) row6))
        have hd9 := own6.kept hgr (.inr (whole_row_ne13 y6 (by decide) own6))
        have hcD := own_capG hd9
        refine ⟨B6.grown hgr (by omega) (fun r e => by cases e; omega), Gv, gv, D, dc, ?_, ⟨own_liesW hg9 (fun h0 => by rename_i hh; exact List.length_eq_zero_iff.1 (by show (gpFlat gs).length = 0; rw [gpFlat_len, hpl]; omega)), by show gs.length ≤ gv; rw [hpl]; exact (own_capG hg9).1, (own_capG hg9).2⟩, Lies.own hd9, by show (nums 4 (d.drop (12 + 4 * j))).length ≤ dc; rw [hnl]; exact hcD.1, hcD.2⟩
        show Ending.returned _ = Ending.returned (.agg #[uv (nrd d 0 4), uv (nrd d 4 4), .slice Gv gs.length gv, .slice D (nums 4 (d.drop (12 + 4 * j))).length dc])
        rw [hpl, hnl]
        rfl
      · skip
        refine (HNC.out _ (c - (12 + 4 * j)) (HL2.out (by omega))).mono ?_
        rintro e w5 ⟨D, dc, rfl, own5, b5⟩
        have z5 := hw.below b5 (by omega)
        have y5 := hy.below b5 (by omega)
        have hrow5 := own_belowR hrow b5
        have B5 := hbel.trans (b5.mono (by omega))
        have e3 := (wh4 z5).2.2.2
        have f3 := z5.frozen 3
        go_upto_region 14 with fail
        have y6 := y5.far (p := ⟨w.heap.size + 2, 3, none⟩) (by show w.heap.size + 1 ≠ w.heap.size + 2; omega) (.slice D N dc)
        have z6 := z5.set_ 3 (.slice D N dc)
        have own6 := own_set13 (i := 3) (u := .slice D N dc) own5 z5 (by decide)
        have row6 := hrow5.kept (grownBy_setCell1 w5 (w.heap.size + 2) 3 (.slice D N dc)) (.inr (whole_row_ne13 z5 (by decide) hrow5))
        have B6 := B5.setCell (p := ⟨w.heap.size + 2, 3, none⟩) (by show w.heap.size ≤ w.heap.size + 2; omega) (.slice D N dc)
        have hs6 : w.heap.size + 3 ≤ (w5.setCell ⟨w.heap.size + 2, 3, none⟩ (.slice D N dc)).heap.size := by have := b5.size; simp; omega
        generalize w5.setCell ⟨w.heap.size + 2, 3, none⟩ (.slice D N dc) = w6 at *
        clear e3 f3 z5 y5 hrow5 B5 own5 b5
        obtain ⟨r0, r1, r2, r3⟩ := wh4 z6
        obtain ⟨t0, t1, t2, t3⟩ := wh4 y6
        have f0 := y6.frozen 0
        have f1 := y6.frozen 1
        have f2 := y6.frozen 2
        have f3 := y6.frozen 3
        go_wp2_with fail
        have y7 := (((y6.set_ 0 (uv (nrd d 0 4))).set_ 1 (uv (nrd d 4 4))).set_ 2 (.slice Gv j gv)).set_ 3 (.slice D N dc)
        refine bodyPost_ret (results_row13 rfl _ _ (w.heap.size + 1) 26 _ _ rfl y7 Tryz.underlying26 rfl (by kernel_rfl)) rfl ?_
        have hgr := (((grownBy_setCell1 w6 (w.heap.size + 1) 0 (uv (nrd d 0 4))).trans (grownBy_setCell1 _ (w.heap.size + 1) 1 (uv (nrd d 4 4)))).trans (grownBy_setCell1 _ (w.heap.size + 1) 2 (.slice Gv j gv))).trans (grownBy_setCell1 _ (w.heap.size + 1) 3 (.slice D N dc))
        have hg9 := row6.kept hgr (.inr (whole_row_ne13 y6 (by decide) row6))
        have hd9 := own6.kept hgr (.inr (whole_row_ne13 y6 (by decide) own6))
        have hcD := own_capG hd9
        refine ⟨B6.grown hgr (by omega) (fun r e => by cases e; omega), Gv, gv, D, dc, ?_, ⟨own_liesW hg9 (fun h0 => by rename_i hh; exact List.length_eq_zero_iff.1 (by show (gpFlat gs).length = 0; rw [gpFlat_len, hpl]; omega)), by show gs.length ≤ gv; rw [hpl]; exact (own_capG hg9).1, (own_capG hg9).2⟩, Lies.own hd9, by show (nums 4 (d.drop (12 + 4 * j))).length ≤ dc; rw [hnl]; exact hcD.1, hcD.2⟩
        show Ending.returned _ = Ending.returned (.agg #[uv (nrd d 0 4), uv (nrd d 4 4), .slice Gv gs.length gv, .slice D (nums 4 (d.drop (12 + 4 * j))).length dc])
        rw [hpl, hnl]
        rfl
end Go.Proofs.YtabljmiiekpgiaaGreatDoor






namespace Go.Proofs.YtabljmiiekpgiaaGreatDoor
open Go.RowKit

set_option linter.unusedSimpArgs false
def zck14 : Ck := ⟨0, 0, [], []⟩
theorem zck14_fine : CkFine zck14 := ⟨by simp [zck14], by simp [zck14], by intro q hq; cases hq⟩
theorem zck14_lies (w : World) (B : Nat) : Chunk w B none 0 none 0 zck14 := ⟨Lies.nil, Nat.le_refl _, Nat.zero_le _, Nodes.nil _ _ _, Nat.le_refl _, Nat.zero_le _⟩
theorem zck14_no : isS zck14 = false := isS_no (.inl (by decide))
theorem skC_fine {s : Sk} (h : okS s = true) : CkFine (skC s) := by
  have hl := skB_len s
  unfold okS at h
  rw [decide_eq_true_eq] at h
  refine ⟨?_, by simp [skC], by simp [skC]⟩
  show (skB s).length ≤ _
  rw [hl]
  omega
/-- the chunk of a description, made -/
theorem mkS_ck {s : Sk} {w w' : World} {e : Ending} (hs : okS s = true) (h : MkS s w e w') : Below w.heap.size w w' ∧ ∃ A' c', e = .returned (.tuple #[ckV (skC s) A' c' none 0, .bool true]) ∧ Chunk w' w'.heap.size A' c' none 0 (skC s) := by
  obtain ⟨hb, ⟨_, A', c', rfl, ho⟩ | ⟨hn, _⟩⟩ := h
  · have hc := own_cap ho
    exact ⟨hb, A', c', rfl, Lies.own ho, hc.2.1, hc.2.2, Nodes.nil _ _ _, by simp [skC], by decide⟩
  · rw [hs] at hn; exact absurd hn (by simp)
theorem ofS_ck {s : Sk} {w w' : World} {e : Ending} (hs : okS s = true) (h : OfS (skC s) w e w') : Below w.heap.size w w' ∧ ∃ G gc D dc, e = .returned (.tuple #[skV s G gc D dc, .bool true]) ∧ SkL w' w'.heap.size G gc D dc s := by
  unfold OfS ofS at h
  rw [skC_is hs, if_pos rfl, skOf_skC hs] at h
  exact h
theorem ofS_zero {x : Ck} {w w' : World} {e : Ending} (hx : isS x = false) (h : OfS x w e w') : Below w.heap.size w w' ∧ ∃ G gc D dc, e = .returned (.tuple #[.agg #[.int .u32 0, .int .u32 0, .slice G 0 gc, .slice D 0 dc], .bool false]) ∧ SkL w' w'.heap.size G gc D dc ⟨0, 0, [], []⟩ := by
  unfold OfS ofS at h
  rw [hx, if_neg (by simp)] at h
  exact h
theorem awS_bld (A : Option Addr) (c : Nat) (w : World) (h : Lies w w.heap.size A ([11, 13, 14, 11].map uv)) : Calls Tryz.prog 29 #[.int .u32 10, .int .u32 0, .slice A 4 c] w fun e w' => ∃ G gc D dc, e = .returned (.agg #[.int .u32 11, .int .u32 0, .slice G 1 gc, .slice D 1 dc]) ∧ SkL w' w'.heap.size G gc D dc awS ∧ Below w.heap.size w w' := by
  have h2 := build_any 10 0 [11, 13, 14, 11] (by decide) A c w h
  rw [bld_awake] at h2
  exact h2
theorem awS_mk (G : Option Addr) (gc : Nat) (D : Option Addr) (dc : Nat) (w : World) (h : SkL w w.heap.size G gc D dc awS) : Calls Tryz.prog 15 #[(.agg #[.int .u32 11, .int .u32 0, .slice G 1 gc, .slice D 1 dc])] w fun e w' => Below w.heap.size w w' ∧ ∃ A' c', e = .returned (.tuple #[(.agg #[.int .u8 3, .int .u8 0, .slice A' 20 c', .slice none 0 0]), .bool true]) ∧ Chunk w' w'.heap.size A' c' none 0 (skC awS) :=
  Calls.mono (R := MkS awS w) (smake_any awS G gc D dc w h (by decide) (by decide)) fun _ _ h => mkS_ck awS_ok h
theorem awS_of (A : Option Addr) (c : Nat) (w : World) (h : Chunk w w.heap.size A c none 0 (skC awS)) (hh : Handle w) : Calls Tryz.prog 17 #[(.agg #[.int .u8 3, .int .u8 0, .slice A 20 c, .slice none 0 0])] w fun e w' => Below w.heap.size w w' ∧ ∃ G gc D dc, e = .returned (.tuple #[(.agg #[.int .u32 11, .int .u32 0, .slice G 1 gc, .slice D 1 dc]), .bool true]) ∧ SkL w' w'.heap.size G gc D dc awS :=
  Calls.mono (R := OfS (skC awS) w) (sof_any (skC awS) (skC_fine awS_ok) A c none 0 w h hh) fun _ _ h => ofS_ck awS_ok h
theorem awS_ofz (w : World) (hh : Handle w) : Calls Tryz.prog 17 #[.agg #[.int .u8 0, .int .u8 0, .slice none 0 0, .slice none 0 0]] w fun e w' => Below w.heap.size w w' ∧ ∃ G gc D dc, e = .returned (.tuple #[.agg #[.int .u32 0, .int .u32 0, .slice G 0 gc, .slice D 0 dc], .bool false]) ∧ SkL w' w'.heap.size G gc D dc ⟨0, 0, [], []⟩ :=
  Calls.mono (R := OfS zck14 w) (sof_any zck14 zck14_fine none 0 none 0 w (zck14_lies w _) hh) fun _ _ h => ofS_zero zck14_no h
theorem awS_same (G : Option Addr) (gc : Nat) (D : Option Addr) (dc : Nat) (G' : Option Addr) (gc' : Nat) (D' : Option Addr) (dc' : Nat) (w : World) (h : SkL w w.heap.size G gc D dc awS) (h' : SkL w w.heap.size G' gc' D' dc' awS) :
    Calls Tryz.prog 22 #[(.agg #[.int .u32 11, .int .u32 0, .slice G 1 gc, .slice D 1 dc]), (.agg #[.int .u32 11, .int .u32 0, .slice G' 1 gc', .slice D' 1 dc'])] w fun e w' => e = .returned (.bool true) ∧ Below w.heap.size w w' := ssame_self awS G gc D dc G' gc' D' dc' w h h'
theorem awS_cov (G : Option Addr) (gc : Nat) (D : Option Addr) (dc : Nat) (w : World) (h : SkL w w.heap.size G gc D dc awS) :
    Calls Tryz.prog 27 #[(.agg #[.int .u32 11, .int .u32 0, .slice G 1 gc, .slice D 1 dc]), .int .u32 13] w (fun e w' => e = .returned (.bool true) ∧ Below w.heap.size w w') ∧ Calls Tryz.prog 27 #[(.agg #[.int .u32 11, .int .u32 0, .slice G 1 gc, .slice D 1 dc]), .int .u32 12] w (fun e w' => e = .returned (.bool false) ∧ Below w.heap.size w w') ∧ Calls Tryz.prog 27 #[(.agg #[.int .u32 11, .int .u32 0, .slice G 1 gc, .slice D 1 dc]), .int .u32 9] w (fun e w' => e = .returned (.bool true) ∧ Below w.heap.size w w') := by
  have h1 := covers_any awS 13 G gc D dc w h
  have h2 := covers_any awS 12 G gc D dc w h
  have h3 := covers_any awS 9 G gc D dc w h
  rw [awS_13] at h1
  rw [awS_12] at h2
  rw [awS_9] at h3
  exact ⟨h1, h2, h3⟩
set_option maxRecDepth 100000 in
set_option maxHeartbeats 8000000 in
theorem awake14_any (w : World) (hh : Handle w) : Calls Tryz.prog 13 #[] w fun e w' => e = .returned (.bool true) ∧ Below w.heap.size w w' := by
  have bA : Below w.heap.size w (w.alloc (.cells #[.int .u32 11, .int .u32 13, .int .u32 14, .int .u32 11] 22)) := (Below.refl _ w).alloc (Nat.le_refl _) _
  have hB := awS_bld (some ⟨w.heap.size, 0, none⟩) 4 _ ((Lies.newN w ([11, 13, 14, 11].map uv) 22).more (by simp))
  have HH := Lib.hid (fun (V : World) (hb : Below w.heap.size w V) => hh.below hb hh.lt)
  have hsA : w.heap.size ≤ (w.alloc (.cells #[.int .u32 11, .int .u32 13, .int .u32 14, .int .u32 11] 22)).heap.size := by simp
  clear hh
  go_enter Tryz.func13, Tryz.ntmps13
  go_wp2_with fail
  refine hB.mono ?_
  rintro e w1 ⟨G, gc, D, dc, rfl, hS1, b1⟩
  have B1 := bA.trans (b1.mono hsA)
  clear hB bA b1 hsA
  go_upto_region 2 with fail
  have v2 : Below w1.heap.size w1 (w1.alloc (.cells #[.int .u32 11, .int .u32 0, .slice G 1 gc, .slice D 1 dc] 38)) := (Below.refl _ _).alloc (Nat.le_refl _) _
  have x2 := Whole.new w1 38 #[.int .u32 11, .int .u32 0, .slice G 1 gc, .slice D 1 dc]
  have hS2 := hS1.on v2
  have B2 := B1.trans (v2.mono B1.size)
  generalize w1.alloc (.cells #[.int .u32 11, .int .u32 0, .slice G 1 gc, .slice D 1 dc] 38) = w2 at *
  generalize w1.heap.size = g1 at *
  clear hS1 B1 v2
  obtain ⟨q0, q1, q2, q3⟩ := wh4 x2
  go_upto_region 4 with fail
  go_wp2_with fail
  refine (awS_mk G gc D dc w2 hS2).mono ?_
  rintro e w3 ⟨b3, A3, c3, rfl, hC3⟩
  have x3 := x2.below b3 x2.lt
  have hS3 := hS2.on b3
  have B3 := B2.trans (b3.mono B2.size)
  clear q0 q1 q2 q3 x2 hS2 B2 b3
  obtain ⟨q0, q1, q2, q3⟩ := wh4 x3
  go_upto_region 5 with fail
  have v4 : Below w3.heap.size w3 (w3.alloc (.cells #[.int .u8 3, .int .u8 0, .slice A3 20 c3, .slice none 0 0] 33)) := (Below.refl _ _).alloc (Nat.le_refl _) _
  have z4 := Whole.new w3 33 #[.int .u8 3, .int .u8 0, .slice A3 20 c3, .slice none 0 0]
  have x4 := x3.below v4 x3.lt
  have hS4 := hS3.on v4
  have hC4 := hC3.on v4
  have B4 := B3.trans (v4.mono B3.size)
  generalize w3.alloc (.cells #[.int .u8 3, .int .u8 0, .slice A3 20 c3, .slice none 0 0] 33) = w4 at *
  generalize w3.heap.size = g3 at *
  clear q0 q1 q2 q3 x3 hS3 hC3 B3 v4
  obtain ⟨q0, q1, q2, q3⟩ := wh4 x4
  obtain ⟨m0, m1, m2, m3⟩ := wh4 z4
  have hO := awS_of A3 c3 w4 hC4 (HH.out _ B4)
  go_wp2_with fail
  refine hO.mono ?_
  rintro e w5 ⟨b5, G5, gc5, D5, dc5, rfl, hT5⟩
  have x5 := x4.below b5 x4.lt
  have hS5 := hS4.on b5
  have B5 := B4.trans (b5.mono B4.size)
  clear q0 q1 q2 q3 m0 m1 m2 m3 x4 z4 hS4 hC4 B4 b5 hO
  obtain ⟨q0, q1, q2, q3⟩ := wh4 x5
  go_upto_region 6 with fail
  have v6 : Below w5.heap.size w5 (w5.alloc (.cells #[.int .u32 11, .int .u32 0, .slice G5 1 gc5, .slice D5 1 dc5] 38)) := (Below.refl _ _).alloc (Nat.le_refl _) _
  have y6 := Whole.new w5 38 #[.int .u32 11, .int .u32 0, .slice G5 1 gc5, .slice D5 1 dc5]
  have x6 := x5.below v6 x5.lt
  have hS6 := hS5.on v6
  have hT6 := hT5.on v6
  have B6 := B5.trans (v6.mono B5.size)
  generalize w5.alloc (.cells #[.int .u32 11, .int .u32 0, .slice G5 1 gc5, .slice D5 1 dc5] 38) = w6 at *
  generalize w5.heap.size = g5 at *
  clear q0 q1 q2 q3 x5 hS5 hT5 B5 v6
  have hZ := awS_ofz w6 (HH.out _ B6)
  go_wp2_with fail
  refine hZ.mono ?_
  rintro e w7 ⟨b7, G7, gc7, D7, dc7, rfl, _⟩
  have x7 := x6.below b7 x6.lt
  have y7 := y6.below b7 y6.lt
  have hS7 := hS6.on b7
  have hT7 := hT6.on b7
  have B7 := B6.trans (b7.mono B6.size)
  clear x6 y6 hS6 hT6 B6 b7 hZ
  go_upto_region 7 with fail
  have v8 : Below w7.heap.size w7 (w7.alloc (.cells #[.int .u32 0, .int .u32 0, .slice G7 0 gc7, .slice D7 0 dc7] 38)) := (Below.refl _ _).alloc (Nat.le_refl _) _
  have x8 := x7.below v8 x7.lt
  have y8 := y7.below v8 y7.lt
  have hS8 := hS7.on v8
  have hT8 := hT7.on v8
  have B8 := B7.trans (v8.mono B7.size)
  generalize w7.alloc (.cells #[.int .u32 0, .int .u32 0, .slice G7 0 gc7, .slice D7 0 dc7] 38) = w8 at *
  generalize w7.heap.size = g7 at *
  clear x7 y7 hS7 hT7 B7 v8
  obtain ⟨ad, rfl, hadb, a0, a1⟩ := hS8.gl.at_ (k := 0) (g := ⟨2, 3⟩) rfl
  have e0 : ad.add (0 * 2) = ad := by simp [Addr.add]
  rw [e0] at a0 a1
  have a0' : w8.cell? ad = some (.int .u16 2) := a0
  have a1' : w8.cell? ⟨ad.block, ad.off + 1, none⟩ = some (.int .u16 3) := a1
  obtain ⟨bd, rfl, hbdb, d0⟩ := hS8.dl (by simp [awS])
  have d0' : w8.cell? bd = some (.int .u32 11) := by
    have h9 : w8.cell? (bd.add 0) = some (.int .u32 11) := d0 0 (uv 11) rfl
    simpa [Addr.add] using h9
  have KS : Hid (∀ V, Below w8.heap.size w8 V → Whole V g1 38 #[.int .u32 11, .int .u32 0, .slice (some ad) 1 gc, .slice (some bd) 1 dc] ∧ SkL V V.heap.size (some ad) gc (some bd) dc awS) := Lib.hid (fun V hV => ⟨x8.below hV x8.lt, hS8.on hV⟩)
  clear a0 a1 d0 e0
  obtain ⟨q0, q1, q2, q3⟩ := wh4 x8
  obtain ⟨m0, m1, m2, m3⟩ := wh4 y8
  have hE := awS_same G5 gc5 D5 dc5 (some ad) gc (some bd) dc w8 hT8 hS8
  go_wp2_with fail
  refine hE.mono ?_
  rintro e w9 ⟨rfl, b9⟩
  have B9 := B8.trans (b9.mono B8.size)
  obtain ⟨x9, hS9⟩ := KS.out _ b9
  clear q0 q1 q2 q3 m0 m1 m2 m3 a0' a1' d0' hE y8 hT8 x8 hS8
  obtain ⟨q0, q1, q2, q3⟩ := wh4 x9
  obtain ⟨hc1, _, _⟩ := awS_cov (some ad) gc (some bd) dc w9 hS9
  go_wp2_with fail
  refine hc1.mono ?_
  rintro e wA ⟨rfl, bA⟩
  have bA8 := b9.trans (bA.mono b9.size)
  have BA := B9.trans (bA.mono B9.size)
  obtain ⟨xA, hSA⟩ := KS.out _ bA8
  clear q0 q1 q2 q3 hc1 x9 hS9 b9 bA
  obtain ⟨q0, q1, q2, q3⟩ := wh4 xA
  obtain ⟨_, hc2, _⟩ := awS_cov (some ad) gc (some bd) dc wA hSA
  go_wp2_with fail
  refine hc2.mono ?_
  rintro e wB ⟨rfl, bB⟩
  have bB8 := bA8.trans (bB.mono bA8.size)
  have BB := BA.trans (bB.mono BA.size)
  obtain ⟨xB, hSB⟩ := KS.out _ bB8
  clear q0 q1 q2 q3 hc2 xA hSA bA8 bB
  obtain ⟨q0, q1, q2, q3⟩ := wh4 xB
  obtain ⟨_, _, hc3⟩ := awS_cov (some ad) gc (some bd) dc wB hSB
  go_wp2_with fail
  refine hc3.mono ?_
  rintro e wC ⟨rfl, bC⟩
  go_wp2_with fail
  go_ret
  exact ⟨rfl, BB.trans (bC.mono BB.size)⟩
end Go.Proofs.YtabljmiiekpgiaaGreatDoor





namespace Go.Proofs.YtabljmiiekpgiaaGreatDoor
open Go.ChangeShapes Go.WideShapes Go.ChangeAt Go.RowKit

theorem gflat_of {cs : List Value} {gs : List Gp} (hl : cs.length = gs.length * 2) (h : ∀ i g, gs[i]? = some g → (cs.drop (i * 2)).take 2 = [hv g.f, hv g.t]) : cs = gpFlat gs := by
  refine List.ext_getElem? fun j => ?_
  by_cases hj : j < cs.length
  · obtain ⟨g, hg⟩ : ∃ g, gs[j / 2]? = some g := ⟨_, List.getElem?_eq_getElem (by omega)⟩
    obtain ⟨e1, e2⟩ := gpFlat_at hg
    have h1 := h _ g hg
    have h0 : ∀ i, i < 2 → cs[j / 2 * 2 + i]? = [hv g.f, hv g.t][i]? := fun i hi => by
      rw [← h1, List.getElem?_take, if_pos hi, List.getElem?_drop]
    rcases Nat.mod_two_eq_zero_or_one j with hm | hm
    · have e : j / 2 * 2 = j := by omega
      have := h0 0 (by omega)
      rw [Nat.add_zero, e] at this
      rw [e] at e1
      rw [this, e1]
      rfl
    · have e : j / 2 * 2 + 1 = j := by omega
      have := h0 1 (by omega)
      rw [e] at this
      rw [e] at e2
      rw [this, e2]
      rfl
  · rw [List.getElem?_eq_none (by omega), List.getElem?_eq_none (by rw [gpFlat_len]; omega)]
section
variable {H : Type} {enc : TypeId × Value → H} {w : World} {fuel : Nat} {x : DataW H × List MemPlace}
set_option maxRecDepth 100000 in
/-- two cells that are a gap -/
theorem gap_of_trod {u : List Value} (hf : DataW.trod enc Tryz.prog w 0 (fun _ => true) true fuel 89 u = some x) (hl : u.length = 2) : ∃ g : Gp, u = [hv g.f, hv g.t] := by
  match u, hl with
  | [u0, u1], _ =>
    obtain ⟨xs, n, hn, rfl, hl, hlen, hf⟩ := DataW.trod_struct Tryz.underlying89 hf
    match xs, hlen with
    | [y0, y1], _ =>
      have e : Tryz.prog.cellsOf 27 = 1 := by kernel_rfl
      have f0 : DataW.trod enc Tryz.prog w 0 (fun _ => true) true n 27 [u0] = some y0 := by
        have h8 : DataW.trod enc Tryz.prog w 0 (fun _ => true) true n 27 (([u0, u1].drop 0).take (Tryz.prog.cellsOf 27)) = some y0 := hf 0 _ rfl
        rw [e] at h8
        exact h8
      have f1 : DataW.trod enc Tryz.prog w 0 (fun _ => true) true n 27 [u1] = some y1 := by
        have h8 : DataW.trod enc Tryz.prog w 0 (fun _ => true) true n 27 (([u0, u1].drop 1).take (Tryz.prog.cellsOf 27)) = some y1 := hf 1 _ rfl
        rw [e] at h8
        exact h8
      obtain ⟨z0, g0, _, wz0⟩ := DataW.trod_int Tryz.underlying27 f0
      obtain rfl := (List.cons.inj g0).1
      obtain ⟨z1, g1, _, wz1⟩ := DataW.trod_int Tryz.underlying27 f1
      obtain rfl := (List.cons.inj g1).1
      exact ⟨⟨u16of z0.toNat, u16of z1.toNat⟩, by rw [← hv_of' (wf_u16 wz0), ← hv_of' (wf_u16 wz1)]⟩
end
section
variable {H : Type} {enc : TypeId × Value → H} {w : World} {base : Nat} {v : Value} {d : DataW H} {p : List MemPlace}
set_option maxRecDepth 100000 in
set_option maxHeartbeats 1000000 in
/-- an argument that is a description -/
theorem open_sack (o : Value.okWide Tryz.prog w .any base 26 v) (h : DataW.Trod enc Tryz.prog w 0 (fun _ => true) true 26 v d p) (s : Small Tryz.prog 26 d) :
    ∃ (q : Sk) (G : Option Addr) (gc : Nat) (D : Option Addr) (dc : Nat), v = skV q G gc D dc ∧ SkL w w.heap.size G gc D dc q := by
  obtain ⟨cs, rfl, hsz⟩ := okWide_struct Tryz.underlying26 o
  obtain ⟨fuel, hf⟩ := h
  have c4 : Tryz.prog.cellsOf 26 = 4 := by kernel_rfl
  rw [c4] at hsz
  have hf' : DataW.trod enc Tryz.prog w 0 (fun _ => true) true fuel 26 cs.toList = some (d, p) := hf
  have hl4 : cs.toList.length = 4 := by simpa using hsz
  obtain ⟨u, hu⟩ : ∃ u, cs.toList = u := ⟨_, rfl⟩
  rw [hu] at hf' hl4
  match u, hl4 with
  | [u0, u1, u2, u3], _ =>
    obtain ⟨y0, y1, y2, y3, n', hyx, _, f0, f1, f2, f3⟩ := trod_struct4 Tryz.underlying26 hf'
    have e0 : Tryz.prog.cellsOf 22 = 1 := by kernel_rfl
    have e1 : Tryz.prog.cellsOf 23 = 1 := by kernel_rfl
    have e2 : Tryz.prog.cellsOf 24 = 1 := by kernel_rfl
    have f0' : DataW.trod enc Tryz.prog w 0 (fun _ => true) true n' 22 (([u0, u1, u2, u3].drop 0).take (Tryz.prog.cellsOf 22)) = some y0 := f0
    have f1' : DataW.trod enc Tryz.prog w 0 (fun _ => true) true n' 22 (([u0, u1, u2, u3].drop 1).take (Tryz.prog.cellsOf 22)) = some y1 := f1
    have f2' : DataW.trod enc Tryz.prog w 0 (fun _ => true) true n' 23 (([u0, u1, u2, u3].drop 2).take (Tryz.prog.cellsOf 23)) = some y2 := f2
    have f3' : DataW.trod enc Tryz.prog w 0 (fun _ => true) true n' 24 (([u0, u1, u2, u3].drop 3).take (Tryz.prog.cellsOf 24)) = some y3 := f3
    rw [e0] at f0' f1'
    rw [e1] at f2'
    rw [e2] at f3'
    have f2'' : DataW.trod enc Tryz.prog w 0 (fun _ => true) true n' 23 [u2] = some y2 := f2'
    have f3'' : DataW.trod enc Tryz.prog w 0 (fun _ => true) true n' 24 [u3] = some y3 := f3'
    obtain ⟨z0, g0, _, wz0⟩ := DataW.trod_int Tryz.underlying22 f0'
    obtain ⟨z1, g1, _, wz1⟩ := DataW.trod_int Tryz.underlying22 f1'
    have g0' : u0 = .int .u32 z0 := (List.cons.inj g0).1
    have g1' : u1 = .int .u32 z1 := (List.cons.inj g1).1
    obtain ⟨A', l', c', hv'⟩ := slice_of_trod Tryz.underlying23 f2''
    obtain ⟨K', m', k', hz'⟩ := slice_of_trod Tryz.underlying24 f3''
    rw [hv'] at f2''
    rw [hz'] at f3''
    obtain ⟨ds, rfl, r1, r2, r3⟩ := open_words Tryz.underlying24 Tryz.underlying22 (by kernel_rfl) f3''
    have hw : ∀ m, m ∈ DataW.weightsEach Tryz.prog [22, 22, 23, 24] [y0.1, y1.1, y2.1, y3.1] → m ≤ reachBytes := fun m hm => by
      have e := congrArg Prod.fst hyx
      refine s m ?_
      have e' : d = .agg [y0.1, y1.1, y2.1, y3.1] := e
      rw [e']
      simp only [DataW.weights, Tryz.underlying26]
      exact hm
    have hs2 : Small Tryz.prog 23 y2.1 := fun m hm => hw m (by
      simp only [DataW.weightsEach, List.mem_append]
      exact .inr (.inr (.inl hm)))
    have c2 : Tryz.prog.cellsOf 89 = 2 := by kernel_rfl
    obtain ⟨cg, _, hcl, hcL, h1, h2, _, h3⟩ := open_cells Tryz.underlying23 c2 (by omega) f2'' hs2
    have h6 : ∀ i, i < l' → ∃ g : Gp, (cg.drop (i * 2)).take 2 = [hv g.f, hv g.t] := fun i hi => by
      obtain ⟨y, hy, _⟩ := h3 i hi
      exact gap_of_trod hy (by rw [List.length_take, List.length_drop]; omega)
    obtain ⟨gs, p1, p2⟩ := build_list l' h6
    subst p1
    have e := gflat_of hcl fun i g hg => p2 i g hg
    refine ⟨⟨UInt32.ofNat z0.toNat, UInt32.ofNat z1.toNat, gs, ds⟩, A', c', K', k', ?_, ⟨e ▸ hcL, h1, h2⟩, r1, r2, r3⟩
    show Value.agg cs = .agg _
    congr 1
    refine Array.ext' ?_
    rw [hu, g0', g1', hv', hz', uv_of13 (wf_u32 wz0), uv_of13 (wf_u32 wz1)]
end
end Go.Proofs.YtabljmiiekpgiaaGreatDoor








namespace Go.Proofs.YtabljmiiekpgiaaGreatDoor
open Go.ChangeShapes Go.WideShapes Go.ChangeAt Go.RowKit

set_option linter.unusedSimpArgs false
def fewS (s : Sk) : Bool := decide (s.gs.length ≤ 100) && decide (s.ds.length ≤ 100)
theorem fewS_le {s : Sk} (h : fewS s = true) : s.gs.length ≤ 100 ∧ s.ds.length ≤ 100 := by
  unfold fewS at h
  simp only [Bool.and_eq_true, decide_eq_true_eq] at h
  exact h
set_option maxHeartbeats 4000000 in
theorem few14_any (s : Sk) (G : Option Addr) (gc : Nat) (D : Option Addr) (dc : Nat) (w : World) :
    Calls Tryz.prog 14 #[skV s G gc D dc] w fun e w' => e = .returned (.bool (fewS s)) ∧ Below w.heap.size w w' := by
  have b0 : Below w.heap.size w (w.alloc (.cells (skCells s G gc D dc) 26)) := (Below.refl _ w).alloc (Nat.le_refl _) _
  have x0 := Whole.new w 26 (skCells s G gc D dc)
  have HR : Hid (fewS s = (decide (s.gs.length ≤ 100) && decide (s.ds.length ≤ 100))) := Lib.hid rfl
  have HB := Lib.hid b0
  clear b0
  generalize fewS s = r at *
  obtain ⟨cum, win, gs, ds⟩ := s
  simp only [skV, skCells] at *
  obtain ⟨q0, q1, q2, q3⟩ := wh4 x0
  by_cases h1 : gs.length ≤ 100
  · have h1' : (gs.length : Int) ≤ 100 := by omega
    by_cases h2 : ds.length ≤ 100
    · have h2' : (ds.length : Int) ≤ 100 := by omega
      have e : r = true := by rw [HR.out, decide_eq_true h1, decide_eq_true h2]; rfl
      subst e
      clear HR h1 h2
      go_enter Tryz.func14, Tryz.ntmps14
      go_wp2_with fail
      go_ret
      exact ⟨rfl, HB.out⟩
    · have h2' : ¬ (ds.length : Int) ≤ 100 := by omega
      have e : r = false := by rw [HR.out, decide_eq_true h1, decide_eq_false h2]; rfl
      subst e
      clear HR h1 h2
      go_enter Tryz.func14, Tryz.ntmps14
      go_wp2_with fail
      go_ret
      exact ⟨rfl, HB.out⟩
  · have h1' : ¬ (gs.length : Int) ≤ 100 := by omega
    have e : r = false := by rw [HR.out, decide_eq_false h1]; rfl
    subst e
    clear HR h1
    go_enter Tryz.func14, Tryz.ntmps14
    go_wp2_with fail
    go_ret
    exact ⟨rfl, HB.out⟩
set_option maxRecDepth 100000 in
set_option maxHeartbeats 16000000 in
theorem sco_law (s : Sk) (x : UInt32) (G : Option Addr) (gc : Nat) (D : Option Addr) (dc : Nat) (w : World) (h : SkL w w.heap.size G gc D dc s) (hh : Handle w) :
    Calls Tryz.prog 5 #[skV s G gc D dc, uv x] w fun e w' => e = .returned (.bool true) ∧ Below w.heap.size w w' := by
  have b0 : Below w.heap.size w (w.alloc (.cells (skCells s G gc D dc) 26)) := (Below.refl _ w).alloc (Nat.le_refl _) _
  have x0 := Whole.new w 26 (skCells s G gc D dc)
  have hx0 := h.on b0
  have H0 := hh.below b0 hh.lt
  have HH := Lib.hid hh
  clear h hh
  go_enter Tryz.func5, Tryz.ntmps5
  go_wp2_with fail
  generalize w.alloc (.cells (skCells s G gc D dc) 26) = w0 at *
  refine (awake14_any w0 H0).mono ?_
  rintro e w1 ⟨rfl, b1⟩
  have B1 := b0.trans (b1.mono b0.size)
  have x1 := x0.below b1 x0.lt
  have hx1 := hx0.on b1
  have hF1 := few14_any s G gc D dc w1
  obtain ⟨q0, q1, q2, q3⟩ := wh4 x1
  cases hf : fewS s with
  | false =>
    rw [hf] at hF1
    clear hf
    go_wp2_with fail
    refine hF1.mono ?_
    rintro e w2 ⟨rfl, b2⟩
    have B2 := B1.trans (b2.mono B1.size)
    go_wp2_with fail
    refine (awake14_any w2 (HH.out.below B2 HH.out.lt)).mono ?_
    rintro e w3 ⟨rfl, b3⟩
    go_wp2_with fail
    go_ret
    exact ⟨rfl, B2.trans (b3.mono B2.size)⟩
  | true =>
    obtain ⟨hgl, hdl⟩ := fewS_le hf
    rw [hf] at hF1
    clear hf
    go_wp2_with fail
    refine hF1.mono ?_
    rintro e w2 ⟨rfl, b2⟩
    have B2 := B1.trans (b2.mono B1.size)
    have x2 := x1.below b2 x1.lt
    have hx2 := hx1.on b2
    clear q0 q1 q2 q3 hF1 x0 x1 hx0 hx1 H0 b0 b1 b2 B1
    obtain ⟨q0, q1, q2, q3⟩ := wh4 x2
    have HG : Hid (∀ V, Below w2.heap.size w2 V → Calls Tryz.prog 16 #[skV s G gc D dc] V fun e w' => Below V.heap.size V w' ∧ ∃ G' gc' D' dc', e = .returned (skV s G' gc' D' dc') ∧ SkL w' w'.heap.size G' gc' D' dc' s) := Lib.hid (fun V hV => given14_any s G gc D dc V (hx2.on hV) (by omega) (by omega))
    have HC : Hid (∀ G' gc' D' dc' V, SkL V V.heap.size G' gc' D' dc' s → Calls Tryz.prog 27 #[skV s G' gc' D' dc', uv x] V fun e w' => e = .returned (.bool (covB s x)) ∧ Below V.heap.size V w') := Lib.hid (fun G' gc' D' dc' V hV => covers_any s x G' gc' D' dc' V hV)
    have HRc : Hid (∀ V, Below w2.heap.size w2 V → Calls Tryz.prog 28 #[skV s G gc D dc, uv x] V fun e w' => e = .returned (.bool (covB s x)) ∧ Below V.heap.size V w') := Lib.hid (fun V hV => rcov14_any s x G gc D dc V (hx2.on hV))
    have HB2 := Lib.hid B2
    have KS : Hid (∀ V, Below w2.heap.size w2 V → V.cell? ⟨w.heap.size, 0, none⟩ = some (uv s.cum) ∧ V.cell? ⟨w.heap.size, 1, none⟩ = some (uv s.win) ∧ V.cell? ⟨w.heap.size, 2, none⟩ = some (.slice G s.gs.length gc) ∧ V.cell? ⟨w.heap.size, 3, none⟩ = some (.slice D s.ds.length dc)) := Lib.hid (fun V hV => wh4 (x2.below hV x2.lt))
    clear B2 hx2 x2 q0 q1 q2 q3 hgl hdl
    generalize hcv : covB s x = r at *
    clear hcv
    have hbb : (r == r) = true := by cases r <;> rfl
    go_upto_region 3 with fail
    refine wp_region_held_drew (S := (fun V => V.cell? ⟨w.heap.size, 0, none⟩ = some (uv s.cum) ∧ V.cell? ⟨w.heap.size, 1, none⟩ = some (uv s.win) ∧ V.cell? ⟨w.heap.size, 2, none⟩ = some (.slice G s.gs.length gc) ∧ V.cell? ⟨w.heap.size, 3, none⟩ = some (.slice D s.ds.length dc))) (by kernel_rfl) (KS.out _ (below_drew (Below.refl _ _))) (fun hHeld => ?_)
    refine take_at (i := 0) (v := ?_) (some 13) rfl (by kernel_rfl) (by kernel_rfl) (by kernel_rfl) (fun _ _ _ h => h) (by kernel_rfl) (Or.inl ⟨by kernel_rfl, ?_⟩) (by assumption) ?_
    rotate_left
    · (intro w hSw; (try dsimp only at hSw); go_simp <;> with_reducible rfl)
    simp only [Act.put, List.setIfInBounds_toArray, List.set_cons_zero, List.set_cons_succ]
    refine take_at (i := 2) (v := ?_) (some 15) rfl (by kernel_rfl) (by kernel_rfl) (by kernel_rfl) (fun _ _ _ h => h) (by kernel_rfl) (Or.inl ⟨by kernel_rfl, ?_⟩) (by assumption) ?_
    rotate_left
    · (intro w hSw; (try dsimp only at hSw); go_simp <;> with_reducible rfl)
    simp only [Act.put, List.setIfInBounds_toArray, List.set_cons_zero, List.set_cons_succ]
    refine take_at (i := 4) (v := ?_) (some 17) rfl (by kernel_rfl) (by kernel_rfl) (by kernel_rfl) (fun _ _ _ h => h) (by kernel_rfl) (Or.inl ⟨by kernel_rfl, ?_⟩) (by assumption) ?_
    rotate_left
    · (intro w hSw; (try dsimp only at hSw); go_simp <;> with_reducible rfl)
    simp only [Act.put, List.setIfInBounds_toArray, List.set_cons_zero, List.set_cons_succ]
    refine take_at (i := 5) (v := ?_) (some 18) rfl (by kernel_rfl) (by kernel_rfl) (by kernel_rfl) (fun _ _ _ h => h) (by kernel_rfl) (Or.inl ⟨by kernel_rfl, ?_⟩) (by assumption) ?_
    rotate_left
    · (intro w hSw; (try dsimp only at hSw); go_simp <;> with_reducible rfl)
    simp only [Act.put, List.setIfInBounds_toArray, List.set_cons_zero, List.set_cons_succ]
    refine wpAnyH_ready (rs := [1]) (by kernel_rfl) (by simp) ?_
    refine AllReadyH.cons rfl (fun K hK => ?_) AllReadyH.nil
    go_simp
    go_at_call 16; (with_reducible refine (HG.out w2.drew (below_drew (Below.refl _ _))).mono ?_); rintro e v1 ⟨b1, G', gc', D', dc', rfl, hS⟩
    go_wp2_with fail
    have R1 : Below w2.heap.size w2 v1 := below_undrew13 b1
    clear hHeld
    refine hK.out _ _ (KS.out _ R1) (fun hHeld => ?_)
    clear hK K
    try simp only [Act.put, List.setIfInBounds_toArray, List.set_cons_zero, List.set_cons_succ]
    refine wpAnyH_ready (rs := [3]) (by kernel_rfl) (by simp) ?_
    refine AllReadyH.cons rfl (fun K hK => ?_) AllReadyH.nil
    go_simp
    go_at_call 27; (with_reducible refine (HC.out G' gc' D' dc' v1 hS).mono ?_); rintro e v3 ⟨rfl, b3⟩
    go_wp2_with fail
    have R3 : Below w2.heap.size w2 v3 := R1.trans (b3.mono R1.size)
    clear hHeld
    refine hK.out _ _ (KS.out _ R3) (fun hHeld => ?_)
    clear hK K
    try simp only [Act.put, List.setIfInBounds_toArray, List.set_cons_zero, List.set_cons_succ]
    refine wpAnyH_ready (rs := [6]) (by kernel_rfl) (by simp) ?_
    refine AllReadyH.cons rfl (fun K hK => ?_) AllReadyH.nil
    go_simp
    go_at_call 28; (with_reducible refine (HRc.out v3 R3).mono ?_); rintro e v6 ⟨rfl, b6⟩
    go_wp2_with fail
    have R6 : Below w2.heap.size w2 v6 := R3.trans (b6.mono R3.size)
    clear hHeld
    refine hK.out _ _ (KS.out _ R6) (fun hHeld => ?_)
    clear hK K
    try simp only [Act.put, List.setIfInBounds_toArray, List.set_cons_zero, List.set_cons_succ]
    refine take_at (i := 7) (v := ?_) (some 20) rfl (by kernel_rfl) (by kernel_rfl) (by kernel_rfl) (fun _ _ _ h => h) (by kernel_rfl) (Or.inl ⟨by kernel_rfl, ?_⟩) (by assumption) ?_
    rotate_left
    · (intro w hSw; (try dsimp only at hSw); go_simp <;> with_reducible rfl)
    simp only [Act.put, List.setIfInBounds_toArray, List.set_cons_zero, List.set_cons_succ]
    refine take_at (i := 8) (v := ?_) (some 4) rfl (by kernel_rfl) (by kernel_rfl) (by kernel_rfl) (fun _ _ _ h => h) (by kernel_rfl) (Or.inl ⟨by kernel_rfl, ?_⟩) (by assumption) ?_
    rotate_left
    · (intro w hSw; (try dsimp only at hSw); go_simp <;> with_reducible rfl)
    simp only [Act.put, List.setIfInBounds_toArray, List.set_cons_zero, List.set_cons_succ]
    refine wpAnyH_done (by kernel_rfl) ?_ _
    go_wp2_with fail
    go_ret
    exact ⟨rfl, HB2.out.trans (R6.mono HB2.out.size)⟩
set_option maxRecDepth 100000 in
theorem law_SackCovers {H : Type} {enc : TypeId × Value → H} {W : World} {base : Nat} {v0 v1 : Value} {d0 d1 : DataW H} {p0 p1 : List MemPlace}
    (o0 : Value.okWide Tryz.prog W .any base 26 v0) (h0 : DataW.Trod enc Tryz.prog W 0 (fun _ => true) true 26 v0 d0 p0) (s0 : Small Tryz.prog 26 d0)
    (o1 : Value.okWide Tryz.prog W .any base 22 v1) (h1 : DataW.Trod enc Tryz.prog W 0 (fun _ => true) true 22 v1 d1 p1) (_s1 : Small Tryz.prog 22 d1) (hL : laidMetH Tryz.prog laidL W) :
    Calls Tryz.prog 5 #[v0, v1] W fun e w' => e = .returned (.bool true) ∧ Below W.heap.size W w' := by
  obtain ⟨q, G, gc, D, dc, rfl, hq⟩ := open_sack o0 h0 s0
  obtain ⟨t, rfl, _, _, wt⟩ := open_int Tryz.underlying22 o1 h1
  rw [uv_of13 (wf_u32 wt)]
  exact sco_law q _ G gc D dc W hq (handle_of_laid hL)
end Go.Proofs.YtabljmiiekpgiaaGreatDoor


