/- Layer 13: Of (its regions by tools/gen_data_m.py). It writes nothing that was there. -/
import Derived.Test.YtdcppcoldaaldaaGreatDoorQDJ
import Derived.Test.YtdcppcoldaaldaaGreatDoorQNF
import Derived.Test.YtdcppcoldaaldaaGreatDoorQCL
import Derived.Test.YtdcppcoldaaldaaGreatDoorQNS
import Derived.BigGuard
import Derived.Deep.RegionHeld3
import Derived.Deep.Cut
import Derived.Laws.Tables








namespace Go.Proofs.YtdcppcoldaaldaaGreatDoor
open Go.RowKit

set_option linter.unusedSimpArgs false
/-- what Of hands back -/
def OfR (x : Ck) (w : World) (e : Ending) (w' : World) : Prop := Below w.heap.size w w' ∧ ∃ A' c', e = .returned (.tuple #[ptV (ofP x) A' c', .bool (isD x)]) ∧ PtL w' w'.heap.size A' c' (ofP x)
theorem ofR_no {x : Ck} {w w' : World} (h : isD x = false) (hb : Below w.heap.size w w') : OfR x w (.returned (.tuple #[.agg #[.bool false, .int .u32 0, .int .u16 0, .int .u32 0, .int .u32 0, .bool false, .bool false, .bool false, .bool false, .slice none 0 0], .bool false])) w' := by
  unfold OfR ofP
  rw [h, if_neg (by simp)]
  exact ⟨hb, none, 0, rfl, ⟨Lies.nil, Nat.le_refl _, Nat.zero_le _⟩⟩
theorem codeE_ne {c : Nat} (h : c ≠ 0) : codeE c = .iface 113 (.int .i64 (c : Int)) := by unfold codeE codeV; rw [if_neg h]
theorem u8_ne {a : UInt8} {n : Nat} (hn : n < 256) (h : a ≠ UInt8.ofNat n) : ((a.toNat : Int) != (n : Int)) = true := by
  rw [bne_iff_ne]
  intro e
  refine h (UInt8.toNat_inj.1 ?_)
  rw [UInt8.toNat_ofNat', Nat.mod_eq_of_lt hn]
  omega
theorem u16wrap (n : Nat) : Value.int .u16 (IntKind.u16.wrap (n : Int)) = hv (UInt16.ofNat n) := by
  rw [hv, UInt16.toNat_ofNat', IntKind.wrap_u16]
  congr 1
/-- a row stays where another block is written whole -/
theorem lies_setRow13 {W : World} {A : Option Addr} {n c g : Nat} {xs : List Value} (h : Lies W W.heap.size A xs) (hne : (Value.slice A n c).ownBlock ≠ some g) (cs : Array Value) : Lies (W.setRow g cs) W.heap.size A xs := fun hx => by
  obtain ⟨ad, rfl, h2, h3⟩ := h hx
  refine ⟨ad, rfl, h2, fun j u hu => ?_⟩
  rw [cell_setRow_other _ _ _ _ (fun e => hne (by rw [blk_add] at e; simp [Value.ownBlock, e]))]
  exact h3 j u hu
theorem OfI.drew {w0 W : World} {B0 base g c Bc gp k : Nat} {A : Option Addr} {bs : List UInt8} {cs : Array Value} (h : OfI w0 B0 base g A c bs Bc gp k cs W) : OfI w0 B0 base g A c bs Bc gp k cs W.drew :=
  ⟨⟨h.rd.whole, h.rd.own, h.rd.le, h.rd.base_le, h.rd.small⟩, h.bx, h.pt, below_drew h.low, h.gB, h.pB, h.ne⟩
theorem OfI.drewN {w0 W : World} {B0 base g c Bc gp k : Nat} {A : Option Addr} {bs : List UInt8} {cs : Array Value} (h : OfI w0 B0 base g A c bs Bc gp k cs W) (q : Nat) : OfI w0 B0 base g A c bs Bc gp k cs (W.drewN q) :=
  ⟨h.rd.drewN q, h.bx, h.pt, below_drewN h.low q, h.gB, h.pB, h.ne⟩
set_option maxRecDepth 100000 in
set_option maxHeartbeats 4000000 in
theorem of_no (x : Ck) (hf : CkFine x) (hd : isD x = false) (A : Option Addr) (c : Nat) (K : Option Addr) (k : Nat) (w : World) (h : Chunk w w.heap.size A c K k x) (hh : Handle w) :
    Calls Tryz.prog 19 #[ckV x A c K k] w (OfR x w) := by
  have b0 : Below w.heap.size w ((w.alloc (.cells (ckCells x A c K k) 31)).alloc (.cells #[.bool false, .int .u32 0, .int .u16 0, .int .u32 0, .int .u32 0, .bool false, .bool false, .bool false, .bool false, .slice none 0 0] 34)) := ((Below.refl _ w).alloc (Nat.le_refl _) _).alloc (by simp) _
  have x0 := (CkBox.new w x A c K k).below ((Below.refl _ _).alloc (Nat.le_refl _) (.cells #[.bool false, .int .u32 0, .int .u16 0, .int .u32 0, .int .u32 0, .bool false, .bool false, .bool false, .bool false, .slice none 0 0] 34))
  have y0 := Whole.new (w.alloc (.cells (ckCells x A c K k) 31)) 34 #[.bool false, .int .u32 0, .int .u16 0, .int .u32 0, .int .u32 0, .bool false, .bool false, .bool false, .bool false, .slice none 0 0]
  rw [World.size_alloc] at y0
  have hs0 : ((w.alloc (.cells (ckCells x A c K k) 31)).alloc (.cells #[.bool false, .int .u32 0, .int .u16 0, .int .u32 0, .int .u32 0, .bool false, .bool false, .bool false, .bool false, .slice none 0 0] 34)).heap.size = w.heap.size + 2 := by simp
  have HC := ccheck_any x hf A c K k _ (h.on b0) (hh.below b0 hh.lt)
  have HN := Lib.hid (fun w' (hb : Below w.heap.size w w') => ofR_no (w := w) (w' := w') hd hb)
  have HE : Hid (((x.t = 0 ∨ x.t = 64) ∧ chkC x ≠ 0) ∨ (x.t ≠ 0 ∧ x.t ≠ 64)) := by
    unfold Hid
    unfold isD at hd
    simp only [Bool.and_eq_false_iff, Bool.or_eq_false_iff, decide_eq_false_iff_not] at hd
    by_cases h0 : x.t = 0
    · rcases hd with hd | hd
      · exact absurd h0 hd.1
      · exact .inl ⟨.inl h0, hd⟩
    · by_cases h1 : x.t = 64
      · rcases hd with hd | hd
        · exact absurd h1 hd.2
        · exact .inl ⟨.inr h1, hd⟩
      · exact .inr ⟨h0, h1⟩
  obtain ⟨q0, q1, q2, q3⟩ := x0.cs
  have HB := Lib.hid b0
  have HCC := Lib.hid (fun hc : chkC x ≠ 0 => codeE_ne hc)
  clear hd h hf b0 hh
  generalize OfR x w = R at *
  generalize chkC x = cc at *
  obtain ⟨t, fl, d, ks⟩ := x
  simp only [ckV, ckCells] at *
  rcases HE.out with ⟨ht, hc⟩ | ⟨h0, h64⟩
  · rw [HCC.out hc] at HC
    clear hc HCC HE
    rcases ht with rfl | rfl
    all_goals
      go_enter Tryz.func19, Tryz.ntmps19
      go_wp2_with fail
      refine HC.mono ?_
      rintro e w2 ⟨rfl, b2⟩
      have y2 := y0.below b2 (by omega)
      have B2 := HB.out.trans (b2.mono (by omega))
      clear q0 q1 q2 q3 x0 y0 HC
      go_wp2_with (first | (refine wpList_store_row rfl 34 _ _ rfl (w.heap.size + 1) #[.bool false, .int .u32 0, .int .u16 0, .int .u32 0, .int .u32 0, .bool false, .bool false, .bool false, .bool false, .slice none 0 0] rfl rfl _ _ y2 (by kernel_rfl) rfl (by simp [Value.oneCell']) ?_) | fail)
      (try simp only [Exit.inBlock, Exit.then])
      refine bodyPost_ret (results_row_tmp rfl _ _ (w.heap.size + 1) 34 _ _ rfl (y2.setRow _) Tryz.underlying34 rfl (by kernel_rfl)) rfl ?_
      exact HN.out _ (below_setRow B2 (Nat.le_succ _) _)
  · have e0 : ((t.toNat : Int) != 0) = true := u8_ne (n := 0) (by decide) h0
    have e64 : ((t.toNat : Int) != 64) = true := u8_ne (n := 64) (by decide) h64
    clear h0 h64 HC HE HCC
    go_enter Tryz.func19, Tryz.ntmps19
    go_wp2_with (first | (refine wpList_store_row rfl 34 _ _ rfl (w.heap.size + 1) #[.bool false, .int .u32 0, .int .u16 0, .int .u32 0, .int .u32 0, .bool false, .bool false, .bool false, .bool false, .slice none 0 0] rfl rfl _ _ y0 (by kernel_rfl) rfl (by simp [Value.oneCell']) ?_) | fail)
    (try simp only [Exit.inBlock, Exit.then])
    refine bodyPost_ret (results_row_tmp rfl _ _ (w.heap.size + 1) 34 _ _ rfl (y0.setRow _) Tryz.underlying34 rfl (by kernel_rfl)) rfl ?_
    exact HN.out _ (below_setRow HB.out (Nat.le_succ _) _)

set_option maxRecDepth 100000 in
set_option maxHeartbeats 8000000 in
theorem of_data (fl : UInt8) (d : List UInt8) (hd : isD ⟨0, fl, d, []⟩ = true) (A : Option Addr) (c : Nat) (KA : Option Addr) (kk : Nat) (w : World) (h : Chunk w w.heap.size A c KA kk ⟨0, fl, d, []⟩) (hh : Handle w) :
    Calls Tryz.prog 19 #[ckV ⟨0, fl, d, []⟩ A c KA kk] w (OfR ⟨0, fl, d, []⟩ w) := by
  have b0 : Below w.heap.size w ((w.alloc (.cells (ckCells ⟨0, fl, d, []⟩ A c KA kk) 31)).alloc (.cells #[.bool false, .int .u32 0, .int .u16 0, .int .u32 0, .int .u32 0, .bool false, .bool false, .bool false, .bool false, .slice none 0 0] 34)) := ((Below.refl _ w).alloc (Nat.le_refl _) _).alloc (by simp) _
  have x0 := (CkBox.new w ⟨0, fl, d, []⟩ A c KA kk).below ((Below.refl _ _).alloc (Nat.le_refl _) (.cells #[.bool false, .int .u32 0, .int .u16 0, .int .u32 0, .int .u32 0, .bool false, .bool false, .bool false, .bool false, .slice none 0 0] 34))
  have y0 := Whole.new (w.alloc (.cells (ckCells ⟨0, fl, d, []⟩ A c KA kk) 31)) 34 #[.bool false, .int .u32 0, .int .u16 0, .int .u32 0, .int .u32 0, .bool false, .bool false, .bool false, .bool false, .slice none 0 0]
  rw [World.size_alloc] at y0
  have hs0 : ((w.alloc (.cells (ckCells ⟨0, fl, d, []⟩ A c KA kk) 31)).alloc (.cells #[.bool false, .int .u32 0, .int .u16 0, .int .u32 0, .int .u32 0, .bool false, .bool false, .bool false, .bool false, .slice none 0 0] 34)).heap.size = w.heap.size + 2 := by simp
  have hlen := isD_len hd
  have hf : CkFine ⟨0, fl, d, []⟩ := ⟨by have := hlen.2; simp only at this ⊢; omega, by simp, by intro q hq; cases hq⟩
  have HC := ccheck_any ⟨0, fl, d, []⟩ hf A c KA kk _ (h.on b0) (hh.below b0 hh.lt)
  rw [(isD_parts hd).2] at HC
  have e0 : codeE 0 = .nilIface := rfl
  rw [e0] at HC
  have HD := Lib.hid hd
  have HL := Lib.hid hlen
  have HB := Lib.hid b0
  have hx1 := h.on b0
  have hmd := h.dm
  have hcd := h.dc
  clear hd hf e0 h hh b0 hlen
  simp only [ckV, ckCells] at *
  obtain ⟨q0, q1, q2, q3⟩ := x0.cs
  go_enter Tryz.func19, Tryz.ntmps19
  go_wp2_with fail
  refine HC.mono ?_
  rintro e w1 ⟨rfl, b2⟩
  have x1 := x0.below b2
  have y1 := y0.below b2 (by omega)
  have B1 := Lib.hid (HB.out.trans (b2.mono (by omega)))
  have hs1 : w.heap.size + 2 ≤ w1.heap.size := by have := b2.size; omega
  have hx2 := Lib.hid (hx1.on b2)
  clear q0 q1 q2 q3 x0 y0 HC hx1 HB b2 hs0
  have KS : Hid (∀ W, Below w1.heap.size w1 W → W.cell? ⟨w.heap.size, 0, none⟩ = some (bv 0) ∧ W.cell? ⟨w.heap.size, 1, none⟩ = some (bv fl)) := fun W hW => ⟨(x1.below hW).c0, (x1.below hW).c1⟩
  have HH1 : Hid (∀ W : World, W.cell? ⟨w.heap.size, 1, none⟩ = some (bv fl) → Calls Tryz.prog 67 #[.int .u8 1, .pointer (some ⟨w.heap.size, 0, none⟩)] W fun e w' => e = .returned (.bool (decide (fl.toNat / 1 % 2 = 1))) ∧ w' = W) := fun W hW => has1_any 1 (by decide) fl w.heap.size W hW
  have HH2 : Hid (∀ W : World, W.cell? ⟨w.heap.size, 1, none⟩ = some (bv fl) → Calls Tryz.prog 67 #[.int .u8 2, .pointer (some ⟨w.heap.size, 0, none⟩)] W fun e w' => e = .returned (.bool (decide (fl.toNat / 2 % 2 = 1))) ∧ w' = W) := fun W hW => has1_any 2 (by decide) fl w.heap.size W hW
  have HH4 : Hid (∀ W : World, W.cell? ⟨w.heap.size, 1, none⟩ = some (bv fl) → Calls Tryz.prog 67 #[.int .u8 4, .pointer (some ⟨w.heap.size, 0, none⟩)] W fun e w' => e = .returned (.bool (decide (fl.toNat / 4 % 2 = 1))) ∧ w' = W) := fun W hW => has1_any 4 (by decide) fl w.heap.size W hW
  have HH8 : Hid (∀ W : World, W.cell? ⟨w.heap.size, 1, none⟩ = some (bv fl) → Calls Tryz.prog 67 #[.int .u8 8, .pointer (some ⟨w.heap.size, 0, none⟩)] W fun e w' => e = .returned (.bool (decide (fl.toNat / 8 % 2 = 1))) ∧ w' = W) := fun W hW => has1_any 8 (by decide) fl w.heap.size W hW
  go_upto_region 4 with fail
  refine cut_post (fun QQ => ∀ (u0 u4 u8 u9 u10 u11 u12 u13 u14 u15 u16 u17 u18 u19 u20 u21 u22 u23 u24 u25 u26 u27 u28 u29 u30 u31 u32 u33 u34 : Value), QQ Exit.normal { tmps := #[u0, .pointer (some ⟨w.heap.size, 0, none⟩), .pointer (some ⟨w.heap.size + 1, 0, none⟩), .bool false, u4, .pointer (some ⟨w1.heap.size, 0, none⟩), undef, undef, u8, u9, u10, u11, u12, u13, u14, u15, u16, u17, u18, u19, u20, u21, u22, u23, u24, u25, u26, u27, u28, u29, u30, u31, u32, u33, u34, undef, undef, undef, undef, undef, undef, undef, undef, undef, undef, undef, undef, undef, undef, undef, undef, undef, undef, undef, undef, undef, undef, undef, undef, undef, undef, undef, undef, undef, undef, undef], defers := [] } (((w1.alloc (.cells #[.bool false, .int .u32 0, .int .u16 0, .int .u32 0, .int .u32 0, .bool false, .bool false, .bool false, .bool false, .slice none 0 0] 34)).drew).setRow w1.heap.size #[.bool false, .int .u32 0, .int .u16 0, .int .u32 0, .int .u32 0, .bool (decide (fl.toNat / 2 % 2 = 1)), .bool (decide (fl.toNat % 2 = 1)), .bool (decide (fl.toNat / 4 % 2 = 1)), .bool (decide (fl.toNat / 8 % 2 = 1)), .slice none 0 0])) ?_ (fun hT => ?_)
  rotate_left
  · skip
    refine wp_region_held_drew (S := (fun W => W.cell? ⟨w.heap.size, 0, none⟩ = some (bv 0) ∧ W.cell? ⟨w.heap.size, 1, none⟩ = some (bv fl))) (by kernel_rfl) (KS.out _ (below_drew (Below.refl _ _))) (fun hHeld => ?_)
    refine take_at (i := 0) (v := ?_) (some 23) rfl (by kernel_rfl) (by kernel_rfl) (by kernel_rfl) (fun _ _ _ h => h) (by kernel_rfl) (Or.inl ⟨by kernel_rfl, ?_⟩) (by assumption) ?_
    rotate_left
    · (intro w hSw; (try dsimp only at hSw); go_simp <;> with_reducible rfl)
    simp only [Act.put, List.setIfInBounds_toArray, List.set_cons_zero, List.set_cons_succ]
    refine take_at (i := 1) (v := ?_) (some 24) rfl (by kernel_rfl) (by kernel_rfl) (by kernel_rfl) (fun _ _ _ h => h) (by kernel_rfl) (Or.inl ⟨by kernel_rfl, ?_⟩) (by assumption) ?_
    rotate_left
    · (intro w hSw; (try dsimp only at hSw); go_simp <;> with_reducible rfl)
    simp only [Act.put, List.setIfInBounds_toArray, List.set_cons_zero, List.set_cons_succ]
    refine take_at (i := 2) (v := ?_) (some 25) rfl (by kernel_rfl) (by kernel_rfl) (by kernel_rfl) (fun _ _ _ h => h) (by kernel_rfl) (Or.inl ⟨by kernel_rfl, ?_⟩) (by assumption) ?_
    rotate_left
    · (intro w hSw; (try dsimp only at hSw); go_simp <;> with_reducible rfl)
    simp only [Act.put, List.setIfInBounds_toArray, List.set_cons_zero, List.set_cons_succ]
    refine take_at (i := 3) (v := ?_) (some 26) rfl (by kernel_rfl) (by kernel_rfl) (by kernel_rfl) (fun _ _ _ h => h) (by kernel_rfl) (Or.inl ⟨by kernel_rfl, ?_⟩) (by assumption) ?_
    rotate_left
    · (intro w hSw; (try dsimp only at hSw); go_simp <;> with_reducible rfl)
    simp only [Act.put, List.setIfInBounds_toArray, List.set_cons_zero, List.set_cons_succ]
    refine take_at (i := 5) (v := ?_) (some 28) rfl (by kernel_rfl) (by kernel_rfl) (by kernel_rfl) (fun _ _ _ h => h) (by kernel_rfl) (Or.inl ⟨by kernel_rfl, ?_⟩) (by assumption) ?_
    rotate_left
    · (intro w hSw; (try dsimp only at hSw); go_simp <;> with_reducible rfl)
    simp only [Act.put, List.setIfInBounds_toArray, List.set_cons_zero, List.set_cons_succ]
    refine take_at (i := 7) (v := ?_) (some 30) rfl (by kernel_rfl) (by kernel_rfl) (by kernel_rfl) (fun _ _ _ h => h) (by kernel_rfl) (Or.inl ⟨by kernel_rfl, ?_⟩) (by assumption) ?_
    rotate_left
    · (intro w hSw; (try dsimp only at hSw); go_simp <;> with_reducible rfl)
    simp only [Act.put, List.setIfInBounds_toArray, List.set_cons_zero, List.set_cons_succ]
    refine take_at (i := 9) (v := ?_) (some 32) rfl (by kernel_rfl) (by kernel_rfl) (by kernel_rfl) (fun _ _ _ h => h) (by kernel_rfl) (Or.inl ⟨by kernel_rfl, ?_⟩) (by assumption) ?_
    rotate_left
    · (intro w hSw; (try dsimp only at hSw); go_simp <;> with_reducible rfl)
    simp only [Act.put, List.setIfInBounds_toArray, List.set_cons_zero, List.set_cons_succ]
    refine wpAnyH_ready (rs := [4, 12]) (by kernel_rfl) (by simp) ?_
    refine AllReadyH.cons rfl (fun K hK => ?_) (AllReadyH.cons rfl (fun K hK => ?_) AllReadyH.nil)
    · go_simp
      go_at_call 67; (with_reducible refine (HH2.out _ (KS.out _ (below_drew (Below.refl _ _))).2).mono ?_); rintro e wz ⟨rfl, rfl⟩
      go_wp2_with fail
      clear hHeld
      refine hK.out _ _ (KS.out _ (below_drew (Below.refl _ _))) (fun hHeld => ?_)
      clear hK K
      try simp only [Act.put, List.setIfInBounds_toArray, List.set_cons_zero, List.set_cons_succ]
      refine wpAnyH_ready (rs := [6, 12]) (by kernel_rfl) (by simp) ?_
      refine AllReadyH.cons rfl (fun K hK => ?_) (AllReadyH.cons rfl (fun K hK => ?_) AllReadyH.nil)
      · go_simp
        go_at_call 67; (with_reducible refine (HH1.out _ (KS.out _ (below_drew (Below.refl _ _))).2).mono ?_); rintro e wz ⟨rfl, rfl⟩
        go_wp2_with fail
        clear hHeld
        refine hK.out _ _ (KS.out _ (below_drew (Below.refl _ _))) (fun hHeld => ?_)
        clear hK K
        try simp only [Act.put, List.setIfInBounds_toArray, List.set_cons_zero, List.set_cons_succ]
        refine wpAnyH_ready (rs := [8, 12]) (by kernel_rfl) (by simp) ?_
        refine AllReadyH.cons rfl (fun K hK => ?_) (AllReadyH.cons rfl (fun K hK => ?_) AllReadyH.nil)
        · go_simp
          go_at_call 67; (with_reducible refine (HH4.out _ (KS.out _ (below_drew (Below.refl _ _))).2).mono ?_); rintro e wz ⟨rfl, rfl⟩
          go_wp2_with fail
          clear hHeld
          refine hK.out _ _ (KS.out _ (below_drew (Below.refl _ _))) (fun hHeld => ?_)
          clear hK K
          try simp only [Act.put, List.setIfInBounds_toArray, List.set_cons_zero, List.set_cons_succ]
          refine wpAnyH_ready (rs := [10, 12]) (by kernel_rfl) (by simp) ?_
          refine AllReadyH.cons rfl (fun K hK => ?_) (AllReadyH.cons rfl (fun K hK => ?_) AllReadyH.nil)
          · go_simp
            go_at_call 67; (with_reducible refine (HH8.out _ (KS.out _ (below_drew (Below.refl _ _))).2).mono ?_); rintro e wz ⟨rfl, rfl⟩
            go_wp2_with fail
            clear hHeld
            refine hK.out _ _ (KS.out _ (below_drew (Below.refl _ _))) (fun hHeld => ?_)
            clear hK K
            try simp only [Act.put, List.setIfInBounds_toArray, List.set_cons_zero, List.set_cons_succ]
            refine take_at (i := 11) (v := ?_) (some 34) rfl (by kernel_rfl) (by kernel_rfl) (by kernel_rfl) (fun _ _ _ h => h) (by kernel_rfl) (Or.inl ⟨by kernel_rfl, ?_⟩) (by assumption) ?_
            rotate_left
            · (intro w hSw; (try dsimp only at hSw); go_simp <;> with_reducible rfl)
            simp only [Act.put, List.setIfInBounds_toArray, List.set_cons_zero, List.set_cons_succ]
            refine wpAnyH_ready (rs := [12]) (by kernel_rfl) (by simp) ?_
            refine AllReadyH.cons rfl (fun K hK => ?_) AllReadyH.nil
            go_simp
            clear hHeld
            refine hK.out _ _ (KS.out _ (below_drew ((Below.refl _ _).alloc (Nat.le_refl _) _))) (fun hHeld => ?_)
            clear hK K
            try simp only [Act.put, List.setIfInBounds_toArray, List.set_cons_zero, List.set_cons_succ]
            refine wpAnyH_ready (rs := [13]) (by kernel_rfl) (by simp) ?_
            refine AllReadyH.cons rfl (fun K hK => ?_) AllReadyH.nil
            refine wp_store_row 34 _ _ rfl w1.heap.size #[.bool false, .int .u32 0, .int .u16 0, .int .u32 0, .int .u32 0, .bool (decide (fl.toNat / 2 % 2 = 1)), .bool (decide (fl.toNat % 2 = 1)), .bool (decide (fl.toNat / 4 % 2 = 1)), .bool (decide (fl.toNat / 8 % 2 = 1)), .slice none 0 0] rfl rfl 34 _ (Whole.new w1 34 #[.bool false, .int .u32 0, .int .u16 0, .int .u32 0, .int .u32 0, .bool false, .bool false, .bool false, .bool false, .slice none 0 0]) (by kernel_rfl) rfl (by simp [Value.oneCell']) ?_
            clear hHeld
            refine hK.out _ _ (KS.out _ (below_setRow (below_drew ((Below.refl _ _).alloc (Nat.le_refl _) _)) (Nat.le_refl _) _)) (fun hHeld => ?_)
            clear hK K
            try simp only [Act.put, List.setIfInBounds_toArray, List.set_cons_zero, List.set_cons_succ]
            refine wpAnyH_done (by kernel_rfl) ?_ _
            exact hT _ _ _ _ _ _ _ _ _ _ _ _ _ _ _ _ _ _ _ _ _ _ _ _ _ _ _ _ _
          · go_simp
            clear hHeld
            refine hK.out _ _ (KS.out _ (below_drew ((Below.refl _ _).alloc (Nat.le_refl _) _))) (fun hHeld => ?_)
            clear hK K
            try simp only [Act.put, List.setIfInBounds_toArray, List.set_cons_zero, List.set_cons_succ]
            refine wpAnyH_ready (rs := [10]) (by kernel_rfl) (by simp) ?_
            refine AllReadyH.cons rfl (fun K hK => ?_) AllReadyH.nil
            go_simp
            go_at_call 67; (with_reducible refine (HH8.out _ (KS.out _ (below_drew ((Below.refl _ _).alloc (Nat.le_refl _) _))).2).mono ?_); rintro e wz ⟨rfl, rfl⟩
            go_wp2_with fail
            clear hHeld
            refine hK.out _ _ (KS.out _ (below_drew ((Below.refl _ _).alloc (Nat.le_refl _) _))) (fun hHeld => ?_)
            clear hK K
            try simp only [Act.put, List.setIfInBounds_toArray, List.set_cons_zero, List.set_cons_succ]
            refine take_at (i := 11) (v := ?_) (some 34) rfl (by kernel_rfl) (by kernel_rfl) (by kernel_rfl) (fun _ _ _ h => h) (by kernel_rfl) (Or.inl ⟨by kernel_rfl, ?_⟩) (by assumption) ?_
            rotate_left
            · (intro w hSw; (try dsimp only at hSw); go_simp <;> with_reducible rfl)
            simp only [Act.put, List.setIfInBounds_toArray, List.set_cons_zero, List.set_cons_succ]
            refine wpAnyH_ready (rs := [13]) (by kernel_rfl) (by simp) ?_
            refine AllReadyH.cons rfl (fun K hK => ?_) AllReadyH.nil
            refine wp_store_row 34 _ _ rfl w1.heap.size #[.bool false, .int .u32 0, .int .u16 0, .int .u32 0, .int .u32 0, .bool (decide (fl.toNat / 2 % 2 = 1)), .bool (decide (fl.toNat % 2 = 1)), .bool (decide (fl.toNat / 4 % 2 = 1)), .bool (decide (fl.toNat / 8 % 2 = 1)), .slice none 0 0] rfl rfl 34 _ (Whole.new w1 34 #[.bool false, .int .u32 0, .int .u16 0, .int .u32 0, .int .u32 0, .bool false, .bool false, .bool false, .bool false, .slice none 0 0]) (by kernel_rfl) rfl (by simp [Value.oneCell']) ?_
            clear hHeld
            refine hK.out _ _ (KS.out _ (below_setRow (below_drew ((Below.refl _ _).alloc (Nat.le_refl _) _)) (Nat.le_refl _) _)) (fun hHeld => ?_)
            clear hK K
            try simp only [Act.put, List.setIfInBounds_toArray, List.set_cons_zero, List.set_cons_succ]
            refine wpAnyH_done (by kernel_rfl) ?_ _
            exact hT _ _ _ _ _ _ _ _ _ _ _ _ _ _ _ _ _ _ _ _ _ _ _ _ _ _ _ _ _
        · go_simp
          clear hHeld
          refine hK.out _ _ (KS.out _ (below_drew ((Below.refl _ _).alloc (Nat.le_refl _) _))) (fun hHeld => ?_)
          clear hK K
          try simp only [Act.put, List.setIfInBounds_toArray, List.set_cons_zero, List.set_cons_succ]
          refine wpAnyH_ready (rs := [8]) (by kernel_rfl) (by simp) ?_
          refine AllReadyH.cons rfl (fun K hK => ?_) AllReadyH.nil
          go_simp
          go_at_call 67; (with_reducible refine (HH4.out _ (KS.out _ (below_drew ((Below.refl _ _).alloc (Nat.le_refl _) _))).2).mono ?_); rintro e wz ⟨rfl, rfl⟩
          go_wp2_with fail
          clear hHeld
          refine hK.out _ _ (KS.out _ (below_drew ((Below.refl _ _).alloc (Nat.le_refl _) _))) (fun hHeld => ?_)
          clear hK K
          try simp only [Act.put, List.setIfInBounds_toArray, List.set_cons_zero, List.set_cons_succ]
          refine wpAnyH_ready (rs := [10]) (by kernel_rfl) (by simp) ?_
          refine AllReadyH.cons rfl (fun K hK => ?_) AllReadyH.nil
          go_simp
          go_at_call 67; (with_reducible refine (HH8.out _ (KS.out _ (below_drew ((Below.refl _ _).alloc (Nat.le_refl _) _))).2).mono ?_); rintro e wz ⟨rfl, rfl⟩
          go_wp2_with fail
          clear hHeld
          refine hK.out _ _ (KS.out _ (below_drew ((Below.refl _ _).alloc (Nat.le_refl _) _))) (fun hHeld => ?_)
          clear hK K
          try simp only [Act.put, List.setIfInBounds_toArray, List.set_cons_zero, List.set_cons_succ]
          refine take_at (i := 11) (v := ?_) (some 34) rfl (by kernel_rfl) (by kernel_rfl) (by kernel_rfl) (fun _ _ _ h => h) (by kernel_rfl) (Or.inl ⟨by kernel_rfl, ?_⟩) (by assumption) ?_
          rotate_left
          · (intro w hSw; (try dsimp only at hSw); go_simp <;> with_reducible rfl)
          simp only [Act.put, List.setIfInBounds_toArray, List.set_cons_zero, List.set_cons_succ]
          refine wpAnyH_ready (rs := [13]) (by kernel_rfl) (by simp) ?_
          refine AllReadyH.cons rfl (fun K hK => ?_) AllReadyH.nil
          refine wp_store_row 34 _ _ rfl w1.heap.size #[.bool false, .int .u32 0, .int .u16 0, .int .u32 0, .int .u32 0, .bool (decide (fl.toNat / 2 % 2 = 1)), .bool (decide (fl.toNat % 2 = 1)), .bool (decide (fl.toNat / 4 % 2 = 1)), .bool (decide (fl.toNat / 8 % 2 = 1)), .slice none 0 0] rfl rfl 34 _ (Whole.new w1 34 #[.bool false, .int .u32 0, .int .u16 0, .int .u32 0, .int .u32 0, .bool false, .bool false, .bool false, .bool false, .slice none 0 0]) (by kernel_rfl) rfl (by simp [Value.oneCell']) ?_
          clear hHeld
          refine hK.out _ _ (KS.out _ (below_setRow (below_drew ((Below.refl _ _).alloc (Nat.le_refl _) _)) (Nat.le_refl _) _)) (fun hHeld => ?_)
          clear hK K
          try simp only [Act.put, List.setIfInBounds_toArray, List.set_cons_zero, List.set_cons_succ]
          refine wpAnyH_done (by kernel_rfl) ?_ _
          exact hT _ _ _ _ _ _ _ _ _ _ _ _ _ _ _ _ _ _ _ _ _ _ _ _ _ _ _ _ _
      · go_simp
        clear hHeld
        refine hK.out _ _ (KS.out _ (below_drew ((Below.refl _ _).alloc (Nat.le_refl _) _))) (fun hHeld => ?_)
        clear hK K
        try simp only [Act.put, List.setIfInBounds_toArray, List.set_cons_zero, List.set_cons_succ]
        refine wpAnyH_ready (rs := [6]) (by kernel_rfl) (by simp) ?_
        refine AllReadyH.cons rfl (fun K hK => ?_) AllReadyH.nil
        go_simp
        go_at_call 67; (with_reducible refine (HH1.out _ (KS.out _ (below_drew ((Below.refl _ _).alloc (Nat.le_refl _) _))).2).mono ?_); rintro e wz ⟨rfl, rfl⟩
        go_wp2_with fail
        clear hHeld
        refine hK.out _ _ (KS.out _ (below_drew ((Below.refl _ _).alloc (Nat.le_refl _) _))) (fun hHeld => ?_)
        clear hK K
        try simp only [Act.put, List.setIfInBounds_toArray, List.set_cons_zero, List.set_cons_succ]
        refine wpAnyH_ready (rs := [8]) (by kernel_rfl) (by simp) ?_
        refine AllReadyH.cons rfl (fun K hK => ?_) AllReadyH.nil
        go_simp
        go_at_call 67; (with_reducible refine (HH4.out _ (KS.out _ (below_drew ((Below.refl _ _).alloc (Nat.le_refl _) _))).2).mono ?_); rintro e wz ⟨rfl, rfl⟩
        go_wp2_with fail
        clear hHeld
        refine hK.out _ _ (KS.out _ (below_drew ((Below.refl _ _).alloc (Nat.le_refl _) _))) (fun hHeld => ?_)
        clear hK K
        try simp only [Act.put, List.setIfInBounds_toArray, List.set_cons_zero, List.set_cons_succ]
        refine wpAnyH_ready (rs := [10]) (by kernel_rfl) (by simp) ?_
        refine AllReadyH.cons rfl (fun K hK => ?_) AllReadyH.nil
        go_simp
        go_at_call 67; (with_reducible refine (HH8.out _ (KS.out _ (below_drew ((Below.refl _ _).alloc (Nat.le_refl _) _))).2).mono ?_); rintro e wz ⟨rfl, rfl⟩
        go_wp2_with fail
        clear hHeld
        refine hK.out _ _ (KS.out _ (below_drew ((Below.refl _ _).alloc (Nat.le_refl _) _))) (fun hHeld => ?_)
        clear hK K
        try simp only [Act.put, List.setIfInBounds_toArray, List.set_cons_zero, List.set_cons_succ]
        refine take_at (i := 11) (v := ?_) (some 34) rfl (by kernel_rfl) (by kernel_rfl) (by kernel_rfl) (fun _ _ _ h => h) (by kernel_rfl) (Or.inl ⟨by kernel_rfl, ?_⟩) (by assumption) ?_
        rotate_left
        · (intro w hSw; (try dsimp only at hSw); go_simp <;> with_reducible rfl)
        simp only [Act.put, List.setIfInBounds_toArray, List.set_cons_zero, List.set_cons_succ]
        refine wpAnyH_ready (rs := [13]) (by kernel_rfl) (by simp) ?_
        refine AllReadyH.cons rfl (fun K hK => ?_) AllReadyH.nil
        refine wp_store_row 34 _ _ rfl w1.heap.size #[.bool false, .int .u32 0, .int .u16 0, .int .u32 0, .int .u32 0, .bool (decide (fl.toNat / 2 % 2 = 1)), .bool (decide (fl.toNat % 2 = 1)), .bool (decide (fl.toNat / 4 % 2 = 1)), .bool (decide (fl.toNat / 8 % 2 = 1)), .slice none 0 0] rfl rfl 34 _ (Whole.new w1 34 #[.bool false, .int .u32 0, .int .u16 0, .int .u32 0, .int .u32 0, .bool false, .bool false, .bool false, .bool false, .slice none 0 0]) (by kernel_rfl) rfl (by simp [Value.oneCell']) ?_
        clear hHeld
        refine hK.out _ _ (KS.out _ (below_setRow (below_drew ((Below.refl _ _).alloc (Nat.le_refl _) _)) (Nat.le_refl _) _)) (fun hHeld => ?_)
        clear hK K
        try simp only [Act.put, List.setIfInBounds_toArray, List.set_cons_zero, List.set_cons_succ]
        refine wpAnyH_done (by kernel_rfl) ?_ _
        exact hT _ _ _ _ _ _ _ _ _ _ _ _ _ _ _ _ _ _ _ _ _ _ _ _ _ _ _ _ _
    · go_simp
      clear hHeld
      refine hK.out _ _ (KS.out _ (below_drew ((Below.refl _ _).alloc (Nat.le_refl _) _))) (fun hHeld => ?_)
      clear hK K
      try simp only [Act.put, List.setIfInBounds_toArray, List.set_cons_zero, List.set_cons_succ]
      refine wpAnyH_ready (rs := [4]) (by kernel_rfl) (by simp) ?_
      refine AllReadyH.cons rfl (fun K hK => ?_) AllReadyH.nil
      go_simp
      go_at_call 67; (with_reducible refine (HH2.out _ (KS.out _ (below_drew ((Below.refl _ _).alloc (Nat.le_refl _) _))).2).mono ?_); rintro e wz ⟨rfl, rfl⟩
      go_wp2_with fail
      clear hHeld
      refine hK.out _ _ (KS.out _ (below_drew ((Below.refl _ _).alloc (Nat.le_refl _) _))) (fun hHeld => ?_)
      clear hK K
      try simp only [Act.put, List.setIfInBounds_toArray, List.set_cons_zero, List.set_cons_succ]
      refine wpAnyH_ready (rs := [6]) (by kernel_rfl) (by simp) ?_
      refine AllReadyH.cons rfl (fun K hK => ?_) AllReadyH.nil
      go_simp
      go_at_call 67; (with_reducible refine (HH1.out _ (KS.out _ (below_drew ((Below.refl _ _).alloc (Nat.le_refl _) _))).2).mono ?_); rintro e wz ⟨rfl, rfl⟩
      go_wp2_with fail
      clear hHeld
      refine hK.out _ _ (KS.out _ (below_drew ((Below.refl _ _).alloc (Nat.le_refl _) _))) (fun hHeld => ?_)
      clear hK K
      try simp only [Act.put, List.setIfInBounds_toArray, List.set_cons_zero, List.set_cons_succ]
      refine wpAnyH_ready (rs := [8]) (by kernel_rfl) (by simp) ?_
      refine AllReadyH.cons rfl (fun K hK => ?_) AllReadyH.nil
      go_simp
      go_at_call 67; (with_reducible refine (HH4.out _ (KS.out _ (below_drew ((Below.refl _ _).alloc (Nat.le_refl _) _))).2).mono ?_); rintro e wz ⟨rfl, rfl⟩
      go_wp2_with fail
      clear hHeld
      refine hK.out _ _ (KS.out _ (below_drew ((Below.refl _ _).alloc (Nat.le_refl _) _))) (fun hHeld => ?_)
      clear hK K
      try simp only [Act.put, List.setIfInBounds_toArray, List.set_cons_zero, List.set_cons_succ]
      refine wpAnyH_ready (rs := [10]) (by kernel_rfl) (by simp) ?_
      refine AllReadyH.cons rfl (fun K hK => ?_) AllReadyH.nil
      go_simp
      go_at_call 67; (with_reducible refine (HH8.out _ (KS.out _ (below_drew ((Below.refl _ _).alloc (Nat.le_refl _) _))).2).mono ?_); rintro e wz ⟨rfl, rfl⟩
      go_wp2_with fail
      clear hHeld
      refine hK.out _ _ (KS.out _ (below_drew ((Below.refl _ _).alloc (Nat.le_refl _) _))) (fun hHeld => ?_)
      clear hK K
      try simp only [Act.put, List.setIfInBounds_toArray, List.set_cons_zero, List.set_cons_succ]
      refine take_at (i := 11) (v := ?_) (some 34) rfl (by kernel_rfl) (by kernel_rfl) (by kernel_rfl) (fun _ _ _ h => h) (by kernel_rfl) (Or.inl ⟨by kernel_rfl, ?_⟩) (by assumption) ?_
      rotate_left
      · (intro w hSw; (try dsimp only at hSw); go_simp <;> with_reducible rfl)
      simp only [Act.put, List.setIfInBounds_toArray, List.set_cons_zero, List.set_cons_succ]
      refine wpAnyH_ready (rs := [13]) (by kernel_rfl) (by simp) ?_
      refine AllReadyH.cons rfl (fun K hK => ?_) AllReadyH.nil
      refine wp_store_row 34 _ _ rfl w1.heap.size #[.bool false, .int .u32 0, .int .u16 0, .int .u32 0, .int .u32 0, .bool (decide (fl.toNat / 2 % 2 = 1)), .bool (decide (fl.toNat % 2 = 1)), .bool (decide (fl.toNat / 4 % 2 = 1)), .bool (decide (fl.toNat / 8 % 2 = 1)), .slice none 0 0] rfl rfl 34 _ (Whole.new w1 34 #[.bool false, .int .u32 0, .int .u16 0, .int .u32 0, .int .u32 0, .bool false, .bool false, .bool false, .bool false, .slice none 0 0]) (by kernel_rfl) rfl (by simp [Value.oneCell']) ?_
      clear hHeld
      refine hK.out _ _ (KS.out _ (below_setRow (below_drew ((Below.refl _ _).alloc (Nat.le_refl _) _)) (Nat.le_refl _) _)) (fun hHeld => ?_)
      clear hK K
      try simp only [Act.put, List.setIfInBounds_toArray, List.set_cons_zero, List.set_cons_succ]
      refine wpAnyH_done (by kernel_rfl) ?_ _
      exact hT _ _ _ _ _ _ _ _ _ _ _ _ _ _ _ _ _ _ _ _ _ _ _ _ _ _ _ _ _
  have hLn : 13 ≤ d.length := HL.out.1
  have hLn2 : d.length ≤ 65531 := HL.out.2
  intro u0 u4 u8 u9 u10 u11 u12 u13 u14 u15 u16 u17 u18 u19 u20 u21 u22 u23 u24 u25 u26 u27 u28 u29 u30 u31 u32 u33 u34
  have hp3 := (Whole.new w1 34 #[.bool false, .int .u32 0, .int .u16 0, .int .u32 0, .int .u32 0, .bool false, .bool false, .bool false, .bool false, .slice none 0 0]).setRow #[.bool false, .int .u32 0, .int .u16 0, .int .u32 0, .int .u32 0, .bool (decide (fl.toNat / 2 % 2 = 1)), .bool (decide (fl.toNat % 2 = 1)), .bool (decide (fl.toNat / 4 % 2 = 1)), .bool (decide (fl.toNat / 8 % 2 = 1)), .slice none 0 0]
  have hp3 : Whole (((w1.alloc (.cells #[.bool false, .int .u32 0, .int .u16 0, .int .u32 0, .int .u32 0, .bool false, .bool false, .bool false, .bool false, .slice none 0 0] 34)).drew).setRow w1.heap.size #[.bool false, .int .u32 0, .int .u16 0, .int .u32 0, .int .u32 0, .bool (decide (fl.toNat / 2 % 2 = 1)), .bool (decide (fl.toNat % 2 = 1)), .bool (decide (fl.toNat / 4 % 2 = 1)), .bool (decide (fl.toNat / 8 % 2 = 1)), .slice none 0 0]) w1.heap.size 34 #[.bool false, .int .u32 0, .int .u16 0, .int .u32 0, .int .u32 0, .bool (decide (fl.toNat / 2 % 2 = 1)), .bool (decide (fl.toNat % 2 = 1)), .bool (decide (fl.toNat / 4 % 2 = 1)), .bool (decide (fl.toNat / 8 % 2 = 1)), .slice none 0 0] := hp3
  have hb3 : Below w1.heap.size w1 (((w1.alloc (.cells #[.bool false, .int .u32 0, .int .u16 0, .int .u32 0, .int .u32 0, .bool false, .bool false, .bool false, .bool false, .slice none 0 0] 34)).drew).setRow w1.heap.size #[.bool false, .int .u32 0, .int .u16 0, .int .u32 0, .int .u32 0, .bool (decide (fl.toNat / 2 % 2 = 1)), .bool (decide (fl.toNat % 2 = 1)), .bool (decide (fl.toNat / 4 % 2 = 1)), .bool (decide (fl.toNat / 8 % 2 = 1)), .slice none 0 0]) := below_setRow (below_drew ((Below.refl _ _).alloc (Nat.le_refl _) _)) (Nat.le_refl _) _
  generalize (((w1.alloc (.cells #[.bool false, .int .u32 0, .int .u16 0, .int .u32 0, .int .u32 0, .bool false, .bool false, .bool false, .bool false, .slice none 0 0] 34)).drew).setRow w1.heap.size #[.bool false, .int .u32 0, .int .u16 0, .int .u32 0, .int .u32 0, .bool (decide (fl.toNat / 2 % 2 = 1)), .bool (decide (fl.toNat % 2 = 1)), .bool (decide (fl.toNat / 4 % 2 = 1)), .bool (decide (fl.toNat / 8 % 2 = 1)), .slice none 0 0]) = w3 at *
  have hx3 := hx2.out.on hb3
  have hs3 := hp3.lt
  have HN := Lib.hid (new_any A c d w3 hx3.data hcd hmd (by omega))
  have c3 : w3.cell? ⟨w.heap.size, 2, none⟩ = some (.slice A d.length c) := (x1.below hb3).c2
  go_wp2_with fail
  refine HN.out.mono ?_
  rintro e w4 ⟨g, A2, c2, rfl, r4, b4⟩
  have hs4 := b4.size
  have hg4 := r4.whole.lt
  have hgb := r4.base_le
  have b45 : Below w4.heap.size w4 (w4.alloc (.cells #[.pointer (some ⟨g, 0, none⟩)] 104)) := (Below.refl _ _).alloc (Nat.le_refl _) _
  have o5 : OfI w1 w1.heap.size w3.heap.size g A2 c2 d w4.heap.size w1.heap.size 0 #[.bool false, .int .u32 0, .int .u16 0, .int .u32 0, .int .u32 0, .bool (decide (fl.toNat / 2 % 2 = 1)), .bool (decide (fl.toNat % 2 = 1)), .bool (decide (fl.toNat / 4 % 2 = 1)), .bool (decide (fl.toNat / 8 % 2 = 1)), .slice none 0 0] (w4.alloc (.cells #[.pointer (some ⟨g, 0, none⟩)] 104)) := ⟨r4.below b45, Boxed.new w4 _ _, (hp3.below b4 hs3).below b45 (by omega), hb3.trans ((b4.mono (by omega)).trans (b45.mono (by omega))), by omega, Nat.le_refl _, by omega, by omega, by omega⟩
  have X1 := Lib.hid x1
  have X3 := Lib.hid hb3
  have Y1 := Lib.hid y1
  clear r4 b45 c3 HN hx3 x1 y1 hp3 hb3 hx2 KS HH1 HH2 HH4 HH8 b4
  have n6 : Calls Tryz.prog 69 #[.int .i64 4, .pointer (some ⟨w4.heap.size, 0, none⟩)] _ fun e W' => e = .returned (uv (nrd d 0 4)) ∧ OfI w1 w1.heap.size w3.heap.size g A2 c2 d w4.heap.size w1.heap.size 4 _ W' := o5.nx 4 rfl (by omega)
  go_wp2_with fail
  refine n6.mono ?_
  rintro e w6 ⟨rfl, o6⟩
  clear n6
  have z6 := o6.fz 1
  have k6 : w6.cell? ⟨w1.heap.size, 1, none⟩ = some (.int .u32 0) := by rw [o6.pt.cell]; rfl
  have p6 := o6.set 1 (uv (nrd d 0 4))
  have n7 : Calls Tryz.prog 69 #[.int .i64 2, .pointer (some ⟨w4.heap.size, 0, none⟩)] _ fun e W' => e = .returned (uv (nrd d 4 2)) ∧ OfI w1 w1.heap.size w3.heap.size g A2 c2 d w4.heap.size w1.heap.size 6 _ W' := p6.nx 2 rfl (by omega)
  go_wp2_with fail
  refine n7.mono ?_
  rintro e w7 ⟨rfl, o7⟩
  clear n7
  have z7 := o7.fz 2
  have k7 : w7.cell? ⟨w1.heap.size, 2, none⟩ = some (.int .u16 0) := by rw [o7.pt.cell]; rfl
  have p7 := o7.set 2 (.int .u16 (IntKind.u16.wrap ((nrd d 4 2).toNat : Int)))
  have n8 : Calls Tryz.prog 69 #[.int .i64 2, .pointer (some ⟨w4.heap.size, 0, none⟩)] _ fun e W' => e = .returned (uv (nrd d 6 2)) ∧ OfI w1 w1.heap.size w3.heap.size g A2 c2 d w4.heap.size w1.heap.size 8 _ W' := p7.nx 2 rfl (by omega)
  go_wp2_with fail
  refine n8.mono ?_
  rintro e w8 ⟨rfl, o8⟩
  clear n8
  have z8 := o8.fz 3
  have k8 : w8.cell? ⟨w1.heap.size, 3, none⟩ = some (.int .u32 0) := by rw [o8.pt.cell]; rfl
  have p8 := o8.set 3 (uv (nrd d 6 2))
  have m9 : (w8.setCell ⟨w1.heap.size, 3, none⟩ (uv (nrd d 6 2))).cell? ⟨w1.heap.size, 0, none⟩ = some (.bool false) := by rw [p8.pt.cell]; rfl
  have n9 : Calls Tryz.prog 69 #[.int .i64 4, .pointer (some ⟨w4.heap.size, 0, none⟩)] _ fun e W' => e = .returned (uv (nrd d 8 4)) ∧ OfI w1 w1.heap.size w3.heap.size g A2 c2 d w4.heap.size w1.heap.size 12 _ W' := p8.nx 4 rfl (by omega)
  go_wp2_with fail
  refine n9.mono ?_
  rintro e w9 ⟨rfl, o9⟩
  clear n9
  have z9 := o9.fz 4
  have k9 : w9.cell? ⟨w1.heap.size, 4, none⟩ = some (.int .u32 0) := by rw [o9.pt.cell]; rfl
  have p9 := o9.set 4 (uv (nrd d 8 4))
  go_upto_region 13 with fail
  generalize hWL : (w9.setCell ⟨w1.heap.size, 4, none⟩ (uv (nrd d 8 4))) = wL at *
  clear hWL
  have oL : OfI w1 w1.heap.size w3.heap.size g A2 c2 d w4.heap.size w1.heap.size 12 #[.bool false, uv (nrd d 0 4), .int .u16 (IntKind.u16.wrap ((nrd d 4 2).toNat : Int)), uv (nrd d 6 2), uv (nrd d 8 4), .bool (decide (fl.toNat / 2 % 2 = 1)), .bool (decide (fl.toNat % 2 = 1)), .bool (decide (fl.toNat / 4 % 2 = 1)), .bool (decide (fl.toNat / 8 % 2 = 1)), .slice none 0 0] wL := p9
  have oD := oL.drew
  obtain ⟨nn, hnn⟩ : ∃ nn, nn = d.length - 12 := ⟨_, rfl⟩
  have HLe := left_any oD.rd
  rw [show (d.length : Int) - ((12 : Nat) : Int) = ((nn : Nat) : Int) by omega] at HLe
  have HT := Lib.hid (fun q => take_yes (oL.drewN (1 + q)).rd nn (by omega))
  have HN1 := Lib.hid hnn
  have HE := Lib.hid HLe
  clear hnn HLe
  refine wp_region_held_drew (S := (fun W => W.cell? ⟨w4.heap.size, 0, none⟩ = some (.pointer (some ⟨g, 0, none⟩)))) (by kernel_rfl) (oD.bx.cell) (fun hHeld => ?_)
  refine take_at (i := 0) (v := ?_) (some 58) rfl (by kernel_rfl) (by kernel_rfl) (by kernel_rfl) (fun _ _ _ h => h) (by kernel_rfl) (Or.inl ⟨by kernel_rfl, ?_⟩) (by assumption) ?_
  rotate_left
  · (intro w hSw; (try dsimp only at hSw); go_simp <;> with_reducible rfl)
  simp only [Act.put, List.setIfInBounds_toArray, List.set_cons_zero, List.set_cons_succ]
  refine take_at (i := 1) (v := ?_) (some 59) rfl (by kernel_rfl) (by kernel_rfl) (by kernel_rfl) (fun _ _ _ h => h) (by kernel_rfl) (Or.inl ⟨by kernel_rfl, ?_⟩) (by assumption) ?_
  rotate_left
  · (intro w hSw; (try dsimp only at hSw); go_simp <;> with_reducible rfl)
  simp only [Act.put, List.setIfInBounds_toArray, List.set_cons_zero, List.set_cons_succ]
  refine wpAnyH_ready (rs := [2]) (by kernel_rfl) (by simp) ?_
  refine AllReadyH.cons rfl (fun K hK => ?_) AllReadyH.nil
  go_simp
  go_at_call 72; (with_reducible refine HE.out.mono ?_); rintro e wq ⟨rfl, q, rfl⟩
  go_wp2_with fail
  clear hHeld
  refine hK.out _ _ ((oL.drewN (1 + q)).bx.cell) (fun hHeld => ?_)
  clear hK K
  try simp only [Act.put, List.setIfInBounds_toArray, List.set_cons_zero, List.set_cons_succ]
  refine wpAnyH_ready (rs := [3]) (by kernel_rfl) (by simp) ?_
  refine AllReadyH.cons rfl (fun K hK => ?_) AllReadyH.nil
  go_simp
  go_at_call 71; (with_reducible refine (HT.out q).mono ?_); rintro e wT ⟨A3, c3, rfl, own3, rT, gT⟩; have oT := (oL.drewN (1 + q)).next rT gT; have zT := oT.fz 9; have kT : wT.cell? ⟨w1.heap.size, 9, none⟩ = some (.slice none 0 0) := by rw [oT.pt.cell]; rfl
  go_wp2_with fail
  clear hHeld
  refine hK.out _ _ (oT.bx.cell) (fun hHeld => ?_)
  clear hK K
  try simp only [Act.put, List.setIfInBounds_toArray, List.set_cons_zero, List.set_cons_succ]
  refine take_at (i := 4) (v := ?_) (some 57) rfl (by kernel_rfl) (by kernel_rfl) (by kernel_rfl) (fun _ _ _ h => h) (by kernel_rfl) (Or.inl ⟨by kernel_rfl, ?_⟩) (by assumption) ?_
  rotate_left
  · (intro w hSw; (try dsimp only at hSw); go_simp <;> with_reducible rfl)
  simp only [Act.put, List.setIfInBounds_toArray, List.set_cons_zero, List.set_cons_succ]
  refine take_at (i := 5) (v := ?_) (some 62) rfl (by kernel_rfl) (by kernel_rfl) (by kernel_rfl) (fun _ _ _ h => h) (by kernel_rfl) (Or.inl ⟨by kernel_rfl, ?_⟩) (by assumption) ?_
  rotate_left
  · (intro w hSw; (try dsimp only at hSw); go_simp <;> with_reducible rfl)
  simp only [Act.put, List.setIfInBounds_toArray, List.set_cons_zero, List.set_cons_succ]
  refine take_at (i := 6) (v := ?_) (some 63) rfl (by kernel_rfl) (by kernel_rfl) (by kernel_rfl) (fun _ _ _ h => h) (by kernel_rfl) (Or.inl ⟨by kernel_rfl, ?_⟩) (by assumption) ?_
  rotate_left
  · (intro w hSw; (try dsimp only at hSw); go_simp <;> with_reducible rfl)
  simp only [Act.put, List.setIfInBounds_toArray, List.set_cons_zero, List.set_cons_succ]
  refine take_at (i := 7) (v := ?_) (some 64) rfl (by kernel_rfl) (by kernel_rfl) (by kernel_rfl) (fun _ _ _ h => h) (by kernel_rfl) (Or.inl ⟨by kernel_rfl, ?_⟩) (by assumption) ?_
  rotate_left
  · (intro w hSw; (try dsimp only at hSw); go_simp <;> with_reducible rfl)
  simp only [Act.put, List.setIfInBounds_toArray, List.set_cons_zero, List.set_cons_succ]
  refine wpAnyH_ready (rs := [8]) (by kernel_rfl) (by simp) ?_
  refine AllReadyH.cons rfl (fun K hK => ?_) AllReadyH.nil
  go_simp
  clear hHeld
  refine hK.out _ _ ((oT.set 9 _).bx.cell) (fun hHeld => ?_)
  clear hK K
  try simp only [Act.put, List.setIfInBounds_toArray, List.set_cons_zero, List.set_cons_succ]
  refine wpAnyH_done (by kernel_rfl) ?_ _
  skip
  have oF := oT.set 9 (.slice A3 nn c3)
  have ownF : (wT.setCell ⟨w1.heap.size, 9, none⟩ (.slice A3 nn c3)).ownsRow _ 5 1 (.slice A3 nn c3) nn _ := own_set13 own3 oT.pt (by decide)
  have hpF : Whole (wT.setCell ⟨w1.heap.size, 9, none⟩ (.slice A3 nn c3)) w1.heap.size 34 #[.bool false, uv (nrd d 0 4), .int .u16 (IntKind.u16.wrap ((nrd d 4 2).toNat : Int)), uv (nrd d 6 2), uv (nrd d 8 4), .bool (decide (fl.toNat / 2 % 2 = 1)), .bool (decide (fl.toNat % 2 = 1)), .bool (decide (fl.toNat / 4 % 2 = 1)), .bool (decide (fl.toNat / 8 % 2 = 1)), .slice A3 nn c3] := oF.pt
  have hlF := oF.low
  have hyF : Whole (wT.setCell ⟨w1.heap.size, 9, none⟩ (.slice A3 nn c3)) (w.heap.size + 1) 34 #[.bool false, .int .u32 0, .int .u16 0, .int .u32 0, .int .u32 0, .bool false, .bool false, .bool false, .bool false, .slice none 0 0] := Y1.out.below hlF (by omega)
  clear oF oT zT kT own3 rT gT HT HE oL oD
  generalize wT.setCell ⟨w1.heap.size, 9, none⟩ (.slice A3 nn c3) = wF at *
  go_wp2_with (first | (refine wpList_load_row rfl 34 _ rfl w1.heap.size rfl 34 #[.bool false, uv (nrd d 0 4), .int .u16 (IntKind.u16.wrap ((nrd d 4 2).toNat : Int)), uv (nrd d 6 2), uv (nrd d 8 4), .bool (decide (fl.toNat / 2 % 2 = 1)), .bool (decide (fl.toNat % 2 = 1)), .bool (decide (fl.toNat / 4 % 2 = 1)), .bool (decide (fl.toNat / 8 % 2 = 1)), .slice A3 nn c3] (0, 0) _ hpF Tryz.underlying34 rfl (by kernel_rfl) ?_) | (refine wpList_store_row rfl 34 _ _ rfl (w.heap.size + 1) #[.bool false, uv (nrd d 0 4), .int .u16 (IntKind.u16.wrap ((nrd d 4 2).toNat : Int)), uv (nrd d 6 2), uv (nrd d 8 4), .bool (decide (fl.toNat / 2 % 2 = 1)), .bool (decide (fl.toNat % 2 = 1)), .bool (decide (fl.toNat / 4 % 2 = 1)), .bool (decide (fl.toNat / 8 % 2 = 1)), .slice A3 nn c3] rfl rfl _ _ hyF (by kernel_rfl) rfl (by simp [Value.oneCell']) ?_) | fail)
  (try simp only [Exit.inBlock, Exit.then])
  refine bodyPost_ret (results_row_tmp rfl _ _ (w.heap.size + 1) 34 _ _ rfl (hyF.setRow _) Tryz.underlying34 rfl (by kernel_rfl)) rfl ?_
  have hst := u16wrap (nrd d 4 2).toNat
  have htk : (d.drop 12).take nn = d.drop 12 := List.take_of_length_le (by rw [List.length_drop, HN1.out]; omega)
  have hln : (d.drop 12).length = nn := by rw [List.length_drop, HN1.out]
  unfold OfR ofP
  rw [HD.out, if_pos rfl]
  have hcp := own_cap ownF
  rw [htk] at ownF
  refine ⟨below_setRow (B1.out.trans (hlF.mono (by omega))) (Nat.le_succ _) _, A3, c3, ?_, ?_⟩
  · rw [hst]
    show Ending.returned (.tuple #[.agg #[.bool false, uv (nrd d 0 4), hv (UInt16.ofNat (nrd d 4 2).toNat), uv (nrd d 6 2), uv (nrd d 8 4), .bool (decide (fl.toNat / 2 % 2 = 1)), .bool (decide (fl.toNat % 2 = 1)), .bool (decide (fl.toNat / 4 % 2 = 1)), .bool (decide (fl.toNat / 8 % 2 = 1)), .slice A3 nn c3], .bool true]) = .returned (.tuple #[ptV (ptOf ⟨0, fl, d, []⟩) A3 c3, .bool true])
    rw [← hln]
    rfl
  · have hL9 : Lies wF wF.heap.size A3 ((d.drop 12).map bv) := Lies.own ownF
    have hsz9 : (wF.setRow (w.heap.size + 1) #[.bool false, uv (nrd d 0 4), .int .u16 (IntKind.u16.wrap ((nrd d 4 2).toNat : Int)), uv (nrd d 6 2), uv (nrd d 8 4), .bool (decide (fl.toNat / 2 % 2 = 1)), .bool (decide (fl.toNat % 2 = 1)), .bool (decide (fl.toNat / 4 % 2 = 1)), .bool (decide (fl.toNat / 8 % 2 = 1)), .slice A3 nn c3]).heap.size = wF.heap.size := by simp
    refine ⟨?_, by show (d.drop 12).length ≤ c3; rw [hln]; exact hcp.2.1, hcp.2.2⟩
    show Lies _ _ A3 ((d.drop 12).map bv)
    rw [hsz9]
    exact lies_setRow13 hL9 (whole_row_ne hyF (by decide) ownF) _

set_option maxRecDepth 100000 in
set_option maxHeartbeats 8000000 in
theorem of_idata (fl : UInt8) (d : List UInt8) (hd : isD ⟨64, fl, d, []⟩ = true) (A : Option Addr) (c : Nat) (KA : Option Addr) (kk : Nat) (w : World) (h : Chunk w w.heap.size A c KA kk ⟨64, fl, d, []⟩) (hh : Handle w) :
    Calls Tryz.prog 19 #[ckV ⟨64, fl, d, []⟩ A c KA kk] w (OfR ⟨64, fl, d, []⟩ w) := by
  have b0 : Below w.heap.size w ((w.alloc (.cells (ckCells ⟨64, fl, d, []⟩ A c KA kk) 31)).alloc (.cells #[.bool false, .int .u32 0, .int .u16 0, .int .u32 0, .int .u32 0, .bool false, .bool false, .bool false, .bool false, .slice none 0 0] 34)) := ((Below.refl _ w).alloc (Nat.le_refl _) _).alloc (by simp) _
  have x0 := (CkBox.new w ⟨64, fl, d, []⟩ A c KA kk).below ((Below.refl _ _).alloc (Nat.le_refl _) (.cells #[.bool false, .int .u32 0, .int .u16 0, .int .u32 0, .int .u32 0, .bool false, .bool false, .bool false, .bool false, .slice none 0 0] 34))
  have y0 := Whole.new (w.alloc (.cells (ckCells ⟨64, fl, d, []⟩ A c KA kk) 31)) 34 #[.bool false, .int .u32 0, .int .u16 0, .int .u32 0, .int .u32 0, .bool false, .bool false, .bool false, .bool false, .slice none 0 0]
  rw [World.size_alloc] at y0
  have hs0 : ((w.alloc (.cells (ckCells ⟨64, fl, d, []⟩ A c KA kk) 31)).alloc (.cells #[.bool false, .int .u32 0, .int .u16 0, .int .u32 0, .int .u32 0, .bool false, .bool false, .bool false, .bool false, .slice none 0 0] 34)).heap.size = w.heap.size + 2 := by simp
  have hlen := isD_len hd
  have hf : CkFine ⟨64, fl, d, []⟩ := ⟨by have := hlen.2; simp only at this ⊢; omega, by simp, by intro q hq; cases hq⟩
  have HC := ccheck_any ⟨64, fl, d, []⟩ hf A c KA kk _ (h.on b0) (hh.below b0 hh.lt)
  rw [(isD_parts hd).2] at HC
  have e0 : codeE 0 = .nilIface := rfl
  rw [e0] at HC
  have HD := Lib.hid hd
  have HL := Lib.hid hlen
  have HB := Lib.hid b0
  have hx1 := h.on b0
  have hmd := h.dm
  have hcd := h.dc
  clear hd hf e0 h hh b0 hlen
  simp only [ckV, ckCells] at *
  obtain ⟨q0, q1, q2, q3⟩ := x0.cs
  go_enter Tryz.func19, Tryz.ntmps19
  go_wp2_with fail
  refine HC.mono ?_
  rintro e w1 ⟨rfl, b2⟩
  have x1 := x0.below b2
  have y1 := y0.below b2 (by omega)
  have B1 := Lib.hid (HB.out.trans (b2.mono (by omega)))
  have hs1 : w.heap.size + 2 ≤ w1.heap.size := by have := b2.size; omega
  have hx2 := Lib.hid (hx1.on b2)
  clear q0 q1 q2 q3 x0 y0 HC hx1 HB b2 hs0
  have KS : Hid (∀ W, Below w1.heap.size w1 W → W.cell? ⟨w.heap.size, 0, none⟩ = some (bv 64) ∧ W.cell? ⟨w.heap.size, 1, none⟩ = some (bv fl)) := fun W hW => ⟨(x1.below hW).c0, (x1.below hW).c1⟩
  have HH1 : Hid (∀ W : World, W.cell? ⟨w.heap.size, 1, none⟩ = some (bv fl) → Calls Tryz.prog 67 #[.int .u8 1, .pointer (some ⟨w.heap.size, 0, none⟩)] W fun e w' => e = .returned (.bool (decide (fl.toNat / 1 % 2 = 1))) ∧ w' = W) := fun W hW => has1_any 1 (by decide) fl w.heap.size W hW
  have HH2 : Hid (∀ W : World, W.cell? ⟨w.heap.size, 1, none⟩ = some (bv fl) → Calls Tryz.prog 67 #[.int .u8 2, .pointer (some ⟨w.heap.size, 0, none⟩)] W fun e w' => e = .returned (.bool (decide (fl.toNat / 2 % 2 = 1))) ∧ w' = W) := fun W hW => has1_any 2 (by decide) fl w.heap.size W hW
  have HH4 : Hid (∀ W : World, W.cell? ⟨w.heap.size, 1, none⟩ = some (bv fl) → Calls Tryz.prog 67 #[.int .u8 4, .pointer (some ⟨w.heap.size, 0, none⟩)] W fun e w' => e = .returned (.bool (decide (fl.toNat / 4 % 2 = 1))) ∧ w' = W) := fun W hW => has1_any 4 (by decide) fl w.heap.size W hW
  have HH8 : Hid (∀ W : World, W.cell? ⟨w.heap.size, 1, none⟩ = some (bv fl) → Calls Tryz.prog 67 #[.int .u8 8, .pointer (some ⟨w.heap.size, 0, none⟩)] W fun e w' => e = .returned (.bool (decide (fl.toNat / 8 % 2 = 1))) ∧ w' = W) := fun W hW => has1_any 8 (by decide) fl w.heap.size W hW
  go_upto_region 4 with fail
  refine cut_post (fun QQ => ∀ (u0 u4 u8 u9 u10 u11 u12 u13 u14 u15 u16 u17 u18 u19 u20 u21 u22 u23 u24 u25 u26 u27 u28 u29 u30 u31 u32 u33 u34 : Value), QQ Exit.normal { tmps := #[u0, .pointer (some ⟨w.heap.size, 0, none⟩), .pointer (some ⟨w.heap.size + 1, 0, none⟩), .bool false, u4, .pointer (some ⟨w1.heap.size, 0, none⟩), undef, undef, u8, u9, u10, u11, u12, u13, u14, u15, u16, u17, u18, u19, u20, u21, u22, u23, u24, u25, u26, u27, u28, u29, u30, u31, u32, u33, u34, undef, undef, undef, undef, undef, undef, undef, undef, undef, undef, undef, undef, undef, undef, undef, undef, undef, undef, undef, undef, undef, undef, undef, undef, undef, undef, undef, undef, undef, undef, undef], defers := [] } (((w1.alloc (.cells #[.bool false, .int .u32 0, .int .u16 0, .int .u32 0, .int .u32 0, .bool false, .bool false, .bool false, .bool false, .slice none 0 0] 34)).drew).setRow w1.heap.size #[.bool true, .int .u32 0, .int .u16 0, .int .u32 0, .int .u32 0, .bool (decide (fl.toNat / 2 % 2 = 1)), .bool (decide (fl.toNat % 2 = 1)), .bool (decide (fl.toNat / 4 % 2 = 1)), .bool (decide (fl.toNat / 8 % 2 = 1)), .slice none 0 0])) ?_ (fun hT => ?_)
  rotate_left
  · skip
    refine wp_region_held_drew (S := (fun W => W.cell? ⟨w.heap.size, 0, none⟩ = some (bv 64) ∧ W.cell? ⟨w.heap.size, 1, none⟩ = some (bv fl))) (by kernel_rfl) (KS.out _ (below_drew (Below.refl _ _))) (fun hHeld => ?_)
    refine take_at (i := 0) (v := ?_) (some 23) rfl (by kernel_rfl) (by kernel_rfl) (by kernel_rfl) (fun _ _ _ h => h) (by kernel_rfl) (Or.inl ⟨by kernel_rfl, ?_⟩) (by assumption) ?_
    rotate_left
    · (intro w hSw; (try dsimp only at hSw); go_simp <;> with_reducible rfl)
    simp only [Act.put, List.setIfInBounds_toArray, List.set_cons_zero, List.set_cons_succ]
    refine take_at (i := 1) (v := ?_) (some 24) rfl (by kernel_rfl) (by kernel_rfl) (by kernel_rfl) (fun _ _ _ h => h) (by kernel_rfl) (Or.inl ⟨by kernel_rfl, ?_⟩) (by assumption) ?_
    rotate_left
    · (intro w hSw; (try dsimp only at hSw); go_simp <;> with_reducible rfl)
    simp only [Act.put, List.setIfInBounds_toArray, List.set_cons_zero, List.set_cons_succ]
    refine take_at (i := 2) (v := ?_) (some 25) rfl (by kernel_rfl) (by kernel_rfl) (by kernel_rfl) (fun _ _ _ h => h) (by kernel_rfl) (Or.inl ⟨by kernel_rfl, ?_⟩) (by assumption) ?_
    rotate_left
    · (intro w hSw; (try dsimp only at hSw); go_simp <;> with_reducible rfl)
    simp only [Act.put, List.setIfInBounds_toArray, List.set_cons_zero, List.set_cons_succ]
    refine take_at (i := 3) (v := ?_) (some 26) rfl (by kernel_rfl) (by kernel_rfl) (by kernel_rfl) (fun _ _ _ h => h) (by kernel_rfl) (Or.inl ⟨by kernel_rfl, ?_⟩) (by assumption) ?_
    rotate_left
    · (intro w hSw; (try dsimp only at hSw); go_simp <;> with_reducible rfl)
    simp only [Act.put, List.setIfInBounds_toArray, List.set_cons_zero, List.set_cons_succ]
    refine take_at (i := 5) (v := ?_) (some 28) rfl (by kernel_rfl) (by kernel_rfl) (by kernel_rfl) (fun _ _ _ h => h) (by kernel_rfl) (Or.inl ⟨by kernel_rfl, ?_⟩) (by assumption) ?_
    rotate_left
    · (intro w hSw; (try dsimp only at hSw); go_simp <;> with_reducible rfl)
    simp only [Act.put, List.setIfInBounds_toArray, List.set_cons_zero, List.set_cons_succ]
    refine take_at (i := 7) (v := ?_) (some 30) rfl (by kernel_rfl) (by kernel_rfl) (by kernel_rfl) (fun _ _ _ h => h) (by kernel_rfl) (Or.inl ⟨by kernel_rfl, ?_⟩) (by assumption) ?_
    rotate_left
    · (intro w hSw; (try dsimp only at hSw); go_simp <;> with_reducible rfl)
    simp only [Act.put, List.setIfInBounds_toArray, List.set_cons_zero, List.set_cons_succ]
    refine take_at (i := 9) (v := ?_) (some 32) rfl (by kernel_rfl) (by kernel_rfl) (by kernel_rfl) (fun _ _ _ h => h) (by kernel_rfl) (Or.inl ⟨by kernel_rfl, ?_⟩) (by assumption) ?_
    rotate_left
    · (intro w hSw; (try dsimp only at hSw); go_simp <;> with_reducible rfl)
    simp only [Act.put, List.setIfInBounds_toArray, List.set_cons_zero, List.set_cons_succ]
    refine wpAnyH_ready (rs := [4, 12]) (by kernel_rfl) (by simp) ?_
    refine AllReadyH.cons rfl (fun K hK => ?_) (AllReadyH.cons rfl (fun K hK => ?_) AllReadyH.nil)
    · go_simp
      go_at_call 67; (with_reducible refine (HH2.out _ (KS.out _ (below_drew (Below.refl _ _))).2).mono ?_); rintro e wz ⟨rfl, rfl⟩
      go_wp2_with fail
      clear hHeld
      refine hK.out _ _ (KS.out _ (below_drew (Below.refl _ _))) (fun hHeld => ?_)
      clear hK K
      try simp only [Act.put, List.setIfInBounds_toArray, List.set_cons_zero, List.set_cons_succ]
      refine wpAnyH_ready (rs := [6, 12]) (by kernel_rfl) (by simp) ?_
      refine AllReadyH.cons rfl (fun K hK => ?_) (AllReadyH.cons rfl (fun K hK => ?_) AllReadyH.nil)
      · go_simp
        go_at_call 67; (with_reducible refine (HH1.out _ (KS.out _ (below_drew (Below.refl _ _))).2).mono ?_); rintro e wz ⟨rfl, rfl⟩
        go_wp2_with fail
        clear hHeld
        refine hK.out _ _ (KS.out _ (below_drew (Below.refl _ _))) (fun hHeld => ?_)
        clear hK K
        try simp only [Act.put, List.setIfInBounds_toArray, List.set_cons_zero, List.set_cons_succ]
        refine wpAnyH_ready (rs := [8, 12]) (by kernel_rfl) (by simp) ?_
        refine AllReadyH.cons rfl (fun K hK => ?_) (AllReadyH.cons rfl (fun K hK => ?_) AllReadyH.nil)
        · go_simp
          go_at_call 67; (with_reducible refine (HH4.out _ (KS.out _ (below_drew (Below.refl _ _))).2).mono ?_); rintro e wz ⟨rfl, rfl⟩
          go_wp2_with fail
          clear hHeld
          refine hK.out _ _ (KS.out _ (below_drew (Below.refl _ _))) (fun hHeld => ?_)
          clear hK K
          try simp only [Act.put, List.setIfInBounds_toArray, List.set_cons_zero, List.set_cons_succ]
          refine wpAnyH_ready (rs := [10, 12]) (by kernel_rfl) (by simp) ?_
          refine AllReadyH.cons rfl (fun K hK => ?_) (AllReadyH.cons rfl (fun K hK => ?_) AllReadyH.nil)
          · go_simp
            go_at_call 67; (with_reducible refine (HH8.out _ (KS.out _ (below_drew (Below.refl _ _))).2).mono ?_); rintro e wz ⟨rfl, rfl⟩
            go_wp2_with fail
            clear hHeld
            refine hK.out _ _ (KS.out _ (below_drew (Below.refl _ _))) (fun hHeld => ?_)
            clear hK K
            try simp only [Act.put, List.setIfInBounds_toArray, List.set_cons_zero, List.set_cons_succ]
            refine take_at (i := 11) (v := ?_) (some 34) rfl (by kernel_rfl) (by kernel_rfl) (by kernel_rfl) (fun _ _ _ h => h) (by kernel_rfl) (Or.inl ⟨by kernel_rfl, ?_⟩) (by assumption) ?_
            rotate_left
            · (intro w hSw; (try dsimp only at hSw); go_simp <;> with_reducible rfl)
            simp only [Act.put, List.setIfInBounds_toArray, List.set_cons_zero, List.set_cons_succ]
            refine wpAnyH_ready (rs := [12]) (by kernel_rfl) (by simp) ?_
            refine AllReadyH.cons rfl (fun K hK => ?_) AllReadyH.nil
            go_simp
            clear hHeld
            refine hK.out _ _ (KS.out _ (below_drew ((Below.refl _ _).alloc (Nat.le_refl _) _))) (fun hHeld => ?_)
            clear hK K
            try simp only [Act.put, List.setIfInBounds_toArray, List.set_cons_zero, List.set_cons_succ]
            refine wpAnyH_ready (rs := [13]) (by kernel_rfl) (by simp) ?_
            refine AllReadyH.cons rfl (fun K hK => ?_) AllReadyH.nil
            refine wp_store_row 34 _ _ rfl w1.heap.size #[.bool true, .int .u32 0, .int .u16 0, .int .u32 0, .int .u32 0, .bool (decide (fl.toNat / 2 % 2 = 1)), .bool (decide (fl.toNat % 2 = 1)), .bool (decide (fl.toNat / 4 % 2 = 1)), .bool (decide (fl.toNat / 8 % 2 = 1)), .slice none 0 0] rfl rfl 34 _ (Whole.new w1 34 #[.bool false, .int .u32 0, .int .u16 0, .int .u32 0, .int .u32 0, .bool false, .bool false, .bool false, .bool false, .slice none 0 0]) (by kernel_rfl) rfl (by simp [Value.oneCell']) ?_
            clear hHeld
            refine hK.out _ _ (KS.out _ (below_setRow (below_drew ((Below.refl _ _).alloc (Nat.le_refl _) _)) (Nat.le_refl _) _)) (fun hHeld => ?_)
            clear hK K
            try simp only [Act.put, List.setIfInBounds_toArray, List.set_cons_zero, List.set_cons_succ]
            refine wpAnyH_done (by kernel_rfl) ?_ _
            exact hT _ _ _ _ _ _ _ _ _ _ _ _ _ _ _ _ _ _ _ _ _ _ _ _ _ _ _ _ _
          · go_simp
            clear hHeld
            refine hK.out _ _ (KS.out _ (below_drew ((Below.refl _ _).alloc (Nat.le_refl _) _))) (fun hHeld => ?_)
            clear hK K
            try simp only [Act.put, List.setIfInBounds_toArray, List.set_cons_zero, List.set_cons_succ]
            refine wpAnyH_ready (rs := [10]) (by kernel_rfl) (by simp) ?_
            refine AllReadyH.cons rfl (fun K hK => ?_) AllReadyH.nil
            go_simp
            go_at_call 67; (with_reducible refine (HH8.out _ (KS.out _ (below_drew ((Below.refl _ _).alloc (Nat.le_refl _) _))).2).mono ?_); rintro e wz ⟨rfl, rfl⟩
            go_wp2_with fail
            clear hHeld
            refine hK.out _ _ (KS.out _ (below_drew ((Below.refl _ _).alloc (Nat.le_refl _) _))) (fun hHeld => ?_)
            clear hK K
            try simp only [Act.put, List.setIfInBounds_toArray, List.set_cons_zero, List.set_cons_succ]
            refine take_at (i := 11) (v := ?_) (some 34) rfl (by kernel_rfl) (by kernel_rfl) (by kernel_rfl) (fun _ _ _ h => h) (by kernel_rfl) (Or.inl ⟨by kernel_rfl, ?_⟩) (by assumption) ?_
            rotate_left
            · (intro w hSw; (try dsimp only at hSw); go_simp <;> with_reducible rfl)
            simp only [Act.put, List.setIfInBounds_toArray, List.set_cons_zero, List.set_cons_succ]
            refine wpAnyH_ready (rs := [13]) (by kernel_rfl) (by simp) ?_
            refine AllReadyH.cons rfl (fun K hK => ?_) AllReadyH.nil
            refine wp_store_row 34 _ _ rfl w1.heap.size #[.bool true, .int .u32 0, .int .u16 0, .int .u32 0, .int .u32 0, .bool (decide (fl.toNat / 2 % 2 = 1)), .bool (decide (fl.toNat % 2 = 1)), .bool (decide (fl.toNat / 4 % 2 = 1)), .bool (decide (fl.toNat / 8 % 2 = 1)), .slice none 0 0] rfl rfl 34 _ (Whole.new w1 34 #[.bool false, .int .u32 0, .int .u16 0, .int .u32 0, .int .u32 0, .bool false, .bool false, .bool false, .bool false, .slice none 0 0]) (by kernel_rfl) rfl (by simp [Value.oneCell']) ?_
            clear hHeld
            refine hK.out _ _ (KS.out _ (below_setRow (below_drew ((Below.refl _ _).alloc (Nat.le_refl _) _)) (Nat.le_refl _) _)) (fun hHeld => ?_)
            clear hK K
            try simp only [Act.put, List.setIfInBounds_toArray, List.set_cons_zero, List.set_cons_succ]
            refine wpAnyH_done (by kernel_rfl) ?_ _
            exact hT _ _ _ _ _ _ _ _ _ _ _ _ _ _ _ _ _ _ _ _ _ _ _ _ _ _ _ _ _
        · go_simp
          clear hHeld
          refine hK.out _ _ (KS.out _ (below_drew ((Below.refl _ _).alloc (Nat.le_refl _) _))) (fun hHeld => ?_)
          clear hK K
          try simp only [Act.put, List.setIfInBounds_toArray, List.set_cons_zero, List.set_cons_succ]
          refine wpAnyH_ready (rs := [8]) (by kernel_rfl) (by simp) ?_
          refine AllReadyH.cons rfl (fun K hK => ?_) AllReadyH.nil
          go_simp
          go_at_call 67; (with_reducible refine (HH4.out _ (KS.out _ (below_drew ((Below.refl _ _).alloc (Nat.le_refl _) _))).2).mono ?_); rintro e wz ⟨rfl, rfl⟩
          go_wp2_with fail
          clear hHeld
          refine hK.out _ _ (KS.out _ (below_drew ((Below.refl _ _).alloc (Nat.le_refl _) _))) (fun hHeld => ?_)
          clear hK K
          try simp only [Act.put, List.setIfInBounds_toArray, List.set_cons_zero, List.set_cons_succ]
          refine wpAnyH_ready (rs := [10]) (by kernel_rfl) (by simp) ?_
          refine AllReadyH.cons rfl (fun K hK => ?_) AllReadyH.nil
          go_simp
          go_at_call 67; (with_reducible refine (HH8.out _ (KS.out _ (below_drew ((Below.refl _ _).alloc (Nat.le_refl _) _))).2).mono ?_); rintro e wz ⟨rfl, rfl⟩
          go_wp2_with fail
          clear hHeld
          refine hK.out _ _ (KS.out _ (below_drew ((Below.refl _ _).alloc (Nat.le_refl _) _))) (fun hHeld => ?_)
          clear hK K
          try simp only [Act.put, List.setIfInBounds_toArray, List.set_cons_zero, List.set_cons_succ]
          refine take_at (i := 11) (v := ?_) (some 34) rfl (by kernel_rfl) (by kernel_rfl) (by kernel_rfl) (fun _ _ _ h => h) (by kernel_rfl) (Or.inl ⟨by kernel_rfl, ?_⟩) (by assumption) ?_
          rotate_left
          · (intro w hSw; (try dsimp only at hSw); go_simp <;> with_reducible rfl)
          simp only [Act.put, List.setIfInBounds_toArray, List.set_cons_zero, List.set_cons_succ]
          refine wpAnyH_ready (rs := [13]) (by kernel_rfl) (by simp) ?_
          refine AllReadyH.cons rfl (fun K hK => ?_) AllReadyH.nil
          refine wp_store_row 34 _ _ rfl w1.heap.size #[.bool true, .int .u32 0, .int .u16 0, .int .u32 0, .int .u32 0, .bool (decide (fl.toNat / 2 % 2 = 1)), .bool (decide (fl.toNat % 2 = 1)), .bool (decide (fl.toNat / 4 % 2 = 1)), .bool (decide (fl.toNat / 8 % 2 = 1)), .slice none 0 0] rfl rfl 34 _ (Whole.new w1 34 #[.bool false, .int .u32 0, .int .u16 0, .int .u32 0, .int .u32 0, .bool false, .bool false, .bool false, .bool false, .slice none 0 0]) (by kernel_rfl) rfl (by simp [Value.oneCell']) ?_
          clear hHeld
          refine hK.out _ _ (KS.out _ (below_setRow (below_drew ((Below.refl _ _).alloc (Nat.le_refl _) _)) (Nat.le_refl _) _)) (fun hHeld => ?_)
          clear hK K
          try simp only [Act.put, List.setIfInBounds_toArray, List.set_cons_zero, List.set_cons_succ]
          refine wpAnyH_done (by kernel_rfl) ?_ _
          exact hT _ _ _ _ _ _ _ _ _ _ _ _ _ _ _ _ _ _ _ _ _ _ _ _ _ _ _ _ _
      · go_simp
        clear hHeld
        refine hK.out _ _ (KS.out _ (below_drew ((Below.refl _ _).alloc (Nat.le_refl _) _))) (fun hHeld => ?_)
        clear hK K
        try simp only [Act.put, List.setIfInBounds_toArray, List.set_cons_zero, List.set_cons_succ]
        refine wpAnyH_ready (rs := [6]) (by kernel_rfl) (by simp) ?_
        refine AllReadyH.cons rfl (fun K hK => ?_) AllReadyH.nil
        go_simp
        go_at_call 67; (with_reducible refine (HH1.out _ (KS.out _ (below_drew ((Below.refl _ _).alloc (Nat.le_refl _) _))).2).mono ?_); rintro e wz ⟨rfl, rfl⟩
        go_wp2_with fail
        clear hHeld
        refine hK.out _ _ (KS.out _ (below_drew ((Below.refl _ _).alloc (Nat.le_refl _) _))) (fun hHeld => ?_)
        clear hK K
        try simp only [Act.put, List.setIfInBounds_toArray, List.set_cons_zero, List.set_cons_succ]
        refine wpAnyH_ready (rs := [8]) (by kernel_rfl) (by simp) ?_
        refine AllReadyH.cons rfl (fun K hK => ?_) AllReadyH.nil
        go_simp
        go_at_call 67; (with_reducible refine (HH4.out _ (KS.out _ (below_drew ((Below.refl _ _).alloc (Nat.le_refl _) _))).2).mono ?_); rintro e wz ⟨rfl, rfl⟩
        go_wp2_with fail
        clear hHeld
        refine hK.out _ _ (KS.out _ (below_drew ((Below.refl _ _).alloc (Nat.le_refl _) _))) (fun hHeld => ?_)
        clear hK K
        try simp only [Act.put, List.setIfInBounds_toArray, List.set_cons_zero, List.set_cons_succ]
        refine wpAnyH_ready (rs := [10]) (by kernel_rfl) (by simp) ?_
        refine AllReadyH.cons rfl (fun K hK => ?_) AllReadyH.nil
        go_simp
        go_at_call 67; (with_reducible refine (HH8.out _ (KS.out _ (below_drew ((Below.refl _ _).alloc (Nat.le_refl _) _))).2).mono ?_); rintro e wz ⟨rfl, rfl⟩
        go_wp2_with fail
        clear hHeld
        refine hK.out _ _ (KS.out _ (below_drew ((Below.refl _ _).alloc (Nat.le_refl _) _))) (fun hHeld => ?_)
        clear hK K
        try simp only [Act.put, List.setIfInBounds_toArray, List.set_cons_zero, List.set_cons_succ]
        refine take_at (i := 11) (v := ?_) (some 34) rfl (by kernel_rfl) (by kernel_rfl) (by kernel_rfl) (fun _ _ _ h => h) (by kernel_rfl) (Or.inl ⟨by kernel_rfl, ?_⟩) (by assumption) ?_
        rotate_left
        · (intro w hSw; (try dsimp only at hSw); go_simp <;> with_reducible rfl)
        simp only [Act.put, List.setIfInBounds_toArray, List.set_cons_zero, List.set_cons_succ]
        refine wpAnyH_ready (rs := [13]) (by kernel_rfl) (by simp) ?_
        refine AllReadyH.cons rfl (fun K hK => ?_) AllReadyH.nil
        refine wp_store_row 34 _ _ rfl w1.heap.size #[.bool true, .int .u32 0, .int .u16 0, .int .u32 0, .int .u32 0, .bool (decide (fl.toNat / 2 % 2 = 1)), .bool (decide (fl.toNat % 2 = 1)), .bool (decide (fl.toNat / 4 % 2 = 1)), .bool (decide (fl.toNat / 8 % 2 = 1)), .slice none 0 0] rfl rfl 34 _ (Whole.new w1 34 #[.bool false, .int .u32 0, .int .u16 0, .int .u32 0, .int .u32 0, .bool false, .bool false, .bool false, .bool false, .slice none 0 0]) (by kernel_rfl) rfl (by simp [Value.oneCell']) ?_
        clear hHeld
        refine hK.out _ _ (KS.out _ (below_setRow (below_drew ((Below.refl _ _).alloc (Nat.le_refl _) _)) (Nat.le_refl _) _)) (fun hHeld => ?_)
        clear hK K
        try simp only [Act.put, List.setIfInBounds_toArray, List.set_cons_zero, List.set_cons_succ]
        refine wpAnyH_done (by kernel_rfl) ?_ _
        exact hT _ _ _ _ _ _ _ _ _ _ _ _ _ _ _ _ _ _ _ _ _ _ _ _ _ _ _ _ _
    · go_simp
      clear hHeld
      refine hK.out _ _ (KS.out _ (below_drew ((Below.refl _ _).alloc (Nat.le_refl _) _))) (fun hHeld => ?_)
      clear hK K
      try simp only [Act.put, List.setIfInBounds_toArray, List.set_cons_zero, List.set_cons_succ]
      refine wpAnyH_ready (rs := [4]) (by kernel_rfl) (by simp) ?_
      refine AllReadyH.cons rfl (fun K hK => ?_) AllReadyH.nil
      go_simp
      go_at_call 67; (with_reducible refine (HH2.out _ (KS.out _ (below_drew ((Below.refl _ _).alloc (Nat.le_refl _) _))).2).mono ?_); rintro e wz ⟨rfl, rfl⟩
      go_wp2_with fail
      clear hHeld
      refine hK.out _ _ (KS.out _ (below_drew ((Below.refl _ _).alloc (Nat.le_refl _) _))) (fun hHeld => ?_)
      clear hK K
      try simp only [Act.put, List.setIfInBounds_toArray, List.set_cons_zero, List.set_cons_succ]
      refine wpAnyH_ready (rs := [6]) (by kernel_rfl) (by simp) ?_
      refine AllReadyH.cons rfl (fun K hK => ?_) AllReadyH.nil
      go_simp
      go_at_call 67; (with_reducible refine (HH1.out _ (KS.out _ (below_drew ((Below.refl _ _).alloc (Nat.le_refl _) _))).2).mono ?_); rintro e wz ⟨rfl, rfl⟩
      go_wp2_with fail
      clear hHeld
      refine hK.out _ _ (KS.out _ (below_drew ((Below.refl _ _).alloc (Nat.le_refl _) _))) (fun hHeld => ?_)
      clear hK K
      try simp only [Act.put, List.setIfInBounds_toArray, List.set_cons_zero, List.set_cons_succ]
      refine wpAnyH_ready (rs := [8]) (by kernel_rfl) (by simp) ?_
      refine AllReadyH.cons rfl (fun K hK => ?_) AllReadyH.nil
      go_simp
      go_at_call 67; (with_reducible refine (HH4.out _ (KS.out _ (below_drew ((Below.refl _ _).alloc (Nat.le_refl _) _))).2).mono ?_); rintro e wz ⟨rfl, rfl⟩
      go_wp2_with fail
      clear hHeld
      refine hK.out _ _ (KS.out _ (below_drew ((Below.refl _ _).alloc (Nat.le_refl _) _))) (fun hHeld => ?_)
      clear hK K
      try simp only [Act.put, List.setIfInBounds_toArray, List.set_cons_zero, List.set_cons_succ]
      refine wpAnyH_ready (rs := [10]) (by kernel_rfl) (by simp) ?_
      refine AllReadyH.cons rfl (fun K hK => ?_) AllReadyH.nil
      go_simp
      go_at_call 67; (with_reducible refine (HH8.out _ (KS.out _ (below_drew ((Below.refl _ _).alloc (Nat.le_refl _) _))).2).mono ?_); rintro e wz ⟨rfl, rfl⟩
      go_wp2_with fail
      clear hHeld
      refine hK.out _ _ (KS.out _ (below_drew ((Below.refl _ _).alloc (Nat.le_refl _) _))) (fun hHeld => ?_)
      clear hK K
      try simp only [Act.put, List.setIfInBounds_toArray, List.set_cons_zero, List.set_cons_succ]
      refine take_at (i := 11) (v := ?_) (some 34) rfl (by kernel_rfl) (by kernel_rfl) (by kernel_rfl) (fun _ _ _ h => h) (by kernel_rfl) (Or.inl ⟨by kernel_rfl, ?_⟩) (by assumption) ?_
      rotate_left
      · (intro w hSw; (try dsimp only at hSw); go_simp <;> with_reducible rfl)
      simp only [Act.put, List.setIfInBounds_toArray, List.set_cons_zero, List.set_cons_succ]
      refine wpAnyH_ready (rs := [13]) (by kernel_rfl) (by simp) ?_
      refine AllReadyH.cons rfl (fun K hK => ?_) AllReadyH.nil
      refine wp_store_row 34 _ _ rfl w1.heap.size #[.bool true, .int .u32 0, .int .u16 0, .int .u32 0, .int .u32 0, .bool (decide (fl.toNat / 2 % 2 = 1)), .bool (decide (fl.toNat % 2 = 1)), .bool (decide (fl.toNat / 4 % 2 = 1)), .bool (decide (fl.toNat / 8 % 2 = 1)), .slice none 0 0] rfl rfl 34 _ (Whole.new w1 34 #[.bool false, .int .u32 0, .int .u16 0, .int .u32 0, .int .u32 0, .bool false, .bool false, .bool false, .bool false, .slice none 0 0]) (by kernel_rfl) rfl (by simp [Value.oneCell']) ?_
      clear hHeld
      refine hK.out _ _ (KS.out _ (below_setRow (below_drew ((Below.refl _ _).alloc (Nat.le_refl _) _)) (Nat.le_refl _) _)) (fun hHeld => ?_)
      clear hK K
      try simp only [Act.put, List.setIfInBounds_toArray, List.set_cons_zero, List.set_cons_succ]
      refine wpAnyH_done (by kernel_rfl) ?_ _
      exact hT _ _ _ _ _ _ _ _ _ _ _ _ _ _ _ _ _ _ _ _ _ _ _ _ _ _ _ _ _
  have hLn : 17 ≤ d.length := HL.out.1
  have hLn2 : d.length ≤ 65531 := HL.out.2
  intro u0 u4 u8 u9 u10 u11 u12 u13 u14 u15 u16 u17 u18 u19 u20 u21 u22 u23 u24 u25 u26 u27 u28 u29 u30 u31 u32 u33 u34
  have hp3 := (Whole.new w1 34 #[.bool false, .int .u32 0, .int .u16 0, .int .u32 0, .int .u32 0, .bool false, .bool false, .bool false, .bool false, .slice none 0 0]).setRow #[.bool true, .int .u32 0, .int .u16 0, .int .u32 0, .int .u32 0, .bool (decide (fl.toNat / 2 % 2 = 1)), .bool (decide (fl.toNat % 2 = 1)), .bool (decide (fl.toNat / 4 % 2 = 1)), .bool (decide (fl.toNat / 8 % 2 = 1)), .slice none 0 0]
  have hp3 : Whole (((w1.alloc (.cells #[.bool false, .int .u32 0, .int .u16 0, .int .u32 0, .int .u32 0, .bool false, .bool false, .bool false, .bool false, .slice none 0 0] 34)).drew).setRow w1.heap.size #[.bool true, .int .u32 0, .int .u16 0, .int .u32 0, .int .u32 0, .bool (decide (fl.toNat / 2 % 2 = 1)), .bool (decide (fl.toNat % 2 = 1)), .bool (decide (fl.toNat / 4 % 2 = 1)), .bool (decide (fl.toNat / 8 % 2 = 1)), .slice none 0 0]) w1.heap.size 34 #[.bool true, .int .u32 0, .int .u16 0, .int .u32 0, .int .u32 0, .bool (decide (fl.toNat / 2 % 2 = 1)), .bool (decide (fl.toNat % 2 = 1)), .bool (decide (fl.toNat / 4 % 2 = 1)), .bool (decide (fl.toNat / 8 % 2 = 1)), .slice none 0 0] := hp3
  have hb3 : Below w1.heap.size w1 (((w1.alloc (.cells #[.bool false, .int .u32 0, .int .u16 0, .int .u32 0, .int .u32 0, .bool false, .bool false, .bool false, .bool false, .slice none 0 0] 34)).drew).setRow w1.heap.size #[.bool true, .int .u32 0, .int .u16 0, .int .u32 0, .int .u32 0, .bool (decide (fl.toNat / 2 % 2 = 1)), .bool (decide (fl.toNat % 2 = 1)), .bool (decide (fl.toNat / 4 % 2 = 1)), .bool (decide (fl.toNat / 8 % 2 = 1)), .slice none 0 0]) := below_setRow (below_drew ((Below.refl _ _).alloc (Nat.le_refl _) _)) (Nat.le_refl _) _
  generalize (((w1.alloc (.cells #[.bool false, .int .u32 0, .int .u16 0, .int .u32 0, .int .u32 0, .bool false, .bool false, .bool false, .bool false, .slice none 0 0] 34)).drew).setRow w1.heap.size #[.bool true, .int .u32 0, .int .u16 0, .int .u32 0, .int .u32 0, .bool (decide (fl.toNat / 2 % 2 = 1)), .bool (decide (fl.toNat % 2 = 1)), .bool (decide (fl.toNat / 4 % 2 = 1)), .bool (decide (fl.toNat / 8 % 2 = 1)), .slice none 0 0]) = w3 at *
  have hx3 := hx2.out.on hb3
  have hs3 := hp3.lt
  have HN := Lib.hid (new_any A c d w3 hx3.data hcd hmd (by omega))
  have c3 : w3.cell? ⟨w.heap.size, 2, none⟩ = some (.slice A d.length c) := (x1.below hb3).c2
  go_wp2_with fail
  refine HN.out.mono ?_
  rintro e w4 ⟨g, A2, c2, rfl, r4, b4⟩
  have hs4 := b4.size
  have hg4 := r4.whole.lt
  have hgb := r4.base_le
  have b45 : Below w4.heap.size w4 (w4.alloc (.cells #[.pointer (some ⟨g, 0, none⟩)] 104)) := (Below.refl _ _).alloc (Nat.le_refl _) _
  have o5 : OfI w1 w1.heap.size w3.heap.size g A2 c2 d w4.heap.size w1.heap.size 0 #[.bool true, .int .u32 0, .int .u16 0, .int .u32 0, .int .u32 0, .bool (decide (fl.toNat / 2 % 2 = 1)), .bool (decide (fl.toNat % 2 = 1)), .bool (decide (fl.toNat / 4 % 2 = 1)), .bool (decide (fl.toNat / 8 % 2 = 1)), .slice none 0 0] (w4.alloc (.cells #[.pointer (some ⟨g, 0, none⟩)] 104)) := ⟨r4.below b45, Boxed.new w4 _ _, (hp3.below b4 hs3).below b45 (by omega), hb3.trans ((b4.mono (by omega)).trans (b45.mono (by omega))), by omega, Nat.le_refl _, by omega, by omega, by omega⟩
  have X1 := Lib.hid x1
  have X3 := Lib.hid hb3
  have Y1 := Lib.hid y1
  clear r4 b45 c3 HN hx3 x1 y1 hp3 hb3 hx2 KS HH1 HH2 HH4 HH8 b4
  have n6 : Calls Tryz.prog 69 #[.int .i64 4, .pointer (some ⟨w4.heap.size, 0, none⟩)] _ fun e W' => e = .returned (uv (nrd d 0 4)) ∧ OfI w1 w1.heap.size w3.heap.size g A2 c2 d w4.heap.size w1.heap.size 4 _ W' := o5.nx 4 rfl (by omega)
  go_wp2_with fail
  refine n6.mono ?_
  rintro e w6 ⟨rfl, o6⟩
  clear n6
  have z6 := o6.fz 1
  have k6 : w6.cell? ⟨w1.heap.size, 1, none⟩ = some (.int .u32 0) := by rw [o6.pt.cell]; rfl
  have p6 := o6.set 1 (uv (nrd d 0 4))
  have n7 : Calls Tryz.prog 69 #[.int .i64 2, .pointer (some ⟨w4.heap.size, 0, none⟩)] _ fun e W' => e = .returned (uv (nrd d 4 2)) ∧ OfI w1 w1.heap.size w3.heap.size g A2 c2 d w4.heap.size w1.heap.size 6 _ W' := p6.nx 2 rfl (by omega)
  go_wp2_with fail
  refine n7.mono ?_
  rintro e w7 ⟨rfl, o7⟩
  clear n7
  have z7 := o7.fz 2
  have k7 : w7.cell? ⟨w1.heap.size, 2, none⟩ = some (.int .u16 0) := by rw [o7.pt.cell]; rfl
  have p7 := o7.set 2 (.int .u16 (IntKind.u16.wrap ((nrd d 4 2).toNat : Int)))
  have n8 : Calls Tryz.prog 69 #[.int .i64 2, .pointer (some ⟨w4.heap.size, 0, none⟩)] _ fun e W' => e = .returned (uv (nrd d 6 2)) ∧ OfI w1 w1.heap.size w3.heap.size g A2 c2 d w4.heap.size w1.heap.size 8 _ W' := p7.nx 2 rfl (by omega)
  go_wp2_with fail
  refine n8.mono ?_
  rintro e w8 ⟨rfl, o8⟩
  clear n8
  have z8 := o8.fz 3
  have k8 : w8.cell? ⟨w1.heap.size, 3, none⟩ = some (.int .u32 0) := by rw [o8.pt.cell]; rfl
  have p8 := o8.set 3 (uv (nrd d 6 2))
  have m9 : (w8.setCell ⟨w1.heap.size, 3, none⟩ (uv (nrd d 6 2))).cell? ⟨w1.heap.size, 0, none⟩ = some (.bool true) := by rw [p8.pt.cell]; rfl
  have n9 : Calls Tryz.prog 69 #[.int .i64 4, .pointer (some ⟨w4.heap.size, 0, none⟩)] _ fun e W' => e = .returned (uv (nrd d 8 4)) ∧ OfI w1 w1.heap.size w3.heap.size g A2 c2 d w4.heap.size w1.heap.size 12 _ W' := p8.nx 4 rfl (by omega)
  go_wp2_with fail
  refine n9.mono ?_
  rintro e w9 ⟨rfl, o9⟩
  clear n9
  have z9 := o9.fz 3
  have k9 : w9.cell? ⟨w1.heap.size, 3, none⟩ = some (uv (nrd d 6 2)) := by rw [o9.pt.cell]; rfl
  have p9 := o9.set 3 (uv (nrd d 8 4))
  have n10 : Calls Tryz.prog 69 #[.int .i64 4, .pointer (some ⟨w4.heap.size, 0, none⟩)] _ fun e W' => e = .returned (uv (nrd d 12 4)) ∧ OfI w1 w1.heap.size w3.heap.size g A2 c2 d w4.heap.size w1.heap.size 16 _ W' := p9.nx 4 rfl (by omega)
  go_wp2_with fail
  refine n10.mono ?_
  rintro e w10 ⟨rfl, o10⟩
  clear n10
  have z10 := o10.fz 4
  have k10 : w10.cell? ⟨w1.heap.size, 4, none⟩ = some (.int .u32 0) := by rw [o10.pt.cell]; rfl
  have p10 := o10.set 4 (uv (nrd d 12 4))
  go_upto_region 13 with fail
  generalize hWL : (w10.setCell ⟨w1.heap.size, 4, none⟩ (uv (nrd d 12 4))) = wL at *
  clear hWL
  have oL : OfI w1 w1.heap.size w3.heap.size g A2 c2 d w4.heap.size w1.heap.size 16 #[.bool true, uv (nrd d 0 4), .int .u16 (IntKind.u16.wrap ((nrd d 4 2).toNat : Int)), uv (nrd d 8 4), uv (nrd d 12 4), .bool (decide (fl.toNat / 2 % 2 = 1)), .bool (decide (fl.toNat % 2 = 1)), .bool (decide (fl.toNat / 4 % 2 = 1)), .bool (decide (fl.toNat / 8 % 2 = 1)), .slice none 0 0] wL := p10
  have oD := oL.drew
  obtain ⟨nn, hnn⟩ : ∃ nn, nn = d.length - 16 := ⟨_, rfl⟩
  have HLe := left_any oD.rd
  rw [show (d.length : Int) - ((16 : Nat) : Int) = ((nn : Nat) : Int) by omega] at HLe
  have HT := Lib.hid (fun q => take_yes (oL.drewN (1 + q)).rd nn (by omega))
  have HN1 := Lib.hid hnn
  have HE := Lib.hid HLe
  clear hnn HLe
  refine wp_region_held_drew (S := (fun W => W.cell? ⟨w4.heap.size, 0, none⟩ = some (.pointer (some ⟨g, 0, none⟩)))) (by kernel_rfl) (oD.bx.cell) (fun hHeld => ?_)
  refine take_at (i := 0) (v := ?_) (some 58) rfl (by kernel_rfl) (by kernel_rfl) (by kernel_rfl) (fun _ _ _ h => h) (by kernel_rfl) (Or.inl ⟨by kernel_rfl, ?_⟩) (by assumption) ?_
  rotate_left
  · (intro w hSw; (try dsimp only at hSw); go_simp <;> with_reducible rfl)
  simp only [Act.put, List.setIfInBounds_toArray, List.set_cons_zero, List.set_cons_succ]
  refine take_at (i := 1) (v := ?_) (some 59) rfl (by kernel_rfl) (by kernel_rfl) (by kernel_rfl) (fun _ _ _ h => h) (by kernel_rfl) (Or.inl ⟨by kernel_rfl, ?_⟩) (by assumption) ?_
  rotate_left
  · (intro w hSw; (try dsimp only at hSw); go_simp <;> with_reducible rfl)
  simp only [Act.put, List.setIfInBounds_toArray, List.set_cons_zero, List.set_cons_succ]
  refine wpAnyH_ready (rs := [2]) (by kernel_rfl) (by simp) ?_
  refine AllReadyH.cons rfl (fun K hK => ?_) AllReadyH.nil
  go_simp
  go_at_call 72; (with_reducible refine HE.out.mono ?_); rintro e wq ⟨rfl, q, rfl⟩
  go_wp2_with fail
  clear hHeld
  refine hK.out _ _ ((oL.drewN (1 + q)).bx.cell) (fun hHeld => ?_)
  clear hK K
  try simp only [Act.put, List.setIfInBounds_toArray, List.set_cons_zero, List.set_cons_succ]
  refine wpAnyH_ready (rs := [3]) (by kernel_rfl) (by simp) ?_
  refine AllReadyH.cons rfl (fun K hK => ?_) AllReadyH.nil
  go_simp
  go_at_call 71; (with_reducible refine (HT.out q).mono ?_); rintro e wT ⟨A3, c3, rfl, own3, rT, gT⟩; have oT := (oL.drewN (1 + q)).next rT gT; have zT := oT.fz 9; have kT : wT.cell? ⟨w1.heap.size, 9, none⟩ = some (.slice none 0 0) := by rw [oT.pt.cell]; rfl
  go_wp2_with fail
  clear hHeld
  refine hK.out _ _ (oT.bx.cell) (fun hHeld => ?_)
  clear hK K
  try simp only [Act.put, List.setIfInBounds_toArray, List.set_cons_zero, List.set_cons_succ]
  refine take_at (i := 4) (v := ?_) (some 57) rfl (by kernel_rfl) (by kernel_rfl) (by kernel_rfl) (fun _ _ _ h => h) (by kernel_rfl) (Or.inl ⟨by kernel_rfl, ?_⟩) (by assumption) ?_
  rotate_left
  · (intro w hSw; (try dsimp only at hSw); go_simp <;> with_reducible rfl)
  simp only [Act.put, List.setIfInBounds_toArray, List.set_cons_zero, List.set_cons_succ]
  refine take_at (i := 5) (v := ?_) (some 62) rfl (by kernel_rfl) (by kernel_rfl) (by kernel_rfl) (fun _ _ _ h => h) (by kernel_rfl) (Or.inl ⟨by kernel_rfl, ?_⟩) (by assumption) ?_
  rotate_left
  · (intro w hSw; (try dsimp only at hSw); go_simp <;> with_reducible rfl)
  simp only [Act.put, List.setIfInBounds_toArray, List.set_cons_zero, List.set_cons_succ]
  refine take_at (i := 6) (v := ?_) (some 63) rfl (by kernel_rfl) (by kernel_rfl) (by kernel_rfl) (fun _ _ _ h => h) (by kernel_rfl) (Or.inl ⟨by kernel_rfl, ?_⟩) (by assumption) ?_
  rotate_left
  · (intro w hSw; (try dsimp only at hSw); go_simp <;> with_reducible rfl)
  simp only [Act.put, List.setIfInBounds_toArray, List.set_cons_zero, List.set_cons_succ]
  refine take_at (i := 7) (v := ?_) (some 64) rfl (by kernel_rfl) (by kernel_rfl) (by kernel_rfl) (fun _ _ _ h => h) (by kernel_rfl) (Or.inl ⟨by kernel_rfl, ?_⟩) (by assumption) ?_
  rotate_left
  · (intro w hSw; (try dsimp only at hSw); go_simp <;> with_reducible rfl)
  simp only [Act.put, List.setIfInBounds_toArray, List.set_cons_zero, List.set_cons_succ]
  refine wpAnyH_ready (rs := [8]) (by kernel_rfl) (by simp) ?_
  refine AllReadyH.cons rfl (fun K hK => ?_) AllReadyH.nil
  go_simp
  clear hHeld
  refine hK.out _ _ ((oT.set 9 _).bx.cell) (fun hHeld => ?_)
  clear hK K
  try simp only [Act.put, List.setIfInBounds_toArray, List.set_cons_zero, List.set_cons_succ]
  refine wpAnyH_done (by kernel_rfl) ?_ _
  skip
  have oF := oT.set 9 (.slice A3 nn c3)
  have ownF : (wT.setCell ⟨w1.heap.size, 9, none⟩ (.slice A3 nn c3)).ownsRow _ 5 1 (.slice A3 nn c3) nn _ := own_set13 own3 oT.pt (by decide)
  have hpF : Whole (wT.setCell ⟨w1.heap.size, 9, none⟩ (.slice A3 nn c3)) w1.heap.size 34 #[.bool true, uv (nrd d 0 4), .int .u16 (IntKind.u16.wrap ((nrd d 4 2).toNat : Int)), uv (nrd d 8 4), uv (nrd d 12 4), .bool (decide (fl.toNat / 2 % 2 = 1)), .bool (decide (fl.toNat % 2 = 1)), .bool (decide (fl.toNat / 4 % 2 = 1)), .bool (decide (fl.toNat / 8 % 2 = 1)), .slice A3 nn c3] := oF.pt
  have hlF := oF.low
  have hyF : Whole (wT.setCell ⟨w1.heap.size, 9, none⟩ (.slice A3 nn c3)) (w.heap.size + 1) 34 #[.bool false, .int .u32 0, .int .u16 0, .int .u32 0, .int .u32 0, .bool false, .bool false, .bool false, .bool false, .slice none 0 0] := Y1.out.below hlF (by omega)
  clear oF oT zT kT own3 rT gT HT HE oL oD
  generalize wT.setCell ⟨w1.heap.size, 9, none⟩ (.slice A3 nn c3) = wF at *
  go_wp2_with (first | (refine wpList_load_row rfl 34 _ rfl w1.heap.size rfl 34 #[.bool true, uv (nrd d 0 4), .int .u16 (IntKind.u16.wrap ((nrd d 4 2).toNat : Int)), uv (nrd d 8 4), uv (nrd d 12 4), .bool (decide (fl.toNat / 2 % 2 = 1)), .bool (decide (fl.toNat % 2 = 1)), .bool (decide (fl.toNat / 4 % 2 = 1)), .bool (decide (fl.toNat / 8 % 2 = 1)), .slice A3 nn c3] (0, 0) _ hpF Tryz.underlying34 rfl (by kernel_rfl) ?_) | (refine wpList_store_row rfl 34 _ _ rfl (w.heap.size + 1) #[.bool true, uv (nrd d 0 4), .int .u16 (IntKind.u16.wrap ((nrd d 4 2).toNat : Int)), uv (nrd d 8 4), uv (nrd d 12 4), .bool (decide (fl.toNat / 2 % 2 = 1)), .bool (decide (fl.toNat % 2 = 1)), .bool (decide (fl.toNat / 4 % 2 = 1)), .bool (decide (fl.toNat / 8 % 2 = 1)), .slice A3 nn c3] rfl rfl _ _ hyF (by kernel_rfl) rfl (by simp [Value.oneCell']) ?_) | fail)
  (try simp only [Exit.inBlock, Exit.then])
  refine bodyPost_ret (results_row_tmp rfl _ _ (w.heap.size + 1) 34 _ _ rfl (hyF.setRow _) Tryz.underlying34 rfl (by kernel_rfl)) rfl ?_
  have hst := u16wrap (nrd d 4 2).toNat
  have htk : (d.drop 16).take nn = d.drop 16 := List.take_of_length_le (by rw [List.length_drop, HN1.out]; omega)
  have hln : (d.drop 16).length = nn := by rw [List.length_drop, HN1.out]
  unfold OfR ofP
  rw [HD.out, if_pos rfl]
  have hcp := own_cap ownF
  rw [htk] at ownF
  refine ⟨below_setRow (B1.out.trans (hlF.mono (by omega))) (Nat.le_succ _) _, A3, c3, ?_, ?_⟩
  · rw [hst]
    show Ending.returned (.tuple #[.agg #[.bool true, uv (nrd d 0 4), hv (UInt16.ofNat (nrd d 4 2).toNat), uv (nrd d 8 4), uv (nrd d 12 4), .bool (decide (fl.toNat / 2 % 2 = 1)), .bool (decide (fl.toNat % 2 = 1)), .bool (decide (fl.toNat / 4 % 2 = 1)), .bool (decide (fl.toNat / 8 % 2 = 1)), .slice A3 nn c3], .bool true]) = .returned (.tuple #[ptV (ptOf ⟨64, fl, d, []⟩) A3 c3, .bool true])
    rw [← hln]
    rfl
  · have hL9 : Lies wF wF.heap.size A3 ((d.drop 16).map bv) := Lies.own ownF
    have hsz9 : (wF.setRow (w.heap.size + 1) #[.bool true, uv (nrd d 0 4), .int .u16 (IntKind.u16.wrap ((nrd d 4 2).toNat : Int)), uv (nrd d 8 4), uv (nrd d 12 4), .bool (decide (fl.toNat / 2 % 2 = 1)), .bool (decide (fl.toNat % 2 = 1)), .bool (decide (fl.toNat / 4 % 2 = 1)), .bool (decide (fl.toNat / 8 % 2 = 1)), .slice A3 nn c3]).heap.size = wF.heap.size := by simp
    refine ⟨?_, by show (d.drop 16).length ≤ c3; rw [hln]; exact hcp.2.1, hcp.2.2⟩
    show Lies _ _ A3 ((d.drop 16).map bv)
    rw [hsz9]
    exact lies_setRow13 hL9 (whole_row_ne hyF (by decide) ownF) _
theorem dof_any (x : Ck) (hf : CkFine x) (A : Option Addr) (c : Nat) (K : Option Addr) (k : Nat) (w : World) (h : Chunk w w.heap.size A c K k x) (hh : Handle w) :
    Calls Tryz.prog 19 #[ckV x A c K k] w (OfR x w) := by
  cases hd : isD x with
  | false => exact of_no x hf hd A c K k w h hh
  | true =>
    have hk := isD_ks hd
    have ht := (isD_parts hd).1
    obtain ⟨t, fl, d, ks⟩ := x
    simp only at hk ht
    subst hk
    rcases ht with rfl | rfl
    · exact of_data fl d hd A c K k w h hh
    · exact of_idata fl d hd A c K k w h hh
end Go.Proofs.YtdcppcoldaaldaaGreatDoor


