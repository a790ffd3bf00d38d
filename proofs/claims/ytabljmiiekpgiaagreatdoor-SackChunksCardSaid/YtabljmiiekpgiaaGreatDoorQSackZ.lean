/- Layer 14: the law SackChunks (written by tools/gen_sack_z.py). It writes nothing that was there. -/
import Derived.Test.YtabljmiiekpgiaaGreatDoorQSKU
import Derived.Test.YtabljmiiekpgiaaGreatDoorQCR
import Derived.Test.YtabljmiiekpgiaaGreatDoorQCT
import Derived.Test.YtabljmiiekpgiaaGreatDoorQCO
import Derived.Test.YtabljmiiekpgiaaGreatDoorQCX
import Derived.Test.YtabljmiiekpgiaaGreatDoorQCL
import Derived.Test.YtabljmiiekpgiaaGreatDoorQNW
import Derived.Test.YtabljmiiekpgiaaGreatDoorQNS
import Derived.Test.YtabljmiiekpgiaaGreatDoorQNodeUO
import Derived.BigGuard
import Derived.Deep.RegionHeld3











namespace Go.Proofs.YtabljmiiekpgiaaGreatDoor
open Go.ChangeShapes Go.WideShapes Go.ChangeAt Go.RowKit

set_option linter.unusedSimpArgs false
theorem ckEq_selfZ (a : Ck) : ckEq a a = true := by
  unfold ckEq
  rw [beqL_true rfl]
  simp
theorem isS_yes {x : Ck} (h1 : x.t = 3) (h2 : chkC x = 0) : isS x = true := by unfold isS; rw [decide_eq_true h1, decide_eq_true h2]; rfl
/-- an empty description of whatever slices is the zero one -/
theorem zero14_same (G : Option Addr) (gc : Nat) (D : Option Addr) (dc : Nat) (w : World) (h : SkL w w.heap.size G gc D dc ⟨0, 0, [], []⟩) :
    Calls Tryz.prog 20 #[.agg #[.int .u32 0, .int .u32 0, .slice G 0 gc, .slice D 0 dc], .agg #[.int .u32 0, .int .u32 0, .slice none 0 0, .slice none 0 0]] w fun e w' => e = .returned (.bool true) ∧ Below w.heap.size w w' :=
  rsame14_self ⟨0, 0, [], []⟩ G gc D dc none 0 none 0 w h ⟨⟨Lies.nil, Nat.le_refl _, Nat.zero_le _⟩, Lies.nil, Nat.le_refl _, Nat.zero_le _⟩
theorem zero14_back (G : Option Addr) (gc : Nat) (D : Option Addr) (dc : Nat) (w : World) (h : SkL w w.heap.size G gc D dc ⟨0, 0, [], []⟩) :
    Calls Tryz.prog 21 #[.agg #[.int .u32 0, .int .u32 0, .slice G 0 gc, .slice D 0 dc]] w fun e w' => Below w.heap.size w w' ∧ ∃ G' gc' D' dc', e = .returned (.agg #[.int .u32 0, .int .u32 0, .slice G' 0 gc', .slice D' 0 dc']) ∧ SkL w' w'.heap.size G' gc' D' dc' ⟨0, 0, [], []⟩ :=
  back14_any ⟨0, 0, [], []⟩ G gc D dc w h (by simp) (by simp)
set_option maxRecDepth 100000 in
set_option maxHeartbeats 16000000 in
theorem sch_law (x : Ck) (hk : x.ks.length ≤ 9223372036854775807) (hb : ∀ n ∈ x.ks, Bnd n) (A : Option Addr) (c : Nat) (K : Option Addr) (k : Nat) (w : World) (h : Chunk w w.heap.size A c K k x) (hh : Handle w) :
    Calls Tryz.prog 4 #[ckV x A c K k] w fun e w' => e = .returned (.bool true) ∧ Below w.heap.size w w' := by
  have b0 : Below w.heap.size w (w.alloc (.cells (ckCells x A c K k) 33)) := (Below.refl _ w).alloc (Nat.le_refl _) _
  have x0 := CkBox.new w x A c K k
  have hx0 := h.on b0
  have H0 := hh.below b0 hh.lt
  have hF := rfew12 x hk hb A c K k
  have HH := Lib.hid hh
  have HK := Lib.hid hk
  clear hk hb h hh
  go_enter Tryz.func4, Tryz.ntmps4
  go_wp2_with fail
  generalize w.alloc (.cells (ckCells x A c K k) 33) = w0 at *
  refine (awake14_any w0 H0).mono ?_
  rintro e w1 ⟨rfl, b1⟩
  have B1 := b0.trans (b1.mono b0.size)
  have x1 := x0.below b1
  have hx1 := hx0.on b1
  have hF1 := hF w1 hx1
  obtain ⟨q0, q1, q2, q3⟩ := x1.cs
  cases hf : fewB x with
  | false =>
    rw [hf] at hF1
    clear hf hF
    go_wp2_with fail
    refine hF1.mono ?_
    rintro e w2 ⟨rfl, b2⟩
    have B2 := B1.trans (b2.mono B1.size)
    go_wp2_with fail
    refine (awake14_any w2 (HH.out.below B2 HH.out.lt)).mono ?_
    rintro e w3 ⟨rfl, b3⟩
    go_wp2_with fail
    go_ret
    exact ⟨rfl, B2.trans (b3.mono B2.size)⟩
  | true =>
    obtain ⟨hfine, hd7, hk2, hsz⟩ := ck_fine hf
    rw [hf] at hF1
    clear hf hF
    go_wp2_with fail
    refine hF1.mono ?_
    rintro e w2 ⟨rfl, b2⟩
    have B2 := B1.trans (b2.mono B1.size)
    have x2 := x1.below b2
    have hx2 := hx1.on b2
    clear q0 q1 q2 q3 hF1 x0 x1 hx0 hx1 H0
    obtain ⟨q0, q1, q2, q3⟩ := x2.cs
    by_cases ht : x.t = 3
    · by_cases hc : chkC x = 0
      · have hS := isS_yes ht hc
        obtain ⟨h1, h2, h3, hdl, hdl2⟩ := isS_all hS
        obtain ⟨hsC, hsk⟩ := skC_skOf hS
        have hsg : (skOf x).gs.length ≤ 16379 ∧ (skOf x).ds.length ≤ 16379 := by
          unfold okS at hsk
          rw [decide_eq_true_eq] at hsk
          omega
        have hOf : Calls Tryz.prog 17 #[ckV x A c K k] w2 fun e w' => Below w2.heap.size w2 w' ∧ ∃ G gc D dc, e = .returned (.tuple #[skV (skOf x) G gc D dc, .bool true]) ∧ SkL w' w'.heap.size G gc D dc (skOf x) := Calls.mono (R := OfS x w2) (sof_any x hfine A c K k w2 hx2 (HH.out.below B2 HH.out.lt)) fun e w' h => by
          rw [← hsC] at h
          have h9 := ofS_ck hsk h
          exact h9
        have HCk : Hid (∀ V, Below w2.heap.size w2 V → Calls Tryz.prog 25 #[ckV x A c K k] V fun e w' => e = .returned (.int .i64 0) ∧ Below V.heap.size V w') := Lib.hid (fun V hV => by
          have h9 := rcheck12 x hfine A c K k V (hx2.on hV)
          rw [hc] at h9
          exact h9)
        have HMk : Hid (∀ G' gc' D' dc' V, SkL V V.heap.size G' gc' D' dc' (skOf x) → Calls Tryz.prog 15 #[skV (skOf x) G' gc' D' dc'] V fun e w' => Below V.heap.size V w' ∧ ∃ A' c', e = .returned (.tuple #[ckV x A' c' none 0, .bool true]) ∧ Chunk w' w'.heap.size A' c' none 0 x) := Lib.hid (fun G' gc' D' dc' V hV => Calls.mono (R := MkS (skOf x) V) (smake_any (skOf x) G' gc' D' dc' V hV (by omega) (by omega)) fun e w' h => by
          have h9 := mkS_ck hsk h
          rw [hsC] at h9
          exact h9)
        have HBk : Hid (∀ G' gc' D' dc' V, SkL V V.heap.size G' gc' D' dc' (skOf x) → Calls Tryz.prog 21 #[skV (skOf x) G' gc' D' dc'] V fun e w' => Below V.heap.size V w' ∧ ∃ G' gc' D' dc', e = .returned (skV (skOf x) G' gc' D' dc') ∧ SkL w' w'.heap.size G' gc' D' dc' (skOf x)) := Lib.hid (fun G' gc' D' dc' V hV => back14_any (skOf x) G' gc' D' dc' V hV (by omega) (by omega))
        have HRO : Hid (∀ V, Below w2.heap.size w2 V → Calls Tryz.prog 26 #[ckV x A c K k] V fun e w' => Below V.heap.size V w' ∧ ∃ G gc D dc, e = .returned (skV (skOf x) G gc D dc) ∧ SkL w' w'.heap.size G gc D dc (skOf x)) := Lib.hid (fun V hV => by
          have hCV := hx2.on hV
          obtain ⟨t, fl, d, ks⟩ := x
          simp only at h1 h2 h3
          subst h1 h2 h3
          exact rof14_any d hS A c K k V hCV)
        have HRS : Hid (∀ G1 gc1 D1 dc1 G2 gc2 D2 dc2 V, SkL V V.heap.size G1 gc1 D1 dc1 (skOf x) → SkL V V.heap.size G2 gc2 D2 dc2 (skOf x) → Calls Tryz.prog 20 #[skV (skOf x) G1 gc1 D1 dc1, skV (skOf x) G2 gc2 D2 dc2] V fun e w' => e = .returned (.bool true) ∧ Below V.heap.size V w') := Lib.hid (fun G1 gc1 D1 dc1 G2 gc2 D2 dc2 V hp hq => rsame14_self (skOf x) G1 gc1 D1 dc1 G2 gc2 D2 dc2 V hp hq)
        have HSm : Hid (∀ A1 c1 V, Below w2.heap.size w2 V → Chunk V V.heap.size A1 c1 none 0 x → Calls Tryz.prog 18 #[ckV x A1 c1 none 0, ckV x A c K k] V fun e w' => e = .returned (.bool true) ∧ Below V.heap.size V w') := Lib.hid (fun A1 c1 V hV h9 => by
          have hq := rcsame12 x x (by unfold maxLen; omega) (by omega) (by omega) A1 c1 none 0 A c K k V h9 (hx2.on hV)
          rw [ckEq_selfZ] at hq
          exact hq)
        have HB2 := Lib.hid B2
        clear hfine hd7 hsz HK B2 hS hsC hsk hsg hc hdl hdl2 h1 h2 h3 hk2 HH
        generalize skOf x = s at *
        clear hx2
        obtain ⟨t, fl, d, ks⟩ := x
        simp only at ht
        subst ht
        simp only [ckV, ckCells] at *
        have HSm2 : Hid (∀ A1 c1 V, Below w2.heap.size w2 V → Chunk V V.heap.size A1 c1 none 0 ⟨3, fl, d, ks⟩ → Calls Tryz.prog 18 #[.agg #[.int .u8 3, bv fl, .slice A1 d.length c1, .slice none ks.length 0], .agg #[bv 3, bv fl, .slice A d.length c, .slice K ks.length k]] V fun e w' => e = .returned (.bool true) ∧ Below V.heap.size V w') := HSm
        go_wp2_with fail
        refine hOf.mono ?_
        rintro e w3 ⟨b3, G3, gc3, D3, dc3, rfl, hS3⟩
        have x3 := x2.below b3
        have R3 : Below w2.heap.size w2 w3 := b3
        clear q0 q1 q2 q3 hOf x2
        go_upto_region 4 with fail
        have v4 : Below w3.heap.size w3 (w3.alloc (.cells #[uv s.cum, uv s.win, .slice G3 s.gs.length gc3, .slice D3 s.ds.length dc3] 38)) := (Below.refl _ _).alloc (Nat.le_refl _) _
        have y4 := Whole.new w3 38 #[uv s.cum, uv s.win, .slice G3 s.gs.length gc3, .slice D3 s.ds.length dc3]
        have hS4 := hS3.on v4
        have x4 := x3.below v4
        have R4 := R3.trans (v4.mono R3.size)
        generalize w3.alloc (.cells #[uv s.cum, uv s.win, .slice G3 s.gs.length gc3, .slice D3 s.ds.length dc3] 38) = w4 at *
        generalize w3.heap.size = g3 at *
        clear hS3 x3 R3 v4 b3
        obtain ⟨q0, q1, q2, q3⟩ := x4.cs
        have hCk := HCk.out w4 R4
        go_wp2_with fail
        refine hCk.mono ?_
        rintro e w5 ⟨rfl, b5⟩
        have R5 := R4.trans (b5.mono R4.size)
        have x5 := x4.below b5
        have y5 := y4.below b5 y4.lt
        have hS5 := hS4.on b5
        clear q0 q1 q2 q3 hCk x4 y4 hS4 R4 b5
        obtain ⟨m0, m1, m2, m3⟩ := wh4 y5
        have hM := HMk.out G3 gc3 D3 dc3 w5 hS5
        go_wp2_with fail
        refine hM.mono ?_
        rintro e w6 ⟨b6, A6, c6, rfl, C6⟩
        have R6 := R5.trans (b6.mono R5.size)
        have x6 := x5.below b6
        have y6 := y5.below b6 y5.lt
        have hS6 := hS5.on b6
        clear m0 m1 m2 m3 hM x5 y5 hS5 R5 b6
        go_upto_region 9 with fail
        have v7 : Below w6.heap.size w6 (w6.alloc (.cells #[.int .u8 3, bv fl, .slice A6 d.length c6, .slice none ks.length 0] 33)) := (Below.refl _ _).alloc (Nat.le_refl _) _
        have z7 := Whole.new w6 33 #[.int .u8 3, bv fl, .slice A6 d.length c6, .slice none ks.length 0]
        have R7 := R6.trans (v7.mono R6.size)
        have x7 := x6.below v7
        have y7 := y6.below v7 y6.lt
        have hS7 := hS6.on v7
        have C7 := C6.on v7
        generalize w6.alloc (.cells #[.int .u8 3, bv fl, .slice A6 d.length c6, .slice none ks.length 0] 33) = w7 at *
        generalize w6.heap.size = g6 at *
        clear x6 y6 hS6 C6 R6 v7
        have KS : Hid (∀ W, Below w7.heap.size w7 W → (W.cell? ⟨w.heap.size, 0, none⟩ = some (bv 3) ∧ W.cell? ⟨w.heap.size, 1, none⟩ = some (bv fl) ∧ W.cell? ⟨w.heap.size, 2, none⟩ = some (.slice A d.length c) ∧ W.cell? ⟨w.heap.size, 3, none⟩ = some (.slice K ks.length k)) ∧ (W.cell? ⟨g3, 0, none⟩ = some (uv s.cum) ∧ W.cell? ⟨g3, 1, none⟩ = some (uv s.win) ∧ W.cell? ⟨g3, 2, none⟩ = some (.slice G3 s.gs.length gc3) ∧ W.cell? ⟨g3, 3, none⟩ = some (.slice D3 s.ds.length dc3)) ∧ (W.cell? ⟨g6, 0, none⟩ = some (.int .u8 3) ∧ W.cell? ⟨g6, 1, none⟩ = some (bv fl) ∧ W.cell? ⟨g6, 2, none⟩ = some (.slice A6 d.length c6) ∧ W.cell? ⟨g6, 3, none⟩ = some (.slice none ks.length 0))) := Lib.hid (fun W hW => ⟨CkBox.cs (x := ⟨3, fl, d, ks⟩) (CkBox.below x7 hW), wh4 (y7.below hW y7.lt), wh4 (z7.below hW z7.lt)⟩)
        have HT : Hid (∀ V, Below w7.heap.size w7 V → Chunk V V.heap.size A6 c6 none 0 ⟨3, fl, d, ks⟩ ∧ SkL V V.heap.size G3 gc3 D3 dc3 s ∧ Below w2.heap.size w2 V) := Lib.hid (fun V hV => ⟨C7.on hV, hS7.on hV, R7.trans (hV.mono R7.size)⟩)
        refine wp_region_held_drew (S := (fun W => (W.cell? ⟨w.heap.size, 0, none⟩ = some (bv 3) ∧ W.cell? ⟨w.heap.size, 1, none⟩ = some (bv fl) ∧ W.cell? ⟨w.heap.size, 2, none⟩ = some (.slice A d.length c) ∧ W.cell? ⟨w.heap.size, 3, none⟩ = some (.slice K ks.length k)) ∧ (W.cell? ⟨g3, 0, none⟩ = some (uv s.cum) ∧ W.cell? ⟨g3, 1, none⟩ = some (uv s.win) ∧ W.cell? ⟨g3, 2, none⟩ = some (.slice G3 s.gs.length gc3) ∧ W.cell? ⟨g3, 3, none⟩ = some (.slice D3 s.ds.length dc3)) ∧ (W.cell? ⟨g6, 0, none⟩ = some (.int .u8 3) ∧ W.cell? ⟨g6, 1, none⟩ = some (bv fl) ∧ W.cell? ⟨g6, 2, none⟩ = some (.slice A6 d.length c6) ∧ W.cell? ⟨g6, 3, none⟩ = some (.slice none ks.length 0)))) (by kernel_rfl) (KS.out _ (below_drew (Below.refl _ _))) (fun hHeld => ?_)
        refine take_at (i := 0) (v := ?_) (some 41) rfl (by kernel_rfl) (by kernel_rfl) (by kernel_rfl) (fun _ _ _ h => h) (by kernel_rfl) (Or.inl ⟨by kernel_rfl, ?_⟩) (by assumption) ?_
        rotate_left
        · (intro w hSw; (try dsimp only at hSw); go_simp <;> with_reducible rfl)
        simp only [Act.put, List.setIfInBounds_toArray, List.set_cons_zero, List.set_cons_succ]
        refine take_at (i := 2) (v := ?_) (some 43) rfl (by kernel_rfl) (by kernel_rfl) (by kernel_rfl) (fun _ _ _ h => h) (by kernel_rfl) (Or.inl ⟨by kernel_rfl, ?_⟩) (by assumption) ?_
        rotate_left
        · (intro w hSw; (try dsimp only at hSw); go_simp <;> with_reducible rfl)
        simp only [Act.put, List.setIfInBounds_toArray, List.set_cons_zero, List.set_cons_succ]
        refine wpAnyH_ready (rs := [1]) (by kernel_rfl) (by simp) ?_
        refine AllReadyH.cons rfl (fun K hK => ?_) AllReadyH.nil
        go_simp
        go_at_call 21; (with_reducible refine (HBk.out _ _ _ _ w7.drew (HT.out _ (below_drew (Below.refl w7.heap.size w7))).2.1).mono ?_); rintro e v1 ⟨b1, G8, gc8, D8, dc8, rfl, S8⟩
        go_wp2_with fail
        have T1 : Below w7.heap.size w7 v1 := below_undrew13 b1
        clear hHeld
        refine hK.out _ _ (KS.out _ T1) (fun hHeld => ?_)
        clear hK K
        try simp only [Act.put, List.setIfInBounds_toArray, List.set_cons_zero, List.set_cons_succ]
        refine wpAnyH_ready (rs := [3]) (by kernel_rfl) (by simp) ?_
        refine AllReadyH.cons rfl (fun K hK => ?_) AllReadyH.nil
        go_simp
        go_at_call 26; (with_reducible refine (HRO.out v1 (HT.out _ T1).2.2).mono ?_); rintro e v3 ⟨b3, G9, gc9, D9, dc9, rfl, S9⟩
        go_wp2_with fail
        have T3 : Below w7.heap.size w7 v3 := T1.trans (b3.mono T1.size)
        have S8 := S8.on b3
        clear hHeld
        refine hK.out _ _ (KS.out _ T3) (fun hHeld => ?_)
        clear hK K
        try simp only [Act.put, List.setIfInBounds_toArray, List.set_cons_zero, List.set_cons_succ]
        refine wpAnyH_ready (rs := [4]) (by kernel_rfl) (by simp) ?_
        refine AllReadyH.cons rfl (fun K hK => ?_) AllReadyH.nil
        go_simp
        go_at_call 20; (with_reducible refine (HRS.out _ _ _ _ _ _ _ _ v3 S8 S9).mono ?_); rintro e v4 ⟨rfl, b4⟩
        go_wp2_with fail
        have T4 : Below w7.heap.size w7 v4 := T3.trans (b4.mono T3.size)
        clear hHeld
        refine hK.out _ _ (KS.out _ T4) (fun hHeld => ?_)
        clear hK K
        try simp only [Act.put, List.setIfInBounds_toArray, List.set_cons_zero, List.set_cons_succ]
        refine take_at (i := 5) (v := ?_) (some 46) rfl (by kernel_rfl) (by kernel_rfl) (by kernel_rfl) (fun _ _ _ h => h) (by kernel_rfl) (Or.inl ⟨by kernel_rfl, ?_⟩) (by assumption) ?_
        rotate_left
        · (intro w hSw; (try dsimp only at hSw); go_simp <;> with_reducible rfl)
        simp only [Act.put, List.setIfInBounds_toArray, List.set_cons_zero, List.set_cons_succ]
        refine take_at (i := 6) (v := ?_) (some 47) rfl (by kernel_rfl) (by kernel_rfl) (by kernel_rfl) (fun _ _ _ h => h) (by kernel_rfl) (Or.inl ⟨by kernel_rfl, ?_⟩) (by assumption) ?_
        rotate_left
        · (intro w hSw; (try dsimp only at hSw); go_simp <;> with_reducible rfl)
        simp only [Act.put, List.setIfInBounds_toArray, List.set_cons_zero, List.set_cons_succ]
        refine take_at (i := 7) (v := ?_) (some 48) rfl (by kernel_rfl) (by kernel_rfl) (by kernel_rfl) (fun _ _ _ h => h) (by kernel_rfl) (Or.inl ⟨by kernel_rfl, ?_⟩) (by assumption) ?_
        rotate_left
        · (intro w hSw; (try dsimp only at hSw); go_simp <;> with_reducible rfl)
        simp only [Act.put, List.setIfInBounds_toArray, List.set_cons_zero, List.set_cons_succ]
        refine take_at (i := 8) (v := ?_) (some 49) rfl (by kernel_rfl) (by kernel_rfl) (by kernel_rfl) (fun _ _ _ h => h) (by kernel_rfl) (Or.inl ⟨by kernel_rfl, ?_⟩) (by assumption) ?_
        rotate_left
        · (intro w hSw; (try dsimp only at hSw); go_simp <;> with_reducible rfl)
        simp only [Act.put, List.setIfInBounds_toArray, List.set_cons_zero, List.set_cons_succ]
        refine take_at (i := 9) (v := ?_) (some 50) rfl (by kernel_rfl) (by kernel_rfl) (by kernel_rfl) (fun _ _ _ h => h) (by kernel_rfl) (Or.inl ⟨by kernel_rfl, ?_⟩) (by assumption) ?_
        rotate_left
        · (intro w hSw; (try dsimp only at hSw); go_simp <;> with_reducible rfl)
        simp only [Act.put, List.setIfInBounds_toArray, List.set_cons_zero, List.set_cons_succ]
        refine take_at (i := 10) (v := ?_) (some 51) rfl (by kernel_rfl) (by kernel_rfl) (by kernel_rfl) (fun _ _ _ h => h) (by kernel_rfl) (Or.inl ⟨by kernel_rfl, ?_⟩) (by assumption) ?_
        rotate_left
        · (intro w hSw; (try dsimp only at hSw); go_simp <;> with_reducible rfl)
        simp only [Act.put, List.setIfInBounds_toArray, List.set_cons_zero, List.set_cons_succ]
        refine wpAnyH_ready (rs := [11]) (by kernel_rfl) (by simp) ?_
        refine AllReadyH.cons rfl (fun K hK => ?_) AllReadyH.nil
        go_simp
        go_at_call 18; (with_reducible refine (HSm2.out _ _ v4 (HT.out _ T4).2.2 (HT.out _ T4).1).mono ?_); rintro e v11 ⟨rfl, b11⟩
        go_wp2_with fail
        have T11 : Below w7.heap.size w7 v11 := T4.trans (b11.mono T4.size)
        clear hHeld
        refine hK.out _ _ (KS.out _ T11) (fun hHeld => ?_)
        clear hK K
        try simp only [Act.put, List.setIfInBounds_toArray, List.set_cons_zero, List.set_cons_succ]
        refine take_at (i := 12) (v := ?_) (some 53) rfl (by kernel_rfl) (by kernel_rfl) (by kernel_rfl) (fun _ _ _ h => h) (by kernel_rfl) (Or.inl ⟨by kernel_rfl, ?_⟩) (by assumption) ?_
        rotate_left
        · (intro w hSw; (try dsimp only at hSw); go_simp <;> with_reducible rfl)
        simp only [Act.put, List.setIfInBounds_toArray, List.set_cons_zero, List.set_cons_succ]
        refine take_at (i := 13) (v := ?_) (some 2) rfl (by kernel_rfl) (by kernel_rfl) (by kernel_rfl) (fun _ _ _ h => h) (by kernel_rfl) (Or.inl ⟨by kernel_rfl, ?_⟩) (by assumption) ?_
        rotate_left
        · (intro w hSw; (try dsimp only at hSw); go_simp <;> with_reducible rfl)
        simp only [Act.put, List.setIfInBounds_toArray, List.set_cons_zero, List.set_cons_succ]
        refine wpAnyH_done (by kernel_rfl) ?_ _
        go_wp2_with fail
        go_ret
        exact ⟨rfl, HB2.out.trans ((HT.out _ T11).2.2.mono HB2.out.size)⟩
      · have hno := isS_no (x := x) (.inr hc)
        have hcn : ((chkC x : Int) == 0) = false := by rw [beq_eq_false_iff_ne]; omega
        clear hc
        have hOf := sof_any x hfine A c K k w2 hx2 (HH.out.below B2 HH.out.lt)
        have hOf2 := Calls.mono (R := OfS x w2) hOf fun e w' h => ofS_zero hno h
        clear hOf
        have HCk : Hid (∀ V, Below w2.heap.size w2 V → Calls Tryz.prog 25 #[ckV x A c K k] V fun e w' => e = .returned (.int .i64 ((chkC x : Nat) : Int)) ∧ Below V.heap.size V w') := Lib.hid (fun V hV => rcheck12 x hfine A c K k V (hx2.on hV))
        clear hfine hd7 hk2 hsz HK hno hx2
        have HB2 := Lib.hid B2
        clear B2
        generalize chkC x = cc at *
        obtain ⟨t, fl, d, ks⟩ := x
        simp only [ckV, ckCells] at *
        subst ht
        go_wp2_with fail
        refine hOf2.mono ?_
        rintro e w3 ⟨b3, G3, gc3, D3, dc3, rfl, hS3⟩
        have x3 := x2.below b3
        have R3 : Below w2.heap.size w2 w3 := b3
        clear q0 q1 q2 q3 hOf2 x2
        go_upto_region 4 with fail
        have v4 : Below w3.heap.size w3 (w3.alloc (.cells #[.int .u32 0, .int .u32 0, .slice G3 0 gc3, .slice D3 0 dc3] 38)) := (Below.refl _ _).alloc (Nat.le_refl _) _
        have y4 := Whole.new w3 38 #[.int .u32 0, .int .u32 0, .slice G3 0 gc3, .slice D3 0 dc3]
        have hS4 := hS3.on v4
        have x4 := x3.below v4
        have R4 := R3.trans (v4.mono R3.size)
        generalize w3.alloc (.cells #[.int .u32 0, .int .u32 0, .slice G3 0 gc3, .slice D3 0 dc3] 38) = w4 at *
        generalize w3.heap.size = g3 at *
        clear hS3 x3 R3 v4 b3
        obtain ⟨q0, q1, q2, q3⟩ := x4.cs
        obtain ⟨m0, m1, m2, m3⟩ := wh4 y4
        have hCk := HCk.out w4 R4
        go_wp2_with fail
        refine hCk.mono ?_
        rintro e w5 ⟨rfl, b5⟩
        have R5 := R4.trans (b5.mono R4.size)
        have hS5 := hS4.on b5
        have y5 := y4.below b5 y4.lt
        clear q0 q1 q2 q3 m0 m1 m2 m3 hCk y4 hS4
        obtain ⟨m0, m1, m2, m3⟩ := wh4 y5
        have hBk := zero14_back G3 gc3 D3 dc3 w5 hS5
        go_wp2_with fail
        refine hBk.mono ?_
        rintro e w7 ⟨b7, G7, gc7, D7, dc7, rfl, hS7⟩
        have R7 := R5.trans (b7.mono R5.size)
        clear hBk
        go_wp2_with fail
        refine (zero14_same G7 gc7 D7 dc7 w7 hS7).mono ?_
        rintro e w8 ⟨rfl, b8⟩
        go_wp2_with fail
        go_ret
        exact ⟨rfl, HB2.out.trans ((R7.trans (b8.mono R7.size)).mono HB2.out.size)⟩
    · have hno := isS_no (x := x) (.inl ht)
      have hx3 : ((x.t.toNat : Int) == 3) = false := by rw [beq_eq_false_iff_ne]; intro e; exact ht (UInt8.toNat_inj.1 (by have : (3 : UInt8).toNat = 3 := rfl; omega))
      clear ht
      have hOf := sof_any x hfine A c K k w2 hx2 (HH.out.below B2 HH.out.lt)
      have hOf2 := Calls.mono (R := OfS x w2) hOf fun e w' h => ofS_zero hno h
      clear hOf
      have HCk : Hid (∀ V, Below w2.heap.size w2 V → Calls Tryz.prog 25 #[ckV x A c K k] V fun e w' => e = .returned (.int .i64 ((chkC x : Nat) : Int)) ∧ Below V.heap.size V w') := Lib.hid (fun V hV => rcheck12 x hfine A c K k V (hx2.on hV))
      clear hfine hd7 hk2 hsz HK hno hx2
      have HB2 := Lib.hid B2
      clear B2
      generalize chkC x = cc at *
      obtain ⟨t, fl, d, ks⟩ := x
      simp only [ckV, ckCells] at *
      go_wp2_with fail
      refine hOf2.mono ?_
      rintro e w3 ⟨b3, G3, gc3, D3, dc3, rfl, hS3⟩
      have x3 := x2.below b3
      have R3 : Below w2.heap.size w2 w3 := b3
      clear q0 q1 q2 q3 hOf2 x2
      go_upto_region 4 with fail
      have v4 : Below w3.heap.size w3 (w3.alloc (.cells #[.int .u32 0, .int .u32 0, .slice G3 0 gc3, .slice D3 0 dc3] 38)) := (Below.refl _ _).alloc (Nat.le_refl _) _
      have y4 := Whole.new w3 38 #[.int .u32 0, .int .u32 0, .slice G3 0 gc3, .slice D3 0 dc3]
      have hS4 := hS3.on v4
      have x4 := x3.below v4
      have R4 := R3.trans (v4.mono R3.size)
      generalize w3.alloc (.cells #[.int .u32 0, .int .u32 0, .slice G3 0 gc3, .slice D3 0 dc3] 38) = w4 at *
      generalize w3.heap.size = g3 at *
      clear hS3 x3 R3 v4 b3
      obtain ⟨q0, q1, q2, q3⟩ := x4.cs
      obtain ⟨m0, m1, m2, m3⟩ := wh4 y4
      have hBk := zero14_back G3 gc3 D3 dc3 w4 hS4
      go_wp2_with fail
      refine hBk.mono ?_
      rintro e w7 ⟨b7, G7, gc7, D7, dc7, rfl, hS7⟩
      have R7 := R4.trans (b7.mono R4.size)
      clear hBk
      go_wp2_with fail
      refine (zero14_same G7 gc7 D7 dc7 w7 hS7).mono ?_
      rintro e w8 ⟨rfl, b8⟩
      go_wp2_with fail
      go_ret
      exact ⟨rfl, HB2.out.trans ((R7.trans (b8.mono R7.size)).mono HB2.out.size)⟩
set_option maxRecDepth 100000 in
theorem law_SackChunks {H : Type} {enc : TypeId × Value → H} {W : World} {base : Nat} {v0 : Value} {d0 : DataW H} {p0 : List MemPlace}
    (o0 : Value.okWide Tryz.prog W .any base 33 v0) (h0 : DataW.Trod enc Tryz.prog W 0 (fun _ => true) true 33 v0 d0 p0) (s0 : Small Tryz.prog 33 d0) (hL : laidMetH Tryz.prog laidL W) :
    Calls Tryz.prog 4 #[v0] W fun e w' => e = .returned (.bool true) ∧ Below W.heap.size W w' := by
  obtain ⟨x, A, c, K, k, rfl, hC, hB⟩ := open_chunk o0 h0 s0
  exact sch_law x (by have := hC.kc; have := hC.km; unfold maxLen at this; omega) hB A c K k W hC (handle_of_laid hL)
end Go.Proofs.YtabljmiiekpgiaaGreatDoor


