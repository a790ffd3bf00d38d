/- Layer 15: the law InitialMatchesReference (written by tools/gen_init_s.py). It writes nothing that was there. -/
import Derived.Test.YtdcppcoldaaldaaGreatDoorQInitH
import Derived.Test.YtdcppcoldaaldaaGreatDoorQIG
import Derived.Test.YtdcppcoldaaldaaGreatDoorQNodeRAC
import Derived.Deep.Cut
import Derived.Test.YtdcppcoldaaldaaGreatDoorQCT
import Derived.Test.YtdcppcoldaaldaaGreatDoorQCO
import Derived.Test.YtdcppcoldaaldaaGreatDoorQCX
import Derived.Test.YtdcppcoldaaldaaGreatDoorQCL
import Derived.Test.YtdcppcoldaaldaaGreatDoorQNW
import Derived.Test.YtdcppcoldaaldaaGreatDoorQNF
import Derived.Test.YtdcppcoldaaldaaGreatDoorQNS
import Derived.Test.YtdcppcoldaaldaaGreatDoorQNodeUO
import Derived.BigGuard
import Derived.Deep.RegionHeld3














namespace Go.Proofs.YtdcppcoldaaldaaGreatDoor
open Go.ChangeShapes Go.WideShapes Go.ChangeAt Go.RowKit

set_option linter.unusedSimpArgs false
theorem cut_postI {P : Program} {C : Code} {a : Act} {w : World} {Q : Exit → Act → World → Prop} (T : (Exit → Act → World → Prop) → Prop) (hT : T Q) (h : T Q → Code.wp P C Q a w) : Code.wp P C Q a w := h hT
/-- what Make gives, be it right or not -/
def okC (x : Ck) : Ck := if chkC x = 0 then x else ⟨0, 0, [], []⟩
theorem mkI_one {x : Ck} {w w' : World} {e : Ending} (h : MkI x w e w') : ∃ A' c' K' k', e = .returned (.tuple #[ckV (okC x) A' c' K' k', .bool (decide (chkC x = 0))]) ∧ ChunkS w' (NewS w w') A' c' K' k' (okC x) ∧ Below w.heap.size w w' := by
  obtain ⟨hb, ⟨h1, A', c', K', k', he, hC⟩ | ⟨h1, he⟩⟩ := h
  · refine ⟨A', c', K', k', ?_, ?_, hb⟩ <;> (unfold okC; rw [if_pos h1])
    · rw [decide_eq_true h1]; exact he
    · exact hC
  · refine ⟨none, 0, none, 0, ?_, ?_, hb⟩ <;> (unfold okC; rw [if_neg h1])
    · rw [decide_eq_false h1]; exact he
    · exact ⟨fun h => absurd rfl h, Nat.le_refl _, Nat.zero_le _, .mk [] (fun _ => none) (fun _ => 0) (fun h => absurd rfl h) rfl (fun i n hn => by simp at hn) (fun i n hn => by simp at hn), Nat.le_refl _, Nat.zero_le _⟩
theorem far4 (W : World) (g : Nat) (v0 v1 v2 v3 : Value) (p : Addr) (hp : p.block ≠ g) : ((((W.setCell ⟨g, 0, none⟩ v0).setCell ⟨g, 1, none⟩ v1).setCell ⟨g, 2, none⟩ v2).setCell ⟨g, 3, none⟩ v3).cell? p = W.cell? p := by
  rw [World.cell?_setCell_other _ _ _ _ (fun e => hp (by rw [← e])), World.cell?_setCell_other _ _ _ _ (fun e => hp (by rw [← e])), World.cell?_setCell_other _ _ _ _ (fun e => hp (by rw [← e])), World.cell?_setCell_other _ _ _ _ (fun e => hp (by rw [← e]))]
theorem rsameS (l : List Nd) (A A' : Option Addr) (c c' : Nat) (w : World) (h1 : Nodes w w.heap.size A l) (h2 : Nodes w w.heap.size A' l) (hl : l.length ≤ 9223372036854775807) :
    Calls Tryz.prog 48 #[.slice A l.length c, .slice A' l.length c'] w fun e w' => e = .returned (.bool true) ∧ Below w.heap.size w w' := by
  have h9 := rsame_any l l A A' c c' w h1 h2 hl hl
  have hb : beqL l l = true := beqL_true rfl
  rw [hb] at h9
  exact h9
theorem zck_is : isI ⟨0, 0, [], []⟩ = false := by unfold isI; rfl
set_option maxRecDepth 100000 in
set_option maxHeartbeats 16000000 in
theorem imr_law (an : Bool) (v : Vl) (ks : List Nd) (hk : ks.length ≤ 9223372036854775807) (hb : ∀ n ∈ ks, Bnd n) (K : Option Addr) (k : Nat) (hkc : ks.length ≤ k) (hkm : k ≤ maxLen) (w : World) (hN : Nodes w w.heap.size K ks) (hh : Handle w) :
    Calls Tryz.prog 10 #[.bool an, vlV v, .slice K ks.length k] w fun e w' => e = .returned (.bool true) ∧ Below w.heap.size w w' := by
  have b0 : Below w.heap.size w (w.alloc (.cells (vlCells v) 77)) := (Below.refl _ w).alloc (Nat.le_refl _) _
  have x0 := Whole.new w 77 (vlCells v)
  have H0 := hh.below b0 hh.lt
  have hF := few_any K k ks
  have HH := Lib.hid hh
  have HN := Lib.hid (fun (V : World) (hV : Below w.heap.size w V) => hN.on hV)
  have HK := Lib.hid hk
  have HKb := Lib.hid hb
  clear hk hb hN hh
  go_enter Tryz.func10, Tryz.ntmps10
  go_wp2_with fail
  generalize w.alloc (.cells (vlCells v) 77) = w0 at *
  refine (awake15_any w0 H0).mono ?_
  rintro e w1 ⟨rfl, b1⟩
  have B1 := b0.trans (b1.mono b0.size)
  have x1 := x0.below b1 x0.lt
  have hF1 := hF w1 (HN.out w1 B1) HK.out HKb.out
  cases hf : decide (cnt 21 ks ≤ 200) with
  | false =>
    rw [hf] at hF1
    clear hf hF
    go_wp2_with fail
    refine hF1.mono ?_
    rintro e w2 ⟨rfl, b2⟩
    have B2 := B1.trans (b2.mono B1.size)
    go_wp2_with fail
    refine (awake15_any w2 (HH.out.below B2 HH.out.lt)).mono ?_
    rintro e w3 ⟨rfl, b3⟩
    go_wp2_with fail
    go_ret
    exact ⟨rfl, B2.trans (b3.mono B2.size)⟩
  | true =>
    obtain ⟨hk2, _, hfin⟩ := few_fine 21 ks (of_decide_eq_true hf)
    rw [hf] at hF1
    clear hf hF
    go_wp2_with fail
    refine hF1.mono ?_
    rintro e w2 ⟨rfl, b2⟩
    have B2 := B1.trans (b2.mono B1.size)
    have x2 := x1.below b2 x1.lt
    have HCl : Hid (∀ V, Below w2.heap.size w2 V → Calls Tryz.prog 45 #[.slice K ks.length k] V fun e w' => ∃ A' c', e = .returned (.slice A' ks.length c') ∧ NodesS w' (NewL V w') A' ks ∧ ks.length ≤ c' ∧ c' ≤ maxLen ∧ Below V.heap.size V w') := Lib.hid (fun V hV => rclone_any ks K k V (HN.out V (B2.trans (hV.mono B2.size))) (fun n hn => few2I n (hfin n hn)) (by omega))
    have HMk : Hid (∀ (V : World) (A' : Option Addr) (c' : Nat), Below w2.heap.size w2 V → Nodes V V.heap.size A' ks → ks.length ≤ c' → c' ≤ maxLen → Calls Tryz.prog 44 #[.bool an, vlV v, .slice A' ks.length c'] V fun e w' => ∃ A' c' K' k', e = .returned (.tuple #[ckV (okC (ckI an v ks)) A' c' K' k', .bool (decide (chkC (ckI an v ks) = 0))]) ∧ ChunkS w' (NewS V w') A' c' K' k' (okC (ckI an v ks)) ∧ Below V.heap.size V w') := Lib.hid (fun V A' c' hV h1 h2 h3 => Calls.mono (imake_any an v ks (by omega) hfin A' c' V h1 h2 h3 (HH.out.below (B2.trans (hV.mono B2.size)) HH.out.lt)) fun e w' h => mkI_one h)
    have HRM : Hid (∀ V, Below w2.heap.size w2 V → Calls Tryz.prog 46 #[.bool an, vlV v, .slice K ks.length k] V fun e w' => ∃ A' c', e = .returned (ckV (ckI an v ks) A' c' K k) ∧ Chunk w' w'.heap.size A' c' K k (ckI an v ks) ∧ Below V.heap.size V w') := Lib.hid (fun V hV => rMake_any an v ks K k V (HN.out V (B2.trans (hV.mono B2.size))) hkc hkm)
    have hfi := ckI_fine an v ks (by omega) hfin
    have HRC : Hid (∀ (V : World) (A' : Option Addr) (c' : Nat), Chunk V V.heap.size A' c' K k (ckI an v ks) → Calls Tryz.prog 36 #[ckV (ckI an v ks) A' c' K k] V fun e w' => e = .returned (.int .i64 ((chkC (ckI an v ks) : Nat) : Int)) ∧ Below V.heap.size V w') := Lib.hid (fun V A' c' hC => rcheck12 (ckI an v ks) hfi A' c' K k V hC)
    have hfo : CkFine (okC (ckI an v ks)) := by
      unfold okC
      split
      · exact hfi
      · exact ⟨by simp, by simp, by intro q hq; cases hq⟩
    have HOf : Hid (∀ (V : World) (A' : Option Addr) (c' : Nat) (K' : Option Addr) (k' : Nat), Below w2.heap.size w2 V → Chunk V V.heap.size A' c' K' k' (okC (ckI an v ks)) → Calls Tryz.prog 47 #[ckV (okC (ckI an v ks)) A' c' K' k'] V (OfIR (okC (ckI an v ks)) V)) := Lib.hid (fun V A' c' K' k' hV hC => iof_any (okC (ckI an v ks)) hfo A' c' K' k' V hC (HH.out.below (B2.trans (hV.mono B2.size)) HH.out.lt))
    have HNK := Lib.hid (fun (V : World) (hV : Below w2.heap.size w2 V) => HN.out V (B2.trans (hV.mono B2.size)))
    have HB2 := Lib.hid B2
    have hs2 : w.heap.size < w2.heap.size := x2.lt
    have HY1 : Hid (chkC (ckI an v ks) = 0 → okC (ckI an v ks) = ckI an v ks ∧ isI (ckI an v ks) = true ∧ ofVl (ckI an v ks) = v ∧ ofK (ckI an v ks) = ks) := Lib.hid (fun h => ⟨by unfold okC; rw [if_pos h], (ofVl_ckI h).1, (ofVl_ckI h).2, by unfold ofK; rw [if_pos (ofVl_ckI h).1]; rfl⟩)
    have HY0 : Hid (chkC (ckI an v ks) ≠ 0 → okC (ckI an v ks) = ⟨0, 0, [], []⟩) := Lib.hid (fun h => by unfold okC; rw [if_neg h])
    clear hk2 hfin hF1 hfi hfo x0 x1 b0 b1 b2 B1 B2 H0 HN HH HKb hkc hkm
    have HCC : Hid ((((chkC (ckI an v ks) : Nat) : Int) == 0) = decide (chkC (ckI an v ks) = 0)) := by
      unfold Hid
      rw [Bool.eq_iff_iff, beq_iff_eq, decide_eq_true_eq]
      omega
    have HZ1 : Hid (decide (chkC (ckI an v ks) = 0) = true → okC (ckI an v ks) = ckI an v ks ∧ isI (ckI an v ks) = true ∧ ofVl (ckI an v ks) = v ∧ ofK (ckI an v ks) = ks) := Lib.hid (fun h => HY1.out (of_decide_eq_true h))
    have HZ0 : Hid (decide (chkC (ckI an v ks) = 0) = false → okC (ckI an v ks) = ⟨0, 0, [], []⟩) := Lib.hid (fun h => HY0.out (of_decide_eq_false h))
    have hksl : (ckI an v ks).ks.length ≤ 9223372036854775807 := HK.out
    have hdl : (ckI an v ks).d.length ≤ maxLen := by show (vlB v).length ≤ _; rw [vlB_len]; unfold maxLen; omega
    have HS1 : Hid (∀ (V : World) (A1 : Option Addr) (c1 : Nat) (K1 : Option Addr) (k1 : Nat) (A2 : Option Addr) (c2 : Nat), Chunk V V.heap.size A1 c1 K1 k1 (ckI an v ks) → Chunk V V.heap.size A2 c2 K k (ckI an v ks) → Calls Tryz.prog 20 #[ckV (ckI an v ks) A1 c1 K1 k1, ckV (ckI an v ks) A2 c2 K k] V fun e w' => e = .returned (.bool true) ∧ Below V.heap.size V w') := Lib.hid (fun V A1 c1 K1 k1 A2 c2 h1 h2 => by
      have h9 := rcsame12 (ckI an v ks) (ckI an v ks) hdl hksl hksl A1 c1 K1 k1 A2 c2 K k V h1 h2
      rw [ckEq_selfI] at h9
      exact h9)
    have HKS9 : Hid (ks.length ≤ 9223372036854775807) := HK
    clear hksl hdl HY1 HY0
    generalize decide (chkC (ckI an v ks) = 0) = ob at *
    generalize chkC (ckI an v ks) = cc at *
    generalize hx : ckI an v ks = x at *
    clear hx
    generalize hy : okC x = y at *
    clear hy
    have KS : Hid (∀ W, Below w2.heap.size w2 W → W.cell? ⟨w.heap.size, 0, none⟩ = some (uv v.tg) ∧ W.cell? ⟨w.heap.size, 1, none⟩ = some (uv v.wd) ∧ W.cell? ⟨w.heap.size, 2, none⟩ = some (hv v.ou) ∧ W.cell? ⟨w.heap.size, 3, none⟩ = some (hv v.ii) ∧ W.cell? ⟨w.heap.size, 4, none⟩ = some (uv v.ts)) := fun W hW => (x2.below hW hs2).cs5
    clear x2
    obtain ⟨tg, wd, ou, ii, ts⟩ := v
    simp only [vlV, vlCells] at *
    go_upto_region 3 with fail
    refine cut_postI (fun QQ => ∀ (g : Nat) (A3 : Option Addr) (c3 : Nat) (A4 : Option Addr) (c4 : Nat) (K4 : Option Addr) (k4 : Nat) (wz : World), Below w2.heap.size w2 wz → Whole wz g 31 #[bv y.t, bv y.fl, .slice A4 y.d.length c4, .slice K4 y.ks.length k4] → Chunk wz wz.heap.size A4 c4 K4 k4 y → w2.heap.size ≤ g → QQ Exit.normal { tmps := #[.bool an, .agg #[uv tg, uv wd, hv ou, hv ii, uv ts], .slice K ks.length k, undef, .pointer (some ⟨w.heap.size, 0, none⟩), undef, .bool false, .pointer (some ⟨g, 0, none⟩), .bool ob, undef, undef, undef, undef, .bool true, .bool false, .bool false, .slice K ks.length k, .bool true, .bool false, .bool false, undef, .tuple #[ckV y A4 c4 K4 k4, .bool ob], .bool an, .agg #[uv tg, uv wd, hv ou, hv ii, uv ts], .slice K ks.length k, .slice A3 ks.length c3, .tuple #[ckV y A4 c4 K4 k4, .bool ob], ckV y A4 c4 K4 k4, .bool ob, undef, undef, undef, undef, undef, undef, undef, undef, undef, undef, undef, undef, undef, undef, undef, undef, undef, undef, undef, undef, undef, undef, undef, undef, undef, undef, undef, undef, undef, undef, undef, undef, undef, undef, undef, undef, undef, undef, undef, undef], defers := [] } wz) ?_ (fun hT => ?_)
    rotate_left
    · skip
      refine wp_region_held_drew (S := (fun W => W.cell? ⟨w.heap.size, 0, none⟩ = some (uv tg) ∧ W.cell? ⟨w.heap.size, 1, none⟩ = some (uv wd) ∧ W.cell? ⟨w.heap.size, 2, none⟩ = some (hv ou) ∧ W.cell? ⟨w.heap.size, 3, none⟩ = some (hv ii) ∧ W.cell? ⟨w.heap.size, 4, none⟩ = some (uv ts))) (by kernel_rfl) (KS.out _ (below_drew (Below.refl _ _))) (fun hHeld => ?_)
      refine take_at (i := 0) (v := ?_) (some 22) rfl (by kernel_rfl) (by kernel_rfl) (by kernel_rfl) (fun _ _ _ h => h) (by kernel_rfl) (Or.inl ⟨by kernel_rfl, ?_⟩) (by assumption) ?_
      rotate_left
      · (intro w hSw; (try dsimp only at hSw); go_simp <;> with_reducible rfl)
      simp only [Act.put, List.setIfInBounds_toArray, List.set_cons_zero, List.set_cons_succ]
      refine take_at (i := 1) (v := ?_) (some 23) rfl (by kernel_rfl) (by kernel_rfl) (by kernel_rfl) (fun _ _ _ h => h) (by kernel_rfl) (Or.inl ⟨by kernel_rfl, ?_⟩) (by assumption) ?_
      rotate_left
      · (intro w hSw; (try dsimp only at hSw); go_simp <;> with_reducible rfl)
      simp only [Act.put, List.setIfInBounds_toArray, List.set_cons_zero, List.set_cons_succ]
      refine take_at (i := 2) (v := ?_) (some 24) rfl (by kernel_rfl) (by kernel_rfl) (by kernel_rfl) (fun _ _ _ h => h) (by kernel_rfl) (Or.inl ⟨by kernel_rfl, ?_⟩) (by assumption) ?_
      rotate_left
      · (intro w hSw; (try dsimp only at hSw); go_simp <;> with_reducible rfl)
      simp only [Act.put, List.setIfInBounds_toArray, List.set_cons_zero, List.set_cons_succ]
      refine wpAnyH_ready (rs := [3, 8]) (by kernel_rfl) (by simp) ?_
      refine AllReadyH.cons rfl (fun K hK => ?_) (AllReadyH.cons rfl (fun K hK => ?_) AllReadyH.nil)
      · go_simp
        go_at_call 45; (with_reducible refine (HCl.out _ (below_drew (Below.refl _ _))).mono ?_); rintro e v3 ⟨A3, c3, rfl, nS3, h31, h32, b30⟩
        have b3 : Below w2.heap.size w2 v3 := below_undrew13 b30
        go_wp2_with fail
        have N3 : Nodes v3 v3.heap.size A3 ks := nS3.nodes (fun b hb => hb.2.1)
        have R3 : Below w2.heap.size w2 v3 := (Below.refl w2.heap.size w2).trans (b3.mono (Below.refl w2.heap.size w2).size)
        clear hHeld
        refine hK.out _ _ (KS.out _ R3) (fun hHeld => ?_)
        clear hK K
        try simp only [Act.put, List.setIfInBounds_toArray, List.set_cons_zero, List.set_cons_succ]
        refine wpAnyH_ready (rs := [4, 8]) (by kernel_rfl) (by simp) ?_
        refine AllReadyH.cons rfl (fun K hK => ?_) (AllReadyH.cons rfl (fun K hK => ?_) AllReadyH.nil)
        · go_simp
          go_at_call 44; (with_reducible refine (HMk.out _ _ _ R3 N3 h31 h32).mono ?_); rintro e v3_4 ⟨A4, c4, K4, k4, rfl, C3_4, b3_4⟩
          go_wp2_with fail
          have R3_4 : Below w2.heap.size w2 v3_4 := R3.trans (b3_4.mono R3.size)
          clear hHeld
          refine hK.out _ _ (KS.out _ R3_4) (fun hHeld => ?_)
          clear hK K
          try simp only [Act.put, List.setIfInBounds_toArray, List.set_cons_zero, List.set_cons_succ]
          refine take_at (i := 5) (v := ?_) (some 21) rfl (by kernel_rfl) (by kernel_rfl) (by kernel_rfl) (fun _ _ _ h => h) (by kernel_rfl) (Or.inl ⟨by kernel_rfl, ?_⟩) (by assumption) ?_
          rotate_left
          · (intro w hSw; (try dsimp only at hSw); go_simp <;> with_reducible rfl)
          simp only [Act.put, List.setIfInBounds_toArray, List.set_cons_zero, List.set_cons_succ]
          refine take_at (i := 6) (v := ?_) (some 27) rfl (by kernel_rfl) (by kernel_rfl) (by kernel_rfl) (fun _ _ _ h => h) (by kernel_rfl) (Or.inl ⟨by kernel_rfl, ?_⟩) (by assumption) ?_
          rotate_left
          · (intro w hSw; (try dsimp only at hSw); go_simp <;> with_reducible rfl)
          simp only [Act.put, List.setIfInBounds_toArray, List.set_cons_zero, List.set_cons_succ]
          refine take_at (i := 7) (v := ?_) (some 28) rfl (by kernel_rfl) (by kernel_rfl) (by kernel_rfl) (fun _ _ _ h => h) (by kernel_rfl) (Or.inl ⟨by kernel_rfl, ?_⟩) (by assumption) ?_
          rotate_left
          · (intro w hSw; (try dsimp only at hSw); go_simp <;> with_reducible rfl)
          simp only [Act.put, List.setIfInBounds_toArray, List.set_cons_zero, List.set_cons_succ]
          refine wpAnyH_ready (rs := [8]) (by kernel_rfl) (by simp) ?_
          refine AllReadyH.cons rfl (fun K hK => ?_) AllReadyH.nil
          go_simp
          have b3_4_8 : Below v3_4.heap.size v3_4 (v3_4.alloc (.cells #[.int .u8 0, .int .u8 0, .slice none 0 0, .slice none 0 0] 31)) := (Below.refl _ _).alloc (Nat.le_refl _) _
          have z3_4_8 : Whole (v3_4.alloc (.cells #[.int .u8 0, .int .u8 0, .slice none 0 0, .slice none 0 0] 31)) v3_4.heap.size 31 #[.int .u8 0, .int .u8 0, .slice none 0 0, .slice none 0 0] := Whole.new _ _ _
          have C3_4_8 : ChunkS (v3_4.alloc (.cells #[.int .u8 0, .int .u8 0, .slice none 0 0, .slice none 0 0] 31)) (fun b => b < v3_4.heap.size) A4 c4 K4 k4 y := C3_4.turnI (fun p hp => World.cell?_alloc_lt v3_4 _ p hp.2) (fun b hb => hb.2)
          have R3_4_8 : Below w2.heap.size w2 (v3_4.alloc (.cells #[.int .u8 0, .int .u8 0, .slice none 0 0, .slice none 0 0] 31)) := R3_4.trans (b3_4_8.mono R3_4.size)
          generalize (v3_4.alloc (.cells #[.int .u8 0, .int .u8 0, .slice none 0 0, .slice none 0 0] 31)) = v3_4_8 at *
          clear hHeld
          refine hK.out _ _ (KS.out _ R3_4_8) (fun hHeld => ?_)
          clear hK K
          try simp only [Act.put, List.setIfInBounds_toArray, List.set_cons_zero, List.set_cons_succ]
          refine wpAnyH_ready (rs := [9]) (by kernel_rfl) (by simp) ?_
          refine AllReadyH.cons rfl (fun K hK => ?_) AllReadyH.nil
          obtain ⟨e0, e1, e2, e3⟩ := wh4 z3_4_8
          have f0 := z3_4_8.frozen 0
          have f1 := z3_4_8.frozen 1
          have f2 := z3_4_8.frozen 2
          have f3 := z3_4_8.frozen 3
          go_simp
          have hge : w2.heap.size ≤ v3_4.heap.size := R3_4.size
          have RS : Below w2.heap.size w2 ((((v3_4_8.setCell ⟨v3_4.heap.size, 0, none⟩ (bv y.t)).setCell ⟨v3_4.heap.size, 1, none⟩ (bv y.fl)).setCell ⟨v3_4.heap.size, 2, none⟩ (.slice A4 y.d.length c4)).setCell ⟨v3_4.heap.size, 3, none⟩ (.slice K4 y.ks.length k4)) := (((R3_4_8.setCell (p := ⟨v3_4.heap.size, 0, none⟩) hge _).setCell (p := ⟨v3_4.heap.size, 1, none⟩) hge _).setCell (p := ⟨v3_4.heap.size, 2, none⟩) hge _).setCell (p := ⟨v3_4.heap.size, 3, none⟩) hge _
          have zS : Whole ((((v3_4_8.setCell ⟨v3_4.heap.size, 0, none⟩ (bv y.t)).setCell ⟨v3_4.heap.size, 1, none⟩ (bv y.fl)).setCell ⟨v3_4.heap.size, 2, none⟩ (.slice A4 y.d.length c4)).setCell ⟨v3_4.heap.size, 3, none⟩ (.slice K4 y.ks.length k4)) v3_4.heap.size 31 #[bv y.t, bv y.fl, .slice A4 y.d.length c4, .slice K4 y.ks.length k4] := (((z3_4_8.set_ 0 _).set_ 1 _).set_ 2 _).set_ 3 _
          have CS : ChunkS ((((v3_4_8.setCell ⟨v3_4.heap.size, 0, none⟩ (bv y.t)).setCell ⟨v3_4.heap.size, 1, none⟩ (bv y.fl)).setCell ⟨v3_4.heap.size, 2, none⟩ (.slice A4 y.d.length c4)).setCell ⟨v3_4.heap.size, 3, none⟩ (.slice K4 y.ks.length k4)) (fun b => b < v3_4.heap.size) A4 c4 K4 k4 y := C3_4_8.turnI (fun p hp => far4 _ _ _ _ _ _ p (by have h1 : p.block < v3_4.heap.size := hp; omega)) (fun b hb => hb)
          clear e0 e1 e2 e3 f0 f1 f2 f3
          clear hHeld
          refine hK.out _ _ (KS.out _ RS) (fun hHeld => ?_)
          clear hK K
          try simp only [Act.put, List.setIfInBounds_toArray, List.set_cons_zero, List.set_cons_succ]
          refine take_at (i := 10) (v := ?_) (some 8) rfl (by kernel_rfl) (by kernel_rfl) (by kernel_rfl) (fun _ _ _ h => h) (by kernel_rfl) (Or.inl ⟨by kernel_rfl, ?_⟩) (by assumption) ?_
          rotate_left
          · (intro w hSw; (try dsimp only at hSw); go_simp <;> with_reducible rfl)
          simp only [Act.put, List.setIfInBounds_toArray, List.set_cons_zero, List.set_cons_succ]
          refine wpAnyH_done (by kernel_rfl) ?_ _
          exact hT v3_4.heap.size A3 c3 A4 c4 K4 k4 _ RS zS (CS.chunk (fun b hb => Nat.lt_trans hb zS.lt)) hge
        · go_simp
          have b3_8 : Below v3.heap.size v3 (v3.alloc (.cells #[.int .u8 0, .int .u8 0, .slice none 0 0, .slice none 0 0] 31)) := (Below.refl _ _).alloc (Nat.le_refl _) _
          have z3_8 : Whole (v3.alloc (.cells #[.int .u8 0, .int .u8 0, .slice none 0 0, .slice none 0 0] 31)) v3.heap.size 31 #[.int .u8 0, .int .u8 0, .slice none 0 0, .slice none 0 0] := Whole.new _ _ _
          have N3_8 := N3.on b3_8
          have R3_8 : Below w2.heap.size w2 (v3.alloc (.cells #[.int .u8 0, .int .u8 0, .slice none 0 0, .slice none 0 0] 31)) := R3.trans (b3_8.mono R3.size)
          generalize (v3.alloc (.cells #[.int .u8 0, .int .u8 0, .slice none 0 0, .slice none 0 0] 31)) = v3_8 at *
          clear hHeld
          refine hK.out _ _ (KS.out _ R3_8) (fun hHeld => ?_)
          clear hK K
          try simp only [Act.put, List.setIfInBounds_toArray, List.set_cons_zero, List.set_cons_succ]
          refine wpAnyH_ready (rs := [4]) (by kernel_rfl) (by simp) ?_
          refine AllReadyH.cons rfl (fun K hK => ?_) AllReadyH.nil
          go_simp
          go_at_call 44; (with_reducible refine (HMk.out _ _ _ R3_8 N3_8 h31 h32).mono ?_); rintro e v3_8_4 ⟨A4, c4, K4, k4, rfl, C3_8_4, b3_8_4⟩
          go_wp2_with fail
          have R3_8_4 : Below w2.heap.size w2 v3_8_4 := R3_8.trans (b3_8_4.mono R3_8.size)
          have z3_8_4 := z3_8.below b3_8_4 z3_8.lt
          clear hHeld
          refine hK.out _ _ (KS.out _ R3_8_4) (fun hHeld => ?_)
          clear hK K
          try simp only [Act.put, List.setIfInBounds_toArray, List.set_cons_zero, List.set_cons_succ]
          refine take_at (i := 5) (v := ?_) (some 21) rfl (by kernel_rfl) (by kernel_rfl) (by kernel_rfl) (fun _ _ _ h => h) (by kernel_rfl) (Or.inl ⟨by kernel_rfl, ?_⟩) (by assumption) ?_
          rotate_left
          · (intro w hSw; (try dsimp only at hSw); go_simp <;> with_reducible rfl)
          simp only [Act.put, List.setIfInBounds_toArray, List.set_cons_zero, List.set_cons_succ]
          refine take_at (i := 6) (v := ?_) (some 27) rfl (by kernel_rfl) (by kernel_rfl) (by kernel_rfl) (fun _ _ _ h => h) (by kernel_rfl) (Or.inl ⟨by kernel_rfl, ?_⟩) (by assumption) ?_
          rotate_left
          · (intro w hSw; (try dsimp only at hSw); go_simp <;> with_reducible rfl)
          simp only [Act.put, List.setIfInBounds_toArray, List.set_cons_zero, List.set_cons_succ]
          refine take_at (i := 7) (v := ?_) (some 28) rfl (by kernel_rfl) (by kernel_rfl) (by kernel_rfl) (fun _ _ _ h => h) (by kernel_rfl) (Or.inl ⟨by kernel_rfl, ?_⟩) (by assumption) ?_
          rotate_left
          · (intro w hSw; (try dsimp only at hSw); go_simp <;> with_reducible rfl)
          simp only [Act.put, List.setIfInBounds_toArray, List.set_cons_zero, List.set_cons_succ]
          refine wpAnyH_ready (rs := [9]) (by kernel_rfl) (by simp) ?_
          refine AllReadyH.cons rfl (fun K hK => ?_) AllReadyH.nil
          obtain ⟨e0, e1, e2, e3⟩ := wh4 z3_8_4
          have f0 := z3_8_4.frozen 0
          have f1 := z3_8_4.frozen 1
          have f2 := z3_8_4.frozen 2
          have f3 := z3_8_4.frozen 3
          go_simp
          have hge : w2.heap.size ≤ v3.heap.size := R3.size
          have RS : Below w2.heap.size w2 ((((v3_8_4.setCell ⟨v3.heap.size, 0, none⟩ (bv y.t)).setCell ⟨v3.heap.size, 1, none⟩ (bv y.fl)).setCell ⟨v3.heap.size, 2, none⟩ (.slice A4 y.d.length c4)).setCell ⟨v3.heap.size, 3, none⟩ (.slice K4 y.ks.length k4)) := (((R3_8_4.setCell (p := ⟨v3.heap.size, 0, none⟩) hge _).setCell (p := ⟨v3.heap.size, 1, none⟩) hge _).setCell (p := ⟨v3.heap.size, 2, none⟩) hge _).setCell (p := ⟨v3.heap.size, 3, none⟩) hge _
          have zS : Whole ((((v3_8_4.setCell ⟨v3.heap.size, 0, none⟩ (bv y.t)).setCell ⟨v3.heap.size, 1, none⟩ (bv y.fl)).setCell ⟨v3.heap.size, 2, none⟩ (.slice A4 y.d.length c4)).setCell ⟨v3.heap.size, 3, none⟩ (.slice K4 y.ks.length k4)) v3.heap.size 31 #[bv y.t, bv y.fl, .slice A4 y.d.length c4, .slice K4 y.ks.length k4] := (((z3_8_4.set_ 0 _).set_ 1 _).set_ 2 _).set_ 3 _
          have CS : ChunkS ((((v3_8_4.setCell ⟨v3.heap.size, 0, none⟩ (bv y.t)).setCell ⟨v3.heap.size, 1, none⟩ (bv y.fl)).setCell ⟨v3.heap.size, 2, none⟩ (.slice A4 y.d.length c4)).setCell ⟨v3.heap.size, 3, none⟩ (.slice K4 y.ks.length k4)) (fun b => v3.heap.size < b ∧ b < ((((v3_8_4.setCell ⟨v3.heap.size, 0, none⟩ (bv y.t)).setCell ⟨v3.heap.size, 1, none⟩ (bv y.fl)).setCell ⟨v3.heap.size, 2, none⟩ (.slice A4 y.d.length c4)).setCell ⟨v3.heap.size, 3, none⟩ (.slice K4 y.ks.length k4)).heap.size) A4 c4 K4 k4 y := C3_8_4.turnI (fun p hp => far4 _ _ _ _ _ _ p (by have h1 := hp.1; have h2 := z3_8.lt; omega)) (fun b hb => ⟨by have h1 := hb.1; have h2 := z3_8.lt; omega, by simp only [World.size_setCell]; exact hb.2⟩)
          clear e0 e1 e2 e3 f0 f1 f2 f3
          clear hHeld
          refine hK.out _ _ (KS.out _ RS) (fun hHeld => ?_)
          clear hK K
          try simp only [Act.put, List.setIfInBounds_toArray, List.set_cons_zero, List.set_cons_succ]
          refine take_at (i := 10) (v := ?_) (some 8) rfl (by kernel_rfl) (by kernel_rfl) (by kernel_rfl) (fun _ _ _ h => h) (by kernel_rfl) (Or.inl ⟨by kernel_rfl, ?_⟩) (by assumption) ?_
          rotate_left
          · (intro w hSw; (try dsimp only at hSw); go_simp <;> with_reducible rfl)
          simp only [Act.put, List.setIfInBounds_toArray, List.set_cons_zero, List.set_cons_succ]
          refine wpAnyH_done (by kernel_rfl) ?_ _
          exact hT v3.heap.size A3 c3 A4 c4 K4 k4 _ RS zS (CS.chunk (fun b hb => hb.2)) hge
      · go_simp
        have b8 : Below w2.heap.size w2 (w2.alloc (.cells #[.int .u8 0, .int .u8 0, .slice none 0 0, .slice none 0 0] 31)).drew := below_drew ((Below.refl _ _).alloc (Nat.le_refl _) _)
        have z8 : Whole (w2.alloc (.cells #[.int .u8 0, .int .u8 0, .slice none 0 0, .slice none 0 0] 31)).drew w2.heap.size 31 #[.int .u8 0, .int .u8 0, .slice none 0 0, .slice none 0 0] := Whole.new w2 _ _
        have R8 : Below w2.heap.size w2 (w2.alloc (.cells #[.int .u8 0, .int .u8 0, .slice none 0 0, .slice none 0 0] 31)).drew := (Below.refl w2.heap.size w2).trans (b8.mono (Below.refl w2.heap.size w2).size)
        generalize (w2.alloc (.cells #[.int .u8 0, .int .u8 0, .slice none 0 0, .slice none 0 0] 31)).drew = v8 at *
        clear hHeld
        refine hK.out _ _ (KS.out _ R8) (fun hHeld => ?_)
        clear hK K
        try simp only [Act.put, List.setIfInBounds_toArray, List.set_cons_zero, List.set_cons_succ]
        refine wpAnyH_ready (rs := [3]) (by kernel_rfl) (by simp) ?_
        refine AllReadyH.cons rfl (fun K hK => ?_) AllReadyH.nil
        go_simp
        go_at_call 45; (with_reducible refine (HCl.out _ R8).mono ?_); rintro e v8_3 ⟨A3, c3, rfl, nS8_3, h31, h32, b8_3⟩
        go_wp2_with fail
        have N8_3 : Nodes v8_3 v8_3.heap.size A3 ks := nS8_3.nodes (fun b hb => hb.2.1)
        have R8_3 : Below w2.heap.size w2 v8_3 := R8.trans (b8_3.mono R8.size)
        have z8_3 := z8.below b8_3 z8.lt
        clear hHeld
        refine hK.out _ _ (KS.out _ R8_3) (fun hHeld => ?_)
        clear hK K
        try simp only [Act.put, List.setIfInBounds_toArray, List.set_cons_zero, List.set_cons_succ]
        refine wpAnyH_ready (rs := [4]) (by kernel_rfl) (by simp) ?_
        refine AllReadyH.cons rfl (fun K hK => ?_) AllReadyH.nil
        go_simp
        go_at_call 44; (with_reducible refine (HMk.out _ _ _ R8_3 N8_3 h31 h32).mono ?_); rintro e v8_3_4 ⟨A4, c4, K4, k4, rfl, C8_3_4, b8_3_4⟩
        go_wp2_with fail
        have R8_3_4 : Below w2.heap.size w2 v8_3_4 := R8_3.trans (b8_3_4.mono R8_3.size)
        have z8_3_4 := z8_3.below b8_3_4 z8_3.lt
        clear hHeld
        refine hK.out _ _ (KS.out _ R8_3_4) (fun hHeld => ?_)
        clear hK K
        try simp only [Act.put, List.setIfInBounds_toArray, List.set_cons_zero, List.set_cons_succ]
        refine take_at (i := 5) (v := ?_) (some 21) rfl (by kernel_rfl) (by kernel_rfl) (by kernel_rfl) (fun _ _ _ h => h) (by kernel_rfl) (Or.inl ⟨by kernel_rfl, ?_⟩) (by assumption) ?_
        rotate_left
        · (intro w hSw; (try dsimp only at hSw); go_simp <;> with_reducible rfl)
        simp only [Act.put, List.setIfInBounds_toArray, List.set_cons_zero, List.set_cons_succ]
        refine take_at (i := 6) (v := ?_) (some 27) rfl (by kernel_rfl) (by kernel_rfl) (by kernel_rfl) (fun _ _ _ h => h) (by kernel_rfl) (Or.inl ⟨by kernel_rfl, ?_⟩) (by assumption) ?_
        rotate_left
        · (intro w hSw; (try dsimp only at hSw); go_simp <;> with_reducible rfl)
        simp only [Act.put, List.setIfInBounds_toArray, List.set_cons_zero, List.set_cons_succ]
        refine take_at (i := 7) (v := ?_) (some 28) rfl (by kernel_rfl) (by kernel_rfl) (by kernel_rfl) (fun _ _ _ h => h) (by kernel_rfl) (Or.inl ⟨by kernel_rfl, ?_⟩) (by assumption) ?_
        rotate_left
        · (intro w hSw; (try dsimp only at hSw); go_simp <;> with_reducible rfl)
        simp only [Act.put, List.setIfInBounds_toArray, List.set_cons_zero, List.set_cons_succ]
        refine wpAnyH_ready (rs := [9]) (by kernel_rfl) (by simp) ?_
        refine AllReadyH.cons rfl (fun K hK => ?_) AllReadyH.nil
        obtain ⟨e0, e1, e2, e3⟩ := wh4 z8_3_4
        have f0 := z8_3_4.frozen 0
        have f1 := z8_3_4.frozen 1
        have f2 := z8_3_4.frozen 2
        have f3 := z8_3_4.frozen 3
        go_simp
        have hge : w2.heap.size ≤ w2.heap.size := (Below.refl w2.heap.size w2).size
        have RS : Below w2.heap.size w2 ((((v8_3_4.setCell ⟨w2.heap.size, 0, none⟩ (bv y.t)).setCell ⟨w2.heap.size, 1, none⟩ (bv y.fl)).setCell ⟨w2.heap.size, 2, none⟩ (.slice A4 y.d.length c4)).setCell ⟨w2.heap.size, 3, none⟩ (.slice K4 y.ks.length k4)) := (((R8_3_4.setCell (p := ⟨w2.heap.size, 0, none⟩) hge _).setCell (p := ⟨w2.heap.size, 1, none⟩) hge _).setCell (p := ⟨w2.heap.size, 2, none⟩) hge _).setCell (p := ⟨w2.heap.size, 3, none⟩) hge _
        have zS : Whole ((((v8_3_4.setCell ⟨w2.heap.size, 0, none⟩ (bv y.t)).setCell ⟨w2.heap.size, 1, none⟩ (bv y.fl)).setCell ⟨w2.heap.size, 2, none⟩ (.slice A4 y.d.length c4)).setCell ⟨w2.heap.size, 3, none⟩ (.slice K4 y.ks.length k4)) w2.heap.size 31 #[bv y.t, bv y.fl, .slice A4 y.d.length c4, .slice K4 y.ks.length k4] := (((z8_3_4.set_ 0 _).set_ 1 _).set_ 2 _).set_ 3 _
        have CS : ChunkS ((((v8_3_4.setCell ⟨w2.heap.size, 0, none⟩ (bv y.t)).setCell ⟨w2.heap.size, 1, none⟩ (bv y.fl)).setCell ⟨w2.heap.size, 2, none⟩ (.slice A4 y.d.length c4)).setCell ⟨w2.heap.size, 3, none⟩ (.slice K4 y.ks.length k4)) (fun b => w2.heap.size < b ∧ b < ((((v8_3_4.setCell ⟨w2.heap.size, 0, none⟩ (bv y.t)).setCell ⟨w2.heap.size, 1, none⟩ (bv y.fl)).setCell ⟨w2.heap.size, 2, none⟩ (.slice A4 y.d.length c4)).setCell ⟨w2.heap.size, 3, none⟩ (.slice K4 y.ks.length k4)).heap.size) A4 c4 K4 k4 y := C8_3_4.turnI (fun p hp => far4 _ _ _ _ _ _ p (by have h1 := hp.1; have h2 := z8_3.lt; omega)) (fun b hb => ⟨by have h1 := hb.1; have h2 := z8_3.lt; omega, by simp only [World.size_setCell]; exact hb.2⟩)
        clear e0 e1 e2 e3 f0 f1 f2 f3
        clear hHeld
        refine hK.out _ _ (KS.out _ RS) (fun hHeld => ?_)
        clear hK K
        try simp only [Act.put, List.setIfInBounds_toArray, List.set_cons_zero, List.set_cons_succ]
        refine take_at (i := 10) (v := ?_) (some 8) rfl (by kernel_rfl) (by kernel_rfl) (by kernel_rfl) (fun _ _ _ h => h) (by kernel_rfl) (Or.inl ⟨by kernel_rfl, ?_⟩) (by assumption) ?_
        rotate_left
        · (intro w hSw; (try dsimp only at hSw); go_simp <;> with_reducible rfl)
        simp only [Act.put, List.setIfInBounds_toArray, List.set_cons_zero, List.set_cons_succ]
        refine wpAnyH_done (by kernel_rfl) ?_ _
        exact hT w2.heap.size A3 c3 A4 c4 K4 k4 _ RS zS (CS.chunk (fun b hb => hb.2)) hge
    clear HCl HMk
    intro g A3 c3 A4 c4 K4 k4 wz RZ zZ CZ hge
    obtain ⟨q0, q1, q2, q3, q4⟩ := KS.out wz RZ
    have hRM := HRM.out wz RZ
    go_wp2_with fail
    refine hRM.mono ?_
    rintro e w4 ⟨A5, c5, rfl, C4, b4⟩
    have R4 := RZ.trans (b4.mono RZ.size)
    have z4 := zZ.below b4 zZ.lt
    have CY4 := CZ.on b4
    clear q0 q1 q2 q3 q4 hRM zZ CZ b4
    go_upto_region 5 with fail
    have v5 : Below w4.heap.size w4 (w4.alloc (.cells #[bv x.t, bv x.fl, .slice A5 x.d.length c5, .slice K x.ks.length k] 31)) := (Below.refl _ _).alloc (Nat.le_refl _) _
    have u5 := Whole.new w4 31 #[bv x.t, bv x.fl, .slice A5 x.d.length c5, .slice K x.ks.length k]
    have z5 := z4.below v5 z4.lt
    have CY5 := CY4.on v5
    have CX5 := C4.on v5
    have R5 := R4.trans (v5.mono R4.size)
    have hg5 : w2.heap.size ≤ w4.heap.size := R4.size
    generalize w4.alloc (.cells #[bv x.t, bv x.fl, .slice A5 x.d.length c5, .slice K x.ks.length k] 31) = w5 at *
    generalize w4.heap.size = g5 at *
    clear v5 z4 CY4 C4 R4
    obtain ⟨m0, m1, m2, m3⟩ := wh4 u5
    have hRC := HRC.out w5 A5 c5 CX5
    have hcc := HCC.out
    cases ob with
    | false =>
      have e1 := HZ0.out rfl
      subst e1
      have hOf := HOf.out
      unfold OfIR ofVl ofK at hOf
      rw [zck_is] at hOf
      have HOf2 : Hid (∀ (V : World) (A' : Option Addr) (c' : Nat) (K' : Option Addr) (k' : Nat), Below w2.heap.size w2 V → Chunk V V.heap.size A' c' K' k' ⟨0, 0, [], []⟩ → Calls Tryz.prog 47 #[.agg #[.int .u8 0, .int .u8 0, .slice A' 0 c', .slice K' 0 k']] V fun e w' => Below V.heap.size V w' ∧ ∃ A9 c9, e = .returned (.tuple #[.agg #[.int .u32 0, .int .u32 0, .int .u16 0, .int .u16 0, .int .u32 0], .slice A9 0 c9, .bool false])) := Lib.hid (fun V A' c' K' k' h1 h2 => Calls.mono (hOf V A' c' K' k' h1 h2) fun e w' h => by
        obtain ⟨hb, A9, c9, he, _⟩ := h
        exact ⟨hb, A9, c9, he⟩)
      have z5' : Whole w5 g 31 #[.int .u8 0, .int .u8 0, .slice A4 0 c4, .slice K4 0 k4] := z5
      clear hOf HZ1 HZ0 HOf HRM HCC
      go_wp2_with fail
      refine hRC.mono ?_
      rintro e w6 ⟨rfl, b6⟩
      have z6 := z5'.below b6 z5'.lt
      have CY6 := CY5.on b6
      have R6 := R5.trans (b6.mono R5.size)
      clear m0 m1 m2 m3 hRC z5 z5' u5 CY5 CX5 b6 R5
      obtain ⟨m0, m1, m2, m3⟩ := wh4 z6
      have hO := HOf2.out w6 A4 c4 K4 k4 R6 CY6
      go_wp2_with fail
      refine hO.mono ?_
      rintro e w7 ⟨b7, A7, c7, rfl⟩
      have z7 := z6.below b7 z6.lt
      have CY7 := CY6.on b7
      have R7 := R6.trans (b7.mono R6.size)
      clear m0 m1 m2 m3 hO z6 CY6 b7 R6
      go_upto_region 8 with fail
      have v8 : Below w7.heap.size w7 (w7.alloc (.cells #[.int .u32 0, .int .u32 0, .int .u16 0, .int .u16 0, .int .u32 0] 80)) := (Below.refl _ _).alloc (Nat.le_refl _) _
      have z8 := z7.below v8 z7.lt
      have CY8 := CY7.on v8
      have R8 := R7.trans (v8.mono R7.size)
      generalize w7.alloc (.cells #[.int .u32 0, .int .u32 0, .int .u16 0, .int .u16 0, .int .u32 0] 80) = w8 at *
      generalize w7.heap.size = g8 at *
      clear v8 z7 CY7 R7
      obtain ⟨m0, m1, m2, m3⟩ := wh4 z8
      have hS : Calls Tryz.prog 20 #[.agg #[.int .u8 0, .int .u8 0, .slice A4 0 c4, .slice K4 0 k4], .agg #[.int .u8 0, .int .u8 0, .slice none 0 0, .slice none 0 0]] w8 fun e w' => e = .returned (.bool true) ∧ Below w8.heap.size w8 w' := by
        have h9 := rcsame12 ⟨0, 0, [], []⟩ ⟨0, 0, [], []⟩ (by simp) (by simp) (by simp) A4 c4 K4 k4 none 0 none 0 w8 CY8 ⟨Lies.nil, Nat.le_refl _, Nat.zero_le _, Nodes.nil _ _ _, Nat.le_refl _, Nat.zero_le _⟩
        rw [ckEq_selfI] at h9
        exact h9
      clear z8 CY8
      go_wp2_with fail
      refine hS.mono ?_
      rintro e w9 ⟨rfl, b9⟩
      go_wp2_with fail
      go_ret
      exact ⟨rfl, HB2.out.trans ((R8.trans (b9.mono R8.size)).mono HB2.out.size)⟩
    | true =>
      obtain ⟨e1, e2, e3, e4⟩ := HZ1.out rfl
      subst e1
      have hOf := HOf.out
      unfold OfIR at hOf
      rw [e2, e3, e4] at hOf
      have HOf2 := Lib.hid hOf
      have EQ0 := eq_valsR ⟨tg, wd, ou, ii, ts⟩ ⟨tg, wd, ou, ii, ts⟩
      rw [vlEq_self] at EQ0
      have HEQ := Lib.hid EQ0
      clear e2 e3 e4 hOf EQ0 HZ1 HZ0 HOf HRM HCC
      simp only [vlV] at *
      go_wp2_with fail
      refine hRC.mono ?_
      rintro e w6 ⟨rfl, b6⟩
      have z6 := z5.below b6 z5.lt
      have u6 := u5.below b6 u5.lt
      have CY6 := CY5.on b6
      have CX6 := CX5.on b6
      have R6 := R5.trans (b6.mono R5.size)
      clear m0 m1 m2 m3 hRC z5 u5 CY5 CX5 b6 R5
      obtain ⟨m0, m1, m2, m3⟩ := wh4 z6
      have hO := HOf2.out w6 A4 c4 K4 k4 R6 CY6
      go_wp2_with fail
      refine hO.mono ?_
      rintro e w7 ⟨b7, A7, c7, rfl, N7, h71, h72⟩
      have z7 := z6.below b7 z6.lt
      have u7 := u6.below b7 u6.lt
      have CY7 := CY6.on b7
      have CX7 := CX6.on b7
      have R7 := R6.trans (b7.mono R6.size)
      clear m0 m1 m2 m3 hO z6 u6 CY6 CX6 b7 R6
      go_upto_region 8 with fail
      have v8 : Below w7.heap.size w7 (w7.alloc (.cells #[uv tg, uv wd, hv ou, hv ii, uv ts] 80)) := (Below.refl _ _).alloc (Nat.le_refl _) _
      have t8 := Whole.new w7 80 #[uv tg, uv wd, hv ou, hv ii, uv ts]
      have z8 := z7.below v8 z7.lt
      have u8 := u7.below v8 u7.lt
      have CY8 := CY7.on v8
      have CX8 := CX7.on v8
      have N8 := N7.on v8
      have R8 := R7.trans (v8.mono R7.size)
      generalize w7.alloc (.cells #[uv tg, uv wd, hv ou, hv ii, uv ts] 80) = w8 at *
      generalize w7.heap.size = g8 at *
      clear v8 z7 u7 CY7 CX7 N7 R7
      obtain ⟨m0, m1, m2, m3⟩ := wh4 z8
      obtain ⟨n0, n1, n2, n3⟩ := wh4 u8
      have hS := HS1.out w8 A4 c4 K4 k4 A5 c5 CY8 CX8
      go_wp2_with fail
      refine hS.mono ?_
      rintro e w9 ⟨rfl, b9⟩
      have R9 := R8.trans (b9.mono R8.size)
      have t9 := t8.below b9 t8.lt
      have N9 := N8.on b9
      obtain ⟨q0, q1, q2, q3, q4⟩ := KS.out w9 R9
      obtain ⟨p0, p1, p2, p3, p4⟩ := t9.cs5
      have EQ := HEQ.out
      have hK := rsameS ks A7 K c7 k w9 N9 (HNK.out w9 R9) HKS9.out
      clear m0 m1 m2 m3 n0 n1 n2 n3 hS z8 u8 CY8 CX8 N8 t8 t9 b9 R8
      go_wp2_with fail
      refine hK.mono ?_
      rintro e w10 ⟨rfl, b10⟩
      go_wp2_with fail
      go_ret
      exact ⟨rfl, HB2.out.trans ((R9.trans (b10.mono R9.size)).mono HB2.out.size)⟩
set_option maxRecDepth 100000 in
theorem law_InitialMatchesReference {H : Type} {enc : TypeId × Value → H} {W : World} {base : Nat} {v0 v1 v2 : Value} {d0 d1 d2 : DataW H} {p0 p1 p2 : List MemPlace}
    (o0 : Value.okWide Tryz.prog W .any base 4 v0) (_h0 : DataW.Trod enc Tryz.prog W 0 (fun _ => true) true 4 v0 d0 p0) (_s0 : Small Tryz.prog 4 d0)
    (o1 : Value.okWide Tryz.prog W .any base 77 v1) (h1 : DataW.Trod enc Tryz.prog W 0 (fun _ => true) true 77 v1 d1 p1) (_s1 : Small Tryz.prog 77 d1)
    (o2 : Value.okWide Tryz.prog W .any base 29 v2) (h2 : DataW.Trod enc Tryz.prog W 0 (fun _ => true) true 29 v2 d2 p2) (s2 : Small Tryz.prog 29 d2) (hL : laidMetH Tryz.prog laidL W) :
    Calls Tryz.prog 10 #[v0, v1, v2] W fun e w' => e = .returned (.bool true) ∧ Below W.heap.size W w' := by
  obtain ⟨an, rfl⟩ := okWide_bool Tryz.underlying4 o0
  obtain ⟨v, rfl⟩ := open_vals o1 h1
  obtain ⟨A, cc, ns, rfl, hN, hk, hm, hB⟩ := open_nodes o2 h2 s2
  exact imr_law an v ns (by unfold maxLen at hm; omega) hB A cc hk hm W hN (handle_of_laid hL)
end Go.Proofs.YtdcppcoldaaldaaGreatDoor


