/- Layer 15: the law InitialCookies (written by tools/gen_init_q.py). It writes nothing that was there. -/
import Derived.Test.YtdcppcoldaaldaaGreatDoorQInitH
import Derived.Test.YtdcppcoldaaldaaGreatDoorQCT
import Derived.Test.YtdcppcoldaaldaaGreatDoorQCO
import Derived.Test.YtdcppcoldaaldaaGreatDoorQCX
import Derived.Test.YtdcppcoldaaldaaGreatDoorQCL
import Derived.Test.YtdcppcoldaaldaaGreatDoorQNW
import Derived.Test.YtdcppcoldaaldaaGreatDoorQNF
import Derived.Test.YtdcppcoldaaldaaGreatDoorQNS
import Derived.Test.YtdcppcoldaaldaaGreatDoorQNodeUO
import Derived.BigGuard
import Derived.Deep.RegionHeld3











namespace Go.Proofs.YtdcppcoldaaldaaGreatDoor
open Go.ChangeShapes Go.WideShapes Go.ChangeAt Go.RowKit

set_option linter.unusedSimpArgs false
theorem u8_succ (a : UInt8) : ((a.toNat : Int) != ((a.toNat : Int) + 1) % 256) = true := by
  have := a.toNat_lt
  rw [bne_iff_ne]
  omega
set_option maxRecDepth 100000 in
set_option maxHeartbeats 16000000 in
theorem ico_p (x : Ck) (ll : List UInt8) (hpos : 0 < ll.length) (hcl : ckyL x = ll) (hk : x.ks.length ≤ 9223372036854775807) (hb : ∀ n ∈ x.ks, Bnd n) (A : Option Addr) (c : Nat) (K : Option Addr) (k : Nat) (w : World) (h : Chunk w w.heap.size A c K k x) (hh : Handle w) :
    Calls Tryz.prog 12 #[ckV x A c K k] w fun e w' => e = .returned (.bool true) ∧ Below w.heap.size w w' := by
  have b0 : Below w.heap.size w (w.alloc (.cells (ckCells x A c K k) 31)) := (Below.refl _ w).alloc (Nat.le_refl _) _
  have x0 := CkBox.new w x A c K k
  have hx0 := h.on b0
  have H0 := hh.below b0 hh.lt
  have hF := rfew12 x hk hb A c K k
  have HH := Lib.hid hh
  have HCL := Lib.hid hcl
  have hcb : ckyB x = true := by
    cases hb : ckyB x with
    | true => rfl
    | false => unfold ckyL at hcl; rw [hb] at hcl; rw [← hcl] at hpos; simp at hpos
  have HCB := Lib.hid hcb
  have HPos := Lib.hid hpos
  clear hcb hcl hpos
  have HK := Lib.hid hk
  clear hk hb h hh
  go_enter Tryz.func12, Tryz.ntmps12
  go_wp2_with fail
  generalize w.alloc (.cells (ckCells x A c K k) 31) = w0 at *
  refine (awake15_any w0 H0).mono ?_
  rintro e w1 ⟨rfl, b1⟩
  have B1 := b0.trans (b1.mono b0.size)
  have x1 := x0.below b1
  have hx1 := hx0.on b1
  have hF1 := hF w1 hx1
  obtain ⟨q0, q1, q2, q3⟩ := x1.cs
  cases hf : fewB x with
  | false =>
    rw [hf] at hF1
    clear hf hF
    go_wp2_with fail
    refine hF1.mono ?_
    rintro e w2 ⟨rfl, b2⟩
    have B2 := B1.trans (b2.mono B1.size)
    go_wp2_with fail
    refine (awake15_any w2 (HH.out.below B2 HH.out.lt)).mono ?_
    rintro e w3 ⟨rfl, b3⟩
    go_wp2_with fail
    go_ret
    exact ⟨rfl, B2.trans (b3.mono B2.size)⟩
  | true =>
    obtain ⟨hfine, hd7, hk2, hsz⟩ := ck_fine hf
    rw [hf] at hF1
    clear hf hF
    go_wp2_with fail
    refine hF1.mono ?_
    rintro e w2 ⟨rfl, b2⟩
    have B2 := B1.trans (b2.mono B1.size)
    have x2 := x1.below b2
    have hx2 := hx1.on b2
    clear q0 q1 q2 q3 hF1 x0 x1 hx0 hx1 H0
    obtain ⟨q0, q1, q2, q3⟩ := x2.cs
    have H1 : Hid (∀ V, Below w2.heap.size w2 V → Calls Tryz.prog 51 #[ckV x A c K k] V fun e w' => ∃ A' c', e = .returned (.tuple #[.slice A' ll.length c', .bool true]) ∧ w'.ownsRow V.heap.size 5 1 (.slice A' ll.length c') ll.length (ll.map bv) ∧ Below V.heap.size V w') := Lib.hid (fun V hV => by
      have h9 := icookie_any x hfine A c K k V (hx2.on hV) (HH.out.below (B2.trans (hV.mono B2.size)) HH.out.lt)
      rw [HCL.out, HCB.out] at h9
      exact h9)
    have H2 : Hid (∀ V, Below w2.heap.size w2 V → Calls Tryz.prog 52 #[ckV x A c K k] V fun e w' => ∃ A' c', e = .returned (.tuple #[.slice A' ll.length c', .bool true]) ∧ Lies w' V.heap.size A' (ll.map bv) ∧ ll.length ≤ c' ∧ c' ≤ maxLen ∧ Below V.heap.size V w') := Lib.hid (fun V hV => by
      have h9 := rCookie_any x hfine A c K k V (hx2.on hV)
      rw [HCL.out, HCB.out] at h9
      exact h9)
    have H3 : Hid (∀ V, Below w2.heap.size w2 V → Calls Tryz.prog 53 #[ckV x A c K k] V fun e w' => ∃ A' c', e = .returned (.tuple #[.agg #[.int .u8 10, .int .u8 0, .slice A' ll.length c', .slice none 0 0], .bool true]) ∧ Chunk w' w'.heap.size A' c' none 0 ⟨10, 0, ll, []⟩ ∧ Below V.heap.size V w') := Lib.hid (fun V hV => by
      have h9 := iecho_any x hfine A c K k V (hx2.on hV) (HH.out.below (B2.trans (hV.mono B2.size)) HH.out.lt)
      have e1 : ecC x = ⟨10, 0, ll, []⟩ := by unfold ecC; rw [HCL.out]; rw [if_pos HPos.out]
      have e2 : ecB x = true := by unfold ecB; rw [HCL.out]; exact decide_eq_true HPos.out
      rw [e1, e2] at h9
      exact h9)
    have HB2 := Lib.hid B2
    have hs2 := x2.lt
    have X2 := Lib.hid x2
    have hlen : ll.length ≤ 800000 := by
      have h1 := (fnd_small x 7 hfine).2
      have h2 := HCL.out
      unfold ckyL at h2
      rw [HCB.out, if_pos rfl] at h2
      cases hL : fndI x 7 with
      | nil =>
        have h3 := HCB.out
        unfold ckyB at h3
        rw [hL] at h3
        simp at h3
      | cons n L =>
        rw [hL] at h2
        have h4 := h1 n (by rw [hL]; exact List.mem_cons_self ..)
        have h5 : n.v = ll := h2
        rw [← h5]
        exact h4
    have HLen := Lib.hid hlen
    clear hlen
    clear hfine hd7 hk2 hsz HK hx2 HH B2 b0 b1 b2 B1 HCL HCB
    obtain ⟨t, fl, d, ks⟩ := x
    simp only [ckV, ckCells] at *
    go_wp2_with fail
    refine (H1.out w2 (Below.refl _ _)).mono ?_
    rintro e w3 ⟨A3, c3, rfl, o3, b3⟩
    have x3 := CkBox.below x2 b3
    clear q0 q1 q2 q3
    obtain ⟨q0, q1, q2, q3⟩ := CkBox.cs (x := ⟨t, fl, d, ks⟩) x3
    simp only at q0 q1 q2 q3
    obtain ⟨g, cur, rfl, hgb, hW3, hcs, htk⟩ : ∃ g cur, A3 = some ⟨g, 0, none⟩ ∧ w2.heap.size ≤ g ∧ Whole w3 g 5 cur ∧ ll.length ≤ cur.size ∧ cur.toList.take ll.length = ll.map bv := by
      rcases o3.2 with ⟨_, h2⟩ | ⟨g, cap, cur, h1, h2, h3, h4, h5, h6, h7⟩
      · have := HPos.out; omega
      · simp only [Value.slice.injEq] at h1
        rw [Nat.mul_one] at h6 h7
        exact ⟨g, cur, h1.1, h2, h3, by omega, h7⟩
    have L3 : Lies w3 w3.heap.size (some ⟨g, 0, none⟩) (ll.map bv) := Lies.own o3
    have hc3 := own_cap o3
    clear o3
    go_wp2_with fail
    refine (H2.out w3 b3).mono ?_
    rintro e w4 ⟨A4, c4, rfl, L4, m41, m42, b4⟩
    have x4 := CkBox.below x3 b4
    have B4 := b3.trans (b4.mono b3.size)
    have L34 := (L3.below b4).more b4.size
    have L44 := L4.more b4.size
    clear q0 q1 q2 q3 L3 L4
    obtain ⟨q0, q1, q2, q3⟩ := CkBox.cs (x := ⟨t, fl, d, ks⟩) x4
    simp only at q0 q1 q2 q3
    go_wp2_with fail
    refine (H3.out w4 B4).mono ?_
    rintro e w5 ⟨A5, c5, rfl, hC5, b5⟩
    have x5 := CkBox.below x4 b5
    have B5 := B4.trans (b5.mono B4.size)
    have L35 := (L34.below b5).more b5.size
    have L45 := (L44.below b5).more b5.size
    clear q0 q1 q2 q3 L34 L44
    go_upto_region 6 with fail
    have v6 : Below w5.heap.size w5 (w5.alloc (.cells #[.int .u8 10, .int .u8 0, .slice A5 ll.length c5, .slice none 0 0] 31)) := (Below.refl _ _).alloc (Nat.le_refl _) _
    have y6 := Whole.new w5 31 #[.int .u8 10, .int .u8 0, .slice A5 ll.length c5, .slice none 0 0]
    have x6 := CkBox.below x5 v6
    have hC6 := hC5.on v6
    have B6 := B5.trans (v6.mono B5.size)
    have L36 := (L35.below v6).more v6.size
    have L46 := (L45.below v6).more v6.size
    have hW6 := ((hW3.below b4 (by have := hW3.lt; exact this)).below b5 (by have := hW3.lt; have := b4.size; omega)).below v6 (by have := hW3.lt; have := b4.size; have := b5.size; omega)
    generalize w5.alloc (.cells #[.int .u8 10, .int .u8 0, .slice A5 ll.length c5, .slice none 0 0] 31) = w6 at *
    generalize w5.heap.size = g5 at *
    have hS : Calls Tryz.prog 54 #[.slice (some ⟨g, 0, none⟩) ll.length c3, .slice A4 ll.length c4] w6 fun e w' => e = .returned (.bool true) ∧ ∃ q, w' = w6.drewN q := by
      have h9 := same_any (some ⟨g, 0, none⟩) A4 c3 c4 w6.heap.size ll ll w6 L36 L46 (by have := HLen.out; unfold maxLen; omega)
      rw [decide_eq_true rfl] at h9
      exact h9
    clear L35 L45 hC5 v6 x5
    have hgt := HPos.out
    have hgt2 : (0 : Int) < (ll.length : Int) := by omega
    have hne0 : ¬ ll = [] := fun e => by rw [e] at hgt; simp at hgt
    have hn00 : ((ll.length : Int) == 0) = false := by rw [beq_eq_false_iff_ne]; omega
    go_wp2_with fail
    refine hS.mono ?_
    rintro e w7 ⟨rfl, q, rfl⟩
    have x7 : Whole (w6.drewN q) w.heap.size 31 #[bv t, bv fl, .slice A d.length c, .slice K ks.length k] := x6
    have y7 : Whole (w6.drewN q) g5 31 #[.int .u8 10, .int .u8 0, .slice A5 ll.length c5, .slice none 0 0] := y6
    have hC7 := hC6.on (below_drewN (Below.refl _ _) q)
    have B7 := below_drewN B6 q
    have L47 : Lies (w6.drewN q) (w6.drewN q).heap.size A4 (ll.map bv) := (L46.below (below_drewN (Below.refl _ _) q)).more (Nat.le_refl _)
    have hW7 : Whole (w6.drewN q) g 5 cur := hW6
    clear hS x6 y6 hC6 L36 L46 B6
    generalize w6.drewN q = w7 at *
    obtain ⟨k0, k1', k2', k3'⟩ := wh4 y7
    have hT : Calls Tryz.prog 20 #[.agg #[.int .u8 10, .int .u8 0, .slice A5 ll.length c5, .slice none 0 0], .agg #[.int .u8 10, .int .u8 0, .slice A4 ll.length c4, .slice none 0 0]] w7 fun e w' => e = .returned (.bool true) ∧ Below w7.heap.size w7 w' := by
      have h9 := rcsame12 ⟨10, 0, ll, []⟩ ⟨10, 0, ll, []⟩ (by have := HLen.out; unfold maxLen; show ll.length ≤ _; omega) (by simp) (by simp) A5 c5 none 0 A4 c4 none 0 w7 hC7 ⟨L47, m41, m42, Nodes.nil _ _ _, Nat.le_refl _, Nat.zero_le _⟩
      rw [ckEq_selfI] at h9
      exact h9
    go_wp2_with fail
    refine hT.mono ?_
    rintro e w8 ⟨rfl, b8⟩
    have x8 := Whole.below x7 b8 x7.lt
    have B8 := B7.trans (b8.mono B7.size)
    have hW8 := hW7.below b8 hW7.lt
    clear hW3 hW6 hW7
    clear k0 k1' k2' k3' hT x7 y7 hC7 L47 B7 x4 x3 b3 b4 b5 B4 B5
    obtain ⟨q0, q1, q2, q3⟩ := wh4 x8
    have HLb : ∀ i y, ll[i]? = some y → w8.cell? ⟨g, i, none⟩ = some (bv y) := fun i y hy => by
      have hi := (List.getElem?_eq_some_iff.1 hy).1
      rw [hW8.cell, ← Array.getElem?_toList]
      have h9 : (cur.toList.take ll.length)[i]? = some (bv y) := by rw [htk, List.getElem?_map, hy]; rfl
      rwa [List.getElem?_take, if_pos hi] at h9
    have HLB := Lib.hid HLb
    have hfz : ∀ (W : World) (cs : Array Value), Whole W g 5 cs → ∀ i, W.frozen? ⟨g, i, none⟩ = false := fun W cs hW i => hW.frozen i
    have HFZ := Lib.hid hfz
    have HW8 := Lib.hid hW8
    have hg8 : w8.heap.size > g := hW8.lt
    clear HLb hfz htk hW8
    go_upto_region 12 with fail
    go_loopw [10] (fun i wr => ∃ (j : Nat) (cs : Array Value), j ≤ ll.length ∧ i = .int .i64 (j : Int) ∧ Whole wr g 5 cs ∧ Below w2.heap.size w2 wr ∧ (∀ i y, j ≤ i → ll[i]? = some y → wr.cell? ⟨g, i, none⟩ = some (bv y)) ∧ (0 < j → ∀ y, ll[0]? = some y → wr.cell? ⟨g, 0, none⟩ = some (.int .u8 (((y.toNat : Int) + 1) % 256)))) (fun i _ => ll.length - (intOf i).toNat)
    case atStart => exact ⟨0, cur, Nat.zero_le _, rfl, HW8.out, B8, fun i y _ hy => HLB.out i y hy, fun h => absurd h (Nat.lt_irrefl 0)⟩
    case round =>
      obtain ⟨j, cs, hj, rfl, hWr, hBr, hA, hZ⟩ := hrel
      by_cases hlt : j < ll.length
      · obtain ⟨y, hy⟩ : ∃ y, ll[j]? = some y := ⟨_, List.getElem?_eq_getElem hlt⟩
        have hi1 : (j : Int) < (ll.length : Int) := by omega
        have r0 : wr.cell? ⟨g, j, none⟩ = some (bv y) := hA j y (Nat.le_refl _) hy
        have f0 : wr.frozen? ⟨g, j, none⟩ = false := HFZ.out wr cs hWr j
        have HA := Lib.hid hA
        have HZ := Lib.hid hZ
        have HY := Lib.hid hy
        clear hA hZ hy
        have hl8 := HLen.out
        go_wp2_with fail
        go_roundw
        case rel =>
          refine ⟨j + 1, _, by omega, by go_num, hWr.set_ j _, hBr.setCell (p := ⟨g, j, none⟩) hgb _, fun i y' hi hy' => ?_, fun _ y' hy' => ?_⟩
          · rw [World.cell?_setCell_other _ _ _ _ (fun e => by have e2 := congrArg Addr.off e; simp only at e2; omega)]
            exact HA.out i y' (by omega) hy'
          · rcases Nat.eq_zero_or_pos j with h0 | h0
            · subst h0
              obtain rfl : y = y' := by
                have h9 := HY.out
                rw [hy'] at h9
                exact (Option.some.inj h9).symm
              rw [(hWr.set_ 0 _).cell]
              have hcz := HA.out 0 y (Nat.le_refl _) hy'
              rw [hWr.cell] at hcz
              have hsz := (Array.getElem?_eq_some_iff.1 hcz).1
              simp [hsz]
            · rw [World.cell?_setCell_other _ _ _ _ (fun e => by have e2 := congrArg Addr.off e; simp only at e2; omega)]
              exact HZ.out h0 y' hy'
        case measure => simp [intOf]; omega
      · obtain rfl : j = ll.length := by omega
        have hi1 : ¬ (ll.length : Int) < (ll.length : Int) := by omega
        obtain ⟨y, hy⟩ : ∃ y, ll[0]? = some y := ⟨_, List.getElem?_eq_getElem HPos.out⟩
        have hb0 := hZ HPos.out y hy
        have HBr := Lib.hid hBr
        have x9 : Whole wr w.heap.size 31 #[bv t, bv fl, .slice A d.length c, .slice K ks.length k] := Whole.below X2.out hBr hs2
        have hW9 := hWr
        obtain ⟨p0, p1, p2, p3⟩ := wh4 x9
        have hC9 := Lib.hid (H1.out wr hBr)
        have HY := Lib.hid hy
        clear hA hZ hy hBr
        go_wp2_with fail
        refine hC9.out.mono ?_
        rintro e w10 ⟨A10, c10, rfl, o10, b10⟩
        have L10 := Lies.own o10
        obtain ⟨ad, rfl, hadb, hcell⟩ := L10 (fun e => by rw [List.map_eq_nil_iff] at e; exact hne0 e)
        have r0 : w10.cell? ad = some (bv y) := by
          have h9 := hcell 0 (bv y) (by rw [List.getElem?_map, HY.out]; rfl)
          rwa [show ad.add 0 = ad by simp [Addr.add]] at h9
        have r1 : w10.cell? ⟨g, 0, none⟩ = some (.int .u8 (((y.toNat : Int) + 1) % 256)) := by
          rw [b10.cell hWr.lt]
          exact hb0
        have hne := u8_succ y
        have hR10 := HBr.out.trans (b10.mono HBr.out.size)
        clear hcell o10 L10 hb0 p0 p1 p2 p3 x9 hW9 hWr
        go_upto_region 16 with fail
        refine wp_region_held_drew (S := (fun W => W.cell? ad = some (bv y) ∧ W.cell? ⟨g, 0, none⟩ = some (.int .u8 (((y.toNat : Int) + 1) % 256)))) (by kernel_rfl) ⟨r0, r1⟩ (fun hHeld => ?_)
        refine take_at (i := 0) (v := ?_) (some 91) rfl (by kernel_rfl) (by kernel_rfl) (by kernel_rfl) (fun _ _ _ h => h) (by kernel_rfl) (Or.inl ⟨by kernel_rfl, ?_⟩) (by assumption) ?_
        rotate_left
        · (intro w hSw; (try dsimp only at hSw); go_simp <;> with_reducible rfl)
        simp only [Act.put, List.setIfInBounds_toArray, List.set_cons_zero, List.set_cons_succ]
        refine take_at (i := 1) (v := ?_) (some 92) rfl (by kernel_rfl) (by kernel_rfl) (by kernel_rfl) (fun _ _ _ h => h) (by kernel_rfl) (Or.inl ⟨by kernel_rfl, ?_⟩) (by assumption) ?_
        rotate_left
        · (intro w hSw; (try dsimp only at hSw); go_simp <;> with_reducible rfl)
        simp only [Act.put, List.setIfInBounds_toArray, List.set_cons_zero, List.set_cons_succ]
        refine take_at (i := 2) (v := ?_) (some 93) rfl (by kernel_rfl) (by kernel_rfl) (by kernel_rfl) (fun _ _ _ h => h) (by kernel_rfl) (Or.inl ⟨by kernel_rfl, ?_⟩) (by assumption) ?_
        rotate_left
        · (intro w hSw; (try dsimp only at hSw); go_simp <;> with_reducible rfl)
        simp only [Act.put, List.setIfInBounds_toArray, List.set_cons_zero, List.set_cons_succ]
        refine take_at (i := 3) (v := ?_) (some 94) rfl (by kernel_rfl) (by kernel_rfl) (by kernel_rfl) (fun _ _ _ h => h) (by kernel_rfl) (Or.inl ⟨by kernel_rfl, ?_⟩) (by assumption) ?_
        rotate_left
        · (intro w hSw; (try dsimp only at hSw); go_simp <;> with_reducible rfl)
        simp only [Act.put, List.setIfInBounds_toArray, List.set_cons_zero, List.set_cons_succ]
        refine take_at (i := 4) (v := ?_) (some 95) rfl (by kernel_rfl) (by kernel_rfl) (by kernel_rfl) (fun _ _ _ h => h) (by kernel_rfl) (Or.inl ⟨by kernel_rfl, ?_⟩) (by assumption) ?_
        rotate_left
        · (intro w hSw; (try dsimp only at hSw); go_simp <;> with_reducible rfl)
        simp only [Act.put, List.setIfInBounds_toArray, List.set_cons_zero, List.set_cons_succ]
        refine take_at (i := 5) (v := ?_) (some 96) rfl (by kernel_rfl) (by kernel_rfl) (by kernel_rfl) (fun _ _ _ h => h) (by kernel_rfl) (Or.inl ⟨by kernel_rfl, ?_⟩) (by assumption) ?_
        rotate_left
        · (intro w hSw; (try dsimp only at hSw); go_simp <;> with_reducible rfl)
        simp only [Act.put, List.setIfInBounds_toArray, List.set_cons_zero, List.set_cons_succ]
        refine take_at (i := 6) (v := ?_) (some 97) rfl (by kernel_rfl) (by kernel_rfl) (by kernel_rfl) (fun _ _ _ h => h) (by kernel_rfl) (Or.inl ⟨by kernel_rfl, ?_⟩) (by assumption) ?_
        rotate_left
        · (intro w hSw; (try dsimp only at hSw); go_simp <;> with_reducible rfl)
        simp only [Act.put, List.setIfInBounds_toArray, List.set_cons_zero, List.set_cons_succ]
        refine take_at (i := 7) (v := ?_) (some 98) rfl (by kernel_rfl) (by kernel_rfl) (by kernel_rfl) (fun _ _ _ h => h) (by kernel_rfl) (Or.inl ⟨by kernel_rfl, ?_⟩) (by assumption) ?_
        rotate_left
        · (intro w hSw; (try dsimp only at hSw); go_simp <;> with_reducible rfl)
        simp only [Act.put, List.setIfInBounds_toArray, List.set_cons_zero, List.set_cons_succ]
        refine take_at (i := 8) (v := ?_) (some 99) rfl (by kernel_rfl) (by kernel_rfl) (by kernel_rfl) (fun _ _ _ h => h) (by kernel_rfl) (Or.inl ⟨by kernel_rfl, ?_⟩) (by assumption) ?_
        rotate_left
        · (intro w hSw; (try dsimp only at hSw); go_simp <;> with_reducible rfl)
        simp only [Act.put, List.setIfInBounds_toArray, List.set_cons_zero, List.set_cons_succ]
        refine take_at (i := 9) (v := ?_) (some 100) rfl (by kernel_rfl) (by kernel_rfl) (by kernel_rfl) (fun _ _ _ h => h) (by kernel_rfl) (Or.inl ⟨by kernel_rfl, ?_⟩) (by assumption) ?_
        rotate_left
        · (intro w hSw; (try dsimp only at hSw); go_simp <;> with_reducible rfl)
        simp only [Act.put, List.setIfInBounds_toArray, List.set_cons_zero, List.set_cons_succ]
        refine take_at (i := 10) (v := ?_) (some 101) rfl (by kernel_rfl) (by kernel_rfl) (by kernel_rfl) (fun _ _ _ h => h) (by kernel_rfl) (Or.inl ⟨by kernel_rfl, ?_⟩) (by assumption) ?_
        rotate_left
        · (intro w hSw; (try dsimp only at hSw); go_simp <;> with_reducible rfl)
        simp only [Act.put, List.setIfInBounds_toArray, List.set_cons_zero, List.set_cons_succ]
        refine take_at (i := 11) (v := ?_) (some 102) rfl (by kernel_rfl) (by kernel_rfl) (by kernel_rfl) (fun _ _ _ h => h) (by kernel_rfl) (Or.inl ⟨by kernel_rfl, ?_⟩) (by assumption) ?_
        rotate_left
        · (intro w hSw; (try dsimp only at hSw); go_simp <;> with_reducible rfl)
        simp only [Act.put, List.setIfInBounds_toArray, List.set_cons_zero, List.set_cons_succ]
        refine take_at (i := 12) (v := ?_) (some 103) rfl (by kernel_rfl) (by kernel_rfl) (by kernel_rfl) (fun _ _ _ h => h) (by kernel_rfl) (Or.inl ⟨by kernel_rfl, ?_⟩) (by assumption) ?_
        rotate_left
        · (intro w hSw; (try dsimp only at hSw); go_simp <;> with_reducible rfl)
        simp only [Act.put, List.setIfInBounds_toArray, List.set_cons_zero, List.set_cons_succ]
        refine take_at (i := 13) (v := ?_) (some 104) rfl (by kernel_rfl) (by kernel_rfl) (by kernel_rfl) (fun _ _ _ h => h) (by kernel_rfl) (Or.inl ⟨by kernel_rfl, ?_⟩) (by assumption) ?_
        rotate_left
        · (intro w hSw; (try dsimp only at hSw); go_simp <;> with_reducible rfl)
        simp only [Act.put, List.setIfInBounds_toArray, List.set_cons_zero, List.set_cons_succ]
        refine take_at (i := 14) (v := ?_) (some 105) rfl (by kernel_rfl) (by kernel_rfl) (by kernel_rfl) (fun _ _ _ h => h) (by kernel_rfl) (Or.inl ⟨by kernel_rfl, ?_⟩) (by assumption) ?_
        rotate_left
        · (intro w hSw; (try dsimp only at hSw); go_simp <;> with_reducible rfl)
        simp only [Act.put, List.setIfInBounds_toArray, List.set_cons_zero, List.set_cons_succ]
        refine take_at (i := 15) (v := ?_) (some 106) rfl (by kernel_rfl) (by kernel_rfl) (by kernel_rfl) (fun _ _ _ h => h) (by kernel_rfl) (Or.inl ⟨by kernel_rfl, ?_⟩) (by assumption) ?_
        rotate_left
        · (intro w hSw; (try dsimp only at hSw); go_simp <;> with_reducible rfl)
        simp only [Act.put, List.setIfInBounds_toArray, List.set_cons_zero, List.set_cons_succ]
        refine take_at (i := 16) (v := ?_) (some 107) rfl (by kernel_rfl) (by kernel_rfl) (by kernel_rfl) (fun _ _ _ h => h) (by kernel_rfl) (Or.inl ⟨by kernel_rfl, ?_⟩) (by assumption) ?_
        rotate_left
        · (intro w hSw; (try dsimp only at hSw); go_simp <;> with_reducible rfl)
        simp only [Act.put, List.setIfInBounds_toArray, List.set_cons_zero, List.set_cons_succ]
        refine take_at (i := 17) (v := ?_) (some 2) rfl (by kernel_rfl) (by kernel_rfl) (by kernel_rfl) (fun _ _ _ h => h) (by kernel_rfl) (Or.inl ⟨by kernel_rfl, ?_⟩) (by assumption) ?_
        rotate_left
        · (intro w hSw; (try dsimp only at hSw); go_simp <;> with_reducible rfl)
        simp only [Act.put, List.setIfInBounds_toArray, List.set_cons_zero, List.set_cons_succ]
        refine wpAnyH_done (by kernel_rfl) ?_ _
        go_wp2_with fail
        go_ret
        exact ⟨rfl, HB2.out.trans (below_drew (hR10.mono (Nat.le_refl _)) |>.mono HB2.out.size)⟩
set_option maxRecDepth 100000 in
set_option maxHeartbeats 16000000 in
theorem ico_f (x : Ck) (hcb : ckyB x = false) (hcl : ckyL x = []) (hk : x.ks.length ≤ 9223372036854775807) (hb : ∀ n ∈ x.ks, Bnd n) (A : Option Addr) (c : Nat) (K : Option Addr) (k : Nat) (w : World) (h : Chunk w w.heap.size A c K k x) (hh : Handle w) :
    Calls Tryz.prog 12 #[ckV x A c K k] w fun e w' => e = .returned (.bool true) ∧ Below w.heap.size w w' := by
  have b0 : Below w.heap.size w (w.alloc (.cells (ckCells x A c K k) 31)) := (Below.refl _ w).alloc (Nat.le_refl _) _
  have x0 := CkBox.new w x A c K k
  have hx0 := h.on b0
  have H0 := hh.below b0 hh.lt
  have hF := rfew12 x hk hb A c K k
  have HH := Lib.hid hh
  have HCL := Lib.hid hcl
  have HCB := Lib.hid hcb
  clear hcb hcl
  have HK := Lib.hid hk
  clear hk hb h hh
  go_enter Tryz.func12, Tryz.ntmps12
  go_wp2_with fail
  generalize w.alloc (.cells (ckCells x A c K k) 31) = w0 at *
  refine (awake15_any w0 H0).mono ?_
  rintro e w1 ⟨rfl, b1⟩
  have B1 := b0.trans (b1.mono b0.size)
  have x1 := x0.below b1
  have hx1 := hx0.on b1
  have hF1 := hF w1 hx1
  obtain ⟨q0, q1, q2, q3⟩ := x1.cs
  cases hf : fewB x with
  | false =>
    rw [hf] at hF1
    clear hf hF
    go_wp2_with fail
    refine hF1.mono ?_
    rintro e w2 ⟨rfl, b2⟩
    have B2 := B1.trans (b2.mono B1.size)
    go_wp2_with fail
    refine (awake15_any w2 (HH.out.below B2 HH.out.lt)).mono ?_
    rintro e w3 ⟨rfl, b3⟩
    go_wp2_with fail
    go_ret
    exact ⟨rfl, B2.trans (b3.mono B2.size)⟩
  | true =>
    obtain ⟨hfine, hd7, hk2, hsz⟩ := ck_fine hf
    rw [hf] at hF1
    clear hf hF
    go_wp2_with fail
    refine hF1.mono ?_
    rintro e w2 ⟨rfl, b2⟩
    have B2 := B1.trans (b2.mono B1.size)
    have x2 := x1.below b2
    have hx2 := hx1.on b2
    clear q0 q1 q2 q3 hF1 x0 x1 hx0 hx1 H0
    obtain ⟨q0, q1, q2, q3⟩ := x2.cs
    have H1 : Hid (∀ V, Below w2.heap.size w2 V → Calls Tryz.prog 51 #[ckV x A c K k] V fun e w' => ∃ A' c', e = .returned (.tuple #[.slice A' 0 c', .bool false]) ∧ w'.ownsRow V.heap.size 5 1 (.slice A' 0 c') 0 ([].map bv) ∧ Below V.heap.size V w') := Lib.hid (fun V hV => by
      have h9 := icookie_any x hfine A c K k V (hx2.on hV) (HH.out.below (B2.trans (hV.mono B2.size)) HH.out.lt)
      rw [HCL.out, HCB.out] at h9
      exact h9)
    have H2 : Hid (∀ V, Below w2.heap.size w2 V → Calls Tryz.prog 52 #[ckV x A c K k] V fun e w' => ∃ A' c', e = .returned (.tuple #[.slice A' 0 c', .bool false]) ∧ Lies w' V.heap.size A' ([].map bv) ∧ 0 ≤ c' ∧ c' ≤ maxLen ∧ Below V.heap.size V w') := Lib.hid (fun V hV => by
      have h9 := rCookie_any x hfine A c K k V (hx2.on hV)
      rw [HCL.out, HCB.out] at h9
      exact h9)
    have H3 : Hid (∀ V, Below w2.heap.size w2 V → Calls Tryz.prog 53 #[ckV x A c K k] V fun e w' => ∃ A' c', e = .returned (.tuple #[.agg #[.int .u8 0, .int .u8 0, .slice A' 0 c', .slice none 0 0], .bool false]) ∧ Chunk w' w'.heap.size A' c' none 0 ⟨0, 0, [], []⟩ ∧ Below V.heap.size V w') := Lib.hid (fun V hV => by
      have h9 := iecho_any x hfine A c K k V (hx2.on hV) (HH.out.below (B2.trans (hV.mono B2.size)) HH.out.lt)
      have e1 : ecC x = ⟨0, 0, [], []⟩ := by unfold ecC; rw [HCL.out]; rfl
      have e2 : ecB x = false := by unfold ecB; rw [HCL.out]; rfl
      rw [e1, e2] at h9
      exact h9)
    have HB2 := Lib.hid B2
    have hs2 := x2.lt
    have X2 := Lib.hid x2
    clear hfine hd7 hk2 hsz HK hx2 HH B2 b0 b1 b2 B1 HCL HCB
    obtain ⟨t, fl, d, ks⟩ := x
    simp only [ckV, ckCells] at *
    go_wp2_with fail
    refine (H1.out w2 (Below.refl _ _)).mono ?_
    rintro e w3 ⟨A3, c3, rfl, o3, b3⟩
    have x3 := CkBox.below x2 b3
    clear q0 q1 q2 q3
    obtain ⟨q0, q1, q2, q3⟩ := CkBox.cs (x := ⟨t, fl, d, ks⟩) x3
    simp only at q0 q1 q2 q3
    have L3 : Lies w3 w3.heap.size A3 (([] : List UInt8).map bv) := Lies.nil
    clear o3
    go_wp2_with fail
    refine (H2.out w3 b3).mono ?_
    rintro e w4 ⟨A4, c4, rfl, L4, m41, m42, b4⟩
    have x4 := CkBox.below x3 b4
    have B4 := b3.trans (b4.mono b3.size)
    have L34 := (L3.below b4).more b4.size
    have L44 := L4.more b4.size
    clear q0 q1 q2 q3 L3 L4
    obtain ⟨q0, q1, q2, q3⟩ := CkBox.cs (x := ⟨t, fl, d, ks⟩) x4
    simp only at q0 q1 q2 q3
    go_wp2_with fail
    refine (H3.out w4 B4).mono ?_
    rintro e w5 ⟨A5, c5, rfl, hC5, b5⟩
    have x5 := CkBox.below x4 b5
    have B5 := B4.trans (b5.mono B4.size)
    have L35 := (L34.below b5).more b5.size
    have L45 := (L44.below b5).more b5.size
    clear q0 q1 q2 q3 L34 L44
    go_upto_region 6 with fail
    have v6 : Below w5.heap.size w5 (w5.alloc (.cells #[.int .u8 0, .int .u8 0, .slice A5 0 c5, .slice none 0 0] 31)) := (Below.refl _ _).alloc (Nat.le_refl _) _
    have y6 := Whole.new w5 31 #[.int .u8 0, .int .u8 0, .slice A5 0 c5, .slice none 0 0]
    have x6 := CkBox.below x5 v6
    have hC6 := hC5.on v6
    have B6 := B5.trans (v6.mono B5.size)
    have L36 := (L35.below v6).more v6.size
    have L46 := (L45.below v6).more v6.size
    generalize w5.alloc (.cells #[.int .u8 0, .int .u8 0, .slice A5 0 c5, .slice none 0 0] 31) = w6 at *
    generalize w5.heap.size = g5 at *
    have hS : Calls Tryz.prog 54 #[.slice A3 0 c3, .slice A4 0 c4] w6 fun e w' => e = .returned (.bool true) ∧ ∃ q, w' = w6.drewN q := by
      have h9 := same_any A3 A4 c3 c4 w6.heap.size [] [] w6 L36 L46 (by simp)
      rw [decide_eq_true rfl] at h9
      exact h9
    clear L35 L45 hC5 v6 x5
    go_wp2_with fail
    refine hS.mono ?_
    rintro e w7 ⟨rfl, q, rfl⟩
    have x7 : Whole (w6.drewN q) w.heap.size 31 #[bv t, bv fl, .slice A d.length c, .slice K ks.length k] := x6
    have y7 : Whole (w6.drewN q) g5 31 #[.int .u8 0, .int .u8 0, .slice A5 0 c5, .slice none 0 0] := y6
    have hC7 := hC6.on (below_drewN (Below.refl _ _) q)
    have B7 := below_drewN B6 q
    have L47 : Lies (w6.drewN q) (w6.drewN q).heap.size A4 (([] : List UInt8).map bv) := (L46.below (below_drewN (Below.refl _ _) q)).more (Nat.le_refl _)
    clear hS x6 y6 hC6 L36 L46 B6
    generalize w6.drewN q = w7 at *
    obtain ⟨k0, k1', k2', k3'⟩ := wh4 y7
    have hT : Calls Tryz.prog 20 #[.agg #[.int .u8 0, .int .u8 0, .slice A5 0 c5, .slice none 0 0], .agg #[.int .u8 0, .int .u8 0, .slice none 0 0, .slice none 0 0]] w7 fun e w' => e = .returned (.bool true) ∧ Below w7.heap.size w7 w' := by
      have h9 := rcsame12 ⟨0, 0, [], []⟩ ⟨0, 0, [], []⟩ (by simp) (by simp) (by simp) A5 c5 none 0 none 0 none 0 w7 hC7 ⟨Lies.nil, Nat.le_refl _, Nat.zero_le _, Nodes.nil _ _ _, Nat.le_refl _, Nat.zero_le _⟩
      rw [ckEq_selfI] at h9
      exact h9
    go_wp2_with fail
    refine hT.mono ?_
    rintro e w8 ⟨rfl, b8⟩
    have x8 := Whole.below x7 b8 x7.lt
    have B8 := B7.trans (b8.mono B7.size)
    clear k0 k1' k2' k3' hT x7 y7 hC7 L47 B7 x4 x3 b3 b4 b5 B4 B5
    obtain ⟨q0, q1, q2, q3⟩ := wh4 x8
    go_upto_region 12 with fail
    go_loopw [10] (fun i wr => i = .int .i64 0 ∧ wr = w8) (fun i _ => 0)
    case atStart => exact ⟨rfl, rfl⟩
    case round =>
      obtain ⟨rfl, rfl⟩ := hrel
      have hC9 := H1.out wr B8
      have H1' := Lib.hid hC9
      go_wp2_with fail
      refine H1'.out.mono ?_
      rintro e w9 ⟨A9, c9, rfl, o9, b9⟩
      go_upto_region 16 with fail
      refine wp_region_held_drew (S := (fun W => True)) (by kernel_rfl) trivial (fun hHeld => ?_)
      refine take_at (i := 0) (v := ?_) (some 91) rfl (by kernel_rfl) (by kernel_rfl) (by kernel_rfl) (fun _ _ _ h => h) (by kernel_rfl) (Or.inl ⟨by kernel_rfl, ?_⟩) (by assumption) ?_
      rotate_left
      · (intro w hSw; (try dsimp only at hSw); go_simp <;> with_reducible rfl)
      simp only [Act.put, List.setIfInBounds_toArray, List.set_cons_zero, List.set_cons_succ]
      refine take_at (i := 1) (v := ?_) (some 92) rfl (by kernel_rfl) (by kernel_rfl) (by kernel_rfl) (fun _ _ _ h => h) (by kernel_rfl) (Or.inl ⟨by kernel_rfl, ?_⟩) (by assumption) ?_
      rotate_left
      · (intro w hSw; (try dsimp only at hSw); go_simp <;> with_reducible rfl)
      simp only [Act.put, List.setIfInBounds_toArray, List.set_cons_zero, List.set_cons_succ]
      refine take_at (i := 2) (v := ?_) (some 93) rfl (by kernel_rfl) (by kernel_rfl) (by kernel_rfl) (fun _ _ _ h => h) (by kernel_rfl) (Or.inl ⟨by kernel_rfl, ?_⟩) (by assumption) ?_
      rotate_left
      · (intro w hSw; (try dsimp only at hSw); go_simp <;> with_reducible rfl)
      simp only [Act.put, List.setIfInBounds_toArray, List.set_cons_zero, List.set_cons_succ]
      refine take_at (i := 3) (v := ?_) (some 94) rfl (by kernel_rfl) (by kernel_rfl) (by kernel_rfl) (fun _ _ _ h => h) (by kernel_rfl) (Or.inl ⟨by kernel_rfl, ?_⟩) (by assumption) ?_
      rotate_left
      · (intro w hSw; (try dsimp only at hSw); go_simp <;> with_reducible rfl)
      simp only [Act.put, List.setIfInBounds_toArray, List.set_cons_zero, List.set_cons_succ]
      refine take_at (i := 4) (v := ?_) (some 95) rfl (by kernel_rfl) (by kernel_rfl) (by kernel_rfl) (fun _ _ _ h => h) (by kernel_rfl) (Or.inl ⟨by kernel_rfl, ?_⟩) (by assumption) ?_
      rotate_left
      · (intro w hSw; (try dsimp only at hSw); go_simp <;> with_reducible rfl)
      simp only [Act.put, List.setIfInBounds_toArray, List.set_cons_zero, List.set_cons_succ]
      refine take_at (i := 5) (v := ?_) (some 96) rfl (by kernel_rfl) (by kernel_rfl) (by kernel_rfl) (fun _ _ _ h => h) (by kernel_rfl) (Or.inl ⟨by kernel_rfl, ?_⟩) (by assumption) ?_
      rotate_left
      · (intro w hSw; (try dsimp only at hSw); go_simp <;> with_reducible rfl)
      simp only [Act.put, List.setIfInBounds_toArray, List.set_cons_zero, List.set_cons_succ]
      refine take_at (i := 6) (v := ?_) (some 97) rfl (by kernel_rfl) (by kernel_rfl) (by kernel_rfl) (fun _ _ _ h => h) (by kernel_rfl) (Or.inl ⟨by kernel_rfl, ?_⟩) (by assumption) ?_
      rotate_left
      · (intro w hSw; (try dsimp only at hSw); go_simp <;> with_reducible rfl)
      simp only [Act.put, List.setIfInBounds_toArray, List.set_cons_zero, List.set_cons_succ]
      refine take_at (i := 7) (v := ?_) (some 98) rfl (by kernel_rfl) (by kernel_rfl) (by kernel_rfl) (fun _ _ _ h => h) (by kernel_rfl) (Or.inl ⟨by kernel_rfl, ?_⟩) (by assumption) ?_
      rotate_left
      · (intro w hSw; (try dsimp only at hSw); go_simp <;> with_reducible rfl)
      simp only [Act.put, List.setIfInBounds_toArray, List.set_cons_zero, List.set_cons_succ]
      refine take_at (i := 8) (v := undef) (some 99) rfl (by kernel_rfl) (by kernel_rfl) (by kernel_rfl) (fun _ _ _ h => h) (by kernel_rfl) (Or.inr ⟨by kernel_rfl, rfl⟩) (by assumption) ?_
      simp only [Act.put, List.setIfInBounds_toArray, List.set_cons_zero, List.set_cons_succ]
      refine take_at (i := 9) (v := undef) (some 100) rfl (by kernel_rfl) (by kernel_rfl) (by kernel_rfl) (fun _ _ _ h => h) (by kernel_rfl) (Or.inr ⟨by kernel_rfl, rfl⟩) (by assumption) ?_
      simp only [Act.put, List.setIfInBounds_toArray, List.set_cons_zero, List.set_cons_succ]
      refine take_at (i := 10) (v := undef) (some 101) rfl (by kernel_rfl) (by kernel_rfl) (by kernel_rfl) (fun _ _ _ h => h) (by kernel_rfl) (Or.inr ⟨by kernel_rfl, rfl⟩) (by assumption) ?_
      simp only [Act.put, List.setIfInBounds_toArray, List.set_cons_zero, List.set_cons_succ]
      refine take_at (i := 11) (v := undef) (some 102) rfl (by kernel_rfl) (by kernel_rfl) (by kernel_rfl) (fun _ _ _ h => h) (by kernel_rfl) (Or.inr ⟨by kernel_rfl, rfl⟩) (by assumption) ?_
      simp only [Act.put, List.setIfInBounds_toArray, List.set_cons_zero, List.set_cons_succ]
      refine take_at (i := 12) (v := undef) (some 103) rfl (by kernel_rfl) (by kernel_rfl) (by kernel_rfl) (fun _ _ _ h => h) (by kernel_rfl) (Or.inr ⟨by kernel_rfl, rfl⟩) (by assumption) ?_
      simp only [Act.put, List.setIfInBounds_toArray, List.set_cons_zero, List.set_cons_succ]
      refine take_at (i := 13) (v := undef) (some 104) rfl (by kernel_rfl) (by kernel_rfl) (by kernel_rfl) (fun _ _ _ h => h) (by kernel_rfl) (Or.inr ⟨by kernel_rfl, rfl⟩) (by assumption) ?_
      simp only [Act.put, List.setIfInBounds_toArray, List.set_cons_zero, List.set_cons_succ]
      refine take_at (i := 14) (v := undef) (some 105) rfl (by kernel_rfl) (by kernel_rfl) (by kernel_rfl) (fun _ _ _ h => h) (by kernel_rfl) (Or.inr ⟨by kernel_rfl, rfl⟩) (by assumption) ?_
      simp only [Act.put, List.setIfInBounds_toArray, List.set_cons_zero, List.set_cons_succ]
      refine take_at (i := 15) (v := ?_) (some 106) rfl (by kernel_rfl) (by kernel_rfl) (by kernel_rfl) (fun _ _ _ h => h) (by kernel_rfl) (Or.inl ⟨by kernel_rfl, ?_⟩) (by assumption) ?_
      rotate_left
      · (intro w hSw; (try dsimp only at hSw); go_simp <;> with_reducible rfl)
      simp only [Act.put, List.setIfInBounds_toArray, List.set_cons_zero, List.set_cons_succ]
      refine take_at (i := 16) (v := ?_) (some 107) rfl (by kernel_rfl) (by kernel_rfl) (by kernel_rfl) (fun _ _ _ h => h) (by kernel_rfl) (Or.inl ⟨by kernel_rfl, ?_⟩) (by assumption) ?_
      rotate_left
      · (intro w hSw; (try dsimp only at hSw); go_simp <;> with_reducible rfl)
      simp only [Act.put, List.setIfInBounds_toArray, List.set_cons_zero, List.set_cons_succ]
      refine take_at (i := 17) (v := ?_) (some 2) rfl (by kernel_rfl) (by kernel_rfl) (by kernel_rfl) (fun _ _ _ h => h) (by kernel_rfl) (Or.inl ⟨by kernel_rfl, ?_⟩) (by assumption) ?_
      rotate_left
      · (intro w hSw; (try dsimp only at hSw); go_simp <;> with_reducible rfl)
      simp only [Act.put, List.setIfInBounds_toArray, List.set_cons_zero, List.set_cons_succ]
      refine wpAnyH_done (by kernel_rfl) ?_ _
      go_wp2_with fail
      go_ret
      exact ⟨rfl, HB2.out.trans (below_drew (B8.trans (b9.mono B8.size)) |>.mono HB2.out.size)⟩
set_option maxRecDepth 100000 in
set_option maxHeartbeats 16000000 in
theorem ico_t (x : Ck) (hcb : ckyB x = true) (hcl : ckyL x = []) (hk : x.ks.length ≤ 9223372036854775807) (hb : ∀ n ∈ x.ks, Bnd n) (A : Option Addr) (c : Nat) (K : Option Addr) (k : Nat) (w : World) (h : Chunk w w.heap.size A c K k x) (hh : Handle w) :
    Calls Tryz.prog 12 #[ckV x A c K k] w fun e w' => e = .returned (.bool true) ∧ Below w.heap.size w w' := by
  have b0 : Below w.heap.size w (w.alloc (.cells (ckCells x A c K k) 31)) := (Below.refl _ w).alloc (Nat.le_refl _) _
  have x0 := CkBox.new w x A c K k
  have hx0 := h.on b0
  have H0 := hh.below b0 hh.lt
  have hF := rfew12 x hk hb A c K k
  have HH := Lib.hid hh
  have HCL := Lib.hid hcl
  have HCB := Lib.hid hcb
  clear hcb hcl
  have HK := Lib.hid hk
  clear hk hb h hh
  go_enter Tryz.func12, Tryz.ntmps12
  go_wp2_with fail
  generalize w.alloc (.cells (ckCells x A c K k) 31) = w0 at *
  refine (awake15_any w0 H0).mono ?_
  rintro e w1 ⟨rfl, b1⟩
  have B1 := b0.trans (b1.mono b0.size)
  have x1 := x0.below b1
  have hx1 := hx0.on b1
  have hF1 := hF w1 hx1
  obtain ⟨q0, q1, q2, q3⟩ := x1.cs
  cases hf : fewB x with
  | false =>
    rw [hf] at hF1
    clear hf hF
    go_wp2_with fail
    refine hF1.mono ?_
    rintro e w2 ⟨rfl, b2⟩
    have B2 := B1.trans (b2.mono B1.size)
    go_wp2_with fail
    refine (awake15_any w2 (HH.out.below B2 HH.out.lt)).mono ?_
    rintro e w3 ⟨rfl, b3⟩
    go_wp2_with fail
    go_ret
    exact ⟨rfl, B2.trans (b3.mono B2.size)⟩
  | true =>
    obtain ⟨hfine, hd7, hk2, hsz⟩ := ck_fine hf
    rw [hf] at hF1
    clear hf hF
    go_wp2_with fail
    refine hF1.mono ?_
    rintro e w2 ⟨rfl, b2⟩
    have B2 := B1.trans (b2.mono B1.size)
    have x2 := x1.below b2
    have hx2 := hx1.on b2
    clear q0 q1 q2 q3 hF1 x0 x1 hx0 hx1 H0
    obtain ⟨q0, q1, q2, q3⟩ := x2.cs
    have H1 : Hid (∀ V, Below w2.heap.size w2 V → Calls Tryz.prog 51 #[ckV x A c K k] V fun e w' => ∃ A' c', e = .returned (.tuple #[.slice A' 0 c', .bool true]) ∧ w'.ownsRow V.heap.size 5 1 (.slice A' 0 c') 0 ([].map bv) ∧ Below V.heap.size V w') := Lib.hid (fun V hV => by
      have h9 := icookie_any x hfine A c K k V (hx2.on hV) (HH.out.below (B2.trans (hV.mono B2.size)) HH.out.lt)
      rw [HCL.out, HCB.out] at h9
      exact h9)
    have H2 : Hid (∀ V, Below w2.heap.size w2 V → Calls Tryz.prog 52 #[ckV x A c K k] V fun e w' => ∃ A' c', e = .returned (.tuple #[.slice A' 0 c', .bool true]) ∧ Lies w' V.heap.size A' ([].map bv) ∧ 0 ≤ c' ∧ c' ≤ maxLen ∧ Below V.heap.size V w') := Lib.hid (fun V hV => by
      have h9 := rCookie_any x hfine A c K k V (hx2.on hV)
      rw [HCL.out, HCB.out] at h9
      exact h9)
    have H3 : Hid (∀ V, Below w2.heap.size w2 V → Calls Tryz.prog 53 #[ckV x A c K k] V fun e w' => ∃ A' c', e = .returned (.tuple #[.agg #[.int .u8 0, .int .u8 0, .slice A' 0 c', .slice none 0 0], .bool false]) ∧ Chunk w' w'.heap.size A' c' none 0 ⟨0, 0, [], []⟩ ∧ Below V.heap.size V w') := Lib.hid (fun V hV => by
      have h9 := iecho_any x hfine A c K k V (hx2.on hV) (HH.out.below (B2.trans (hV.mono B2.size)) HH.out.lt)
      have e1 : ecC x = ⟨0, 0, [], []⟩ := by unfold ecC; rw [HCL.out]; rfl
      have e2 : ecB x = false := by unfold ecB; rw [HCL.out]; rfl
      rw [e1, e2] at h9
      exact h9)
    have HB2 := Lib.hid B2
    have hs2 := x2.lt
    have X2 := Lib.hid x2
    clear hfine hd7 hk2 hsz HK hx2 HH B2 b0 b1 b2 B1 HCL HCB
    obtain ⟨t, fl, d, ks⟩ := x
    simp only [ckV, ckCells] at *
    go_wp2_with fail
    refine (H1.out w2 (Below.refl _ _)).mono ?_
    rintro e w3 ⟨A3, c3, rfl, o3, b3⟩
    have x3 := CkBox.below x2 b3
    clear q0 q1 q2 q3
    obtain ⟨q0, q1, q2, q3⟩ := CkBox.cs (x := ⟨t, fl, d, ks⟩) x3
    simp only at q0 q1 q2 q3
    have L3 : Lies w3 w3.heap.size A3 (([] : List UInt8).map bv) := Lies.nil
    clear o3
    go_wp2_with fail
    refine (H2.out w3 b3).mono ?_
    rintro e w4 ⟨A4, c4, rfl, L4, m41, m42, b4⟩
    have x4 := CkBox.below x3 b4
    have B4 := b3.trans (b4.mono b3.size)
    have L34 := (L3.below b4).more b4.size
    have L44 := L4.more b4.size
    clear q0 q1 q2 q3 L3 L4
    obtain ⟨q0, q1, q2, q3⟩ := CkBox.cs (x := ⟨t, fl, d, ks⟩) x4
    simp only at q0 q1 q2 q3
    go_wp2_with fail
    refine (H3.out w4 B4).mono ?_
    rintro e w5 ⟨A5, c5, rfl, hC5, b5⟩
    have x5 := CkBox.below x4 b5
    have B5 := B4.trans (b5.mono B4.size)
    have L35 := (L34.below b5).more b5.size
    have L45 := (L44.below b5).more b5.size
    clear q0 q1 q2 q3 L34 L44
    go_upto_region 6 with fail
    have v6 : Below w5.heap.size w5 (w5.alloc (.cells #[.int .u8 0, .int .u8 0, .slice A5 0 c5, .slice none 0 0] 31)) := (Below.refl _ _).alloc (Nat.le_refl _) _
    have y6 := Whole.new w5 31 #[.int .u8 0, .int .u8 0, .slice A5 0 c5, .slice none 0 0]
    have x6 := CkBox.below x5 v6
    have hC6 := hC5.on v6
    have B6 := B5.trans (v6.mono B5.size)
    have L36 := (L35.below v6).more v6.size
    have L46 := (L45.below v6).more v6.size
    generalize w5.alloc (.cells #[.int .u8 0, .int .u8 0, .slice A5 0 c5, .slice none 0 0] 31) = w6 at *
    generalize w5.heap.size = g5 at *
    have hS : Calls Tryz.prog 54 #[.slice A3 0 c3, .slice A4 0 c4] w6 fun e w' => e = .returned (.bool true) ∧ ∃ q, w' = w6.drewN q := by
      have h9 := same_any A3 A4 c3 c4 w6.heap.size [] [] w6 L36 L46 (by simp)
      rw [decide_eq_true rfl] at h9
      exact h9
    clear L35 L45 hC5 v6 x5
    go_wp2_with fail
    refine hS.mono ?_
    rintro e w7 ⟨rfl, q, rfl⟩
    have x7 : Whole (w6.drewN q) w.heap.size 31 #[bv t, bv fl, .slice A d.length c, .slice K ks.length k] := x6
    have y7 : Whole (w6.drewN q) g5 31 #[.int .u8 0, .int .u8 0, .slice A5 0 c5, .slice none 0 0] := y6
    have hC7 := hC6.on (below_drewN (Below.refl _ _) q)
    have B7 := below_drewN B6 q
    have L47 : Lies (w6.drewN q) (w6.drewN q).heap.size A4 (([] : List UInt8).map bv) := (L46.below (below_drewN (Below.refl _ _) q)).more (Nat.le_refl _)
    clear hS x6 y6 hC6 L36 L46 B6
    generalize w6.drewN q = w7 at *
    obtain ⟨k0, k1', k2', k3'⟩ := wh4 y7
    have hT : Calls Tryz.prog 20 #[.agg #[.int .u8 0, .int .u8 0, .slice A5 0 c5, .slice none 0 0], .agg #[.int .u8 0, .int .u8 0, .slice none 0 0, .slice none 0 0]] w7 fun e w' => e = .returned (.bool true) ∧ Below w7.heap.size w7 w' := by
      have h9 := rcsame12 ⟨0, 0, [], []⟩ ⟨0, 0, [], []⟩ (by simp) (by simp) (by simp) A5 c5 none 0 none 0 none 0 w7 hC7 ⟨Lies.nil, Nat.le_refl _, Nat.zero_le _, Nodes.nil _ _ _, Nat.le_refl _, Nat.zero_le _⟩
      rw [ckEq_selfI] at h9
      exact h9
    go_wp2_with fail
    refine hT.mono ?_
    rintro e w8 ⟨rfl, b8⟩
    have x8 := Whole.below x7 b8 x7.lt
    have B8 := B7.trans (b8.mono B7.size)
    clear k0 k1' k2' k3' hT x7 y7 hC7 L47 B7 x4 x3 b3 b4 b5 B4 B5
    obtain ⟨q0, q1, q2, q3⟩ := wh4 x8
    go_upto_region 12 with fail
    go_loopw [10] (fun i wr => i = .int .i64 0 ∧ wr = w8) (fun i _ => 0)
    case atStart => exact ⟨rfl, rfl⟩
    case round =>
      obtain ⟨rfl, rfl⟩ := hrel
      have hC9 := H1.out wr B8
      have H1' := Lib.hid hC9
      go_wp2_with fail
      refine H1'.out.mono ?_
      rintro e w9 ⟨A9, c9, rfl, o9, b9⟩
      go_upto_region 16 with fail
      refine wp_region_held_drew (S := (fun W => True)) (by kernel_rfl) trivial (fun hHeld => ?_)
      refine take_at (i := 0) (v := ?_) (some 91) rfl (by kernel_rfl) (by kernel_rfl) (by kernel_rfl) (fun _ _ _ h => h) (by kernel_rfl) (Or.inl ⟨by kernel_rfl, ?_⟩) (by assumption) ?_
      rotate_left
      · (intro w hSw; (try dsimp only at hSw); go_simp <;> with_reducible rfl)
      simp only [Act.put, List.setIfInBounds_toArray, List.set_cons_zero, List.set_cons_succ]
      refine take_at (i := 1) (v := ?_) (some 92) rfl (by kernel_rfl) (by kernel_rfl) (by kernel_rfl) (fun _ _ _ h => h) (by kernel_rfl) (Or.inl ⟨by kernel_rfl, ?_⟩) (by assumption) ?_
      rotate_left
      · (intro w hSw; (try dsimp only at hSw); go_simp <;> with_reducible rfl)
      simp only [Act.put, List.setIfInBounds_toArray, List.set_cons_zero, List.set_cons_succ]
      refine take_at (i := 2) (v := ?_) (some 93) rfl (by kernel_rfl) (by kernel_rfl) (by kernel_rfl) (fun _ _ _ h => h) (by kernel_rfl) (Or.inl ⟨by kernel_rfl, ?_⟩) (by assumption) ?_
      rotate_left
      · (intro w hSw; (try dsimp only at hSw); go_simp <;> with_reducible rfl)
      simp only [Act.put, List.setIfInBounds_toArray, List.set_cons_zero, List.set_cons_succ]
      refine take_at (i := 3) (v := ?_) (some 94) rfl (by kernel_rfl) (by kernel_rfl) (by kernel_rfl) (fun _ _ _ h => h) (by kernel_rfl) (Or.inl ⟨by kernel_rfl, ?_⟩) (by assumption) ?_
      rotate_left
      · (intro w hSw; (try dsimp only at hSw); go_simp <;> with_reducible rfl)
      simp only [Act.put, List.setIfInBounds_toArray, List.set_cons_zero, List.set_cons_succ]
      refine take_at (i := 4) (v := ?_) (some 95) rfl (by kernel_rfl) (by kernel_rfl) (by kernel_rfl) (fun _ _ _ h => h) (by kernel_rfl) (Or.inl ⟨by kernel_rfl, ?_⟩) (by assumption) ?_
      rotate_left
      · (intro w hSw; (try dsimp only at hSw); go_simp <;> with_reducible rfl)
      simp only [Act.put, List.setIfInBounds_toArray, List.set_cons_zero, List.set_cons_succ]
      refine take_at (i := 5) (v := ?_) (some 96) rfl (by kernel_rfl) (by kernel_rfl) (by kernel_rfl) (fun _ _ _ h => h) (by kernel_rfl) (Or.inl ⟨by kernel_rfl, ?_⟩) (by assumption) ?_
      rotate_left
      · (intro w hSw; (try dsimp only at hSw); go_simp <;> with_reducible rfl)
      simp only [Act.put, List.setIfInBounds_toArray, List.set_cons_zero, List.set_cons_succ]
      refine take_at (i := 6) (v := ?_) (some 97) rfl (by kernel_rfl) (by kernel_rfl) (by kernel_rfl) (fun _ _ _ h => h) (by kernel_rfl) (Or.inl ⟨by kernel_rfl, ?_⟩) (by assumption) ?_
      rotate_left
      · (intro w hSw; (try dsimp only at hSw); go_simp <;> with_reducible rfl)
      simp only [Act.put, List.setIfInBounds_toArray, List.set_cons_zero, List.set_cons_succ]
      refine take_at (i := 7) (v := ?_) (some 98) rfl (by kernel_rfl) (by kernel_rfl) (by kernel_rfl) (fun _ _ _ h => h) (by kernel_rfl) (Or.inl ⟨by kernel_rfl, ?_⟩) (by assumption) ?_
      rotate_left
      · (intro w hSw; (try dsimp only at hSw); go_simp <;> with_reducible rfl)
      simp only [Act.put, List.setIfInBounds_toArray, List.set_cons_zero, List.set_cons_succ]
      refine take_at (i := 8) (v := undef) (some 99) rfl (by kernel_rfl) (by kernel_rfl) (by kernel_rfl) (fun _ _ _ h => h) (by kernel_rfl) (Or.inr ⟨by kernel_rfl, rfl⟩) (by assumption) ?_
      simp only [Act.put, List.setIfInBounds_toArray, List.set_cons_zero, List.set_cons_succ]
      refine take_at (i := 9) (v := undef) (some 100) rfl (by kernel_rfl) (by kernel_rfl) (by kernel_rfl) (fun _ _ _ h => h) (by kernel_rfl) (Or.inr ⟨by kernel_rfl, rfl⟩) (by assumption) ?_
      simp only [Act.put, List.setIfInBounds_toArray, List.set_cons_zero, List.set_cons_succ]
      refine take_at (i := 10) (v := undef) (some 101) rfl (by kernel_rfl) (by kernel_rfl) (by kernel_rfl) (fun _ _ _ h => h) (by kernel_rfl) (Or.inr ⟨by kernel_rfl, rfl⟩) (by assumption) ?_
      simp only [Act.put, List.setIfInBounds_toArray, List.set_cons_zero, List.set_cons_succ]
      refine take_at (i := 11) (v := undef) (some 102) rfl (by kernel_rfl) (by kernel_rfl) (by kernel_rfl) (fun _ _ _ h => h) (by kernel_rfl) (Or.inr ⟨by kernel_rfl, rfl⟩) (by assumption) ?_
      simp only [Act.put, List.setIfInBounds_toArray, List.set_cons_zero, List.set_cons_succ]
      refine take_at (i := 12) (v := undef) (some 103) rfl (by kernel_rfl) (by kernel_rfl) (by kernel_rfl) (fun _ _ _ h => h) (by kernel_rfl) (Or.inr ⟨by kernel_rfl, rfl⟩) (by assumption) ?_
      simp only [Act.put, List.setIfInBounds_toArray, List.set_cons_zero, List.set_cons_succ]
      refine take_at (i := 13) (v := undef) (some 104) rfl (by kernel_rfl) (by kernel_rfl) (by kernel_rfl) (fun _ _ _ h => h) (by kernel_rfl) (Or.inr ⟨by kernel_rfl, rfl⟩) (by assumption) ?_
      simp only [Act.put, List.setIfInBounds_toArray, List.set_cons_zero, List.set_cons_succ]
      refine take_at (i := 14) (v := undef) (some 105) rfl (by kernel_rfl) (by kernel_rfl) (by kernel_rfl) (fun _ _ _ h => h) (by kernel_rfl) (Or.inr ⟨by kernel_rfl, rfl⟩) (by assumption) ?_
      simp only [Act.put, List.setIfInBounds_toArray, List.set_cons_zero, List.set_cons_succ]
      refine take_at (i := 15) (v := ?_) (some 106) rfl (by kernel_rfl) (by kernel_rfl) (by kernel_rfl) (fun _ _ _ h => h) (by kernel_rfl) (Or.inl ⟨by kernel_rfl, ?_⟩) (by assumption) ?_
      rotate_left
      · (intro w hSw; (try dsimp only at hSw); go_simp <;> with_reducible rfl)
      simp only [Act.put, List.setIfInBounds_toArray, List.set_cons_zero, List.set_cons_succ]
      refine take_at (i := 16) (v := ?_) (some 107) rfl (by kernel_rfl) (by kernel_rfl) (by kernel_rfl) (fun _ _ _ h => h) (by kernel_rfl) (Or.inl ⟨by kernel_rfl, ?_⟩) (by assumption) ?_
      rotate_left
      · (intro w hSw; (try dsimp only at hSw); go_simp <;> with_reducible rfl)
      simp only [Act.put, List.setIfInBounds_toArray, List.set_cons_zero, List.set_cons_succ]
      refine take_at (i := 17) (v := ?_) (some 2) rfl (by kernel_rfl) (by kernel_rfl) (by kernel_rfl) (fun _ _ _ h => h) (by kernel_rfl) (Or.inl ⟨by kernel_rfl, ?_⟩) (by assumption) ?_
      rotate_left
      · (intro w hSw; (try dsimp only at hSw); go_simp <;> with_reducible rfl)
      simp only [Act.put, List.setIfInBounds_toArray, List.set_cons_zero, List.set_cons_succ]
      refine wpAnyH_done (by kernel_rfl) ?_ _
      go_wp2_with fail
      go_ret
      exact ⟨rfl, HB2.out.trans (below_drew (B8.trans (b9.mono B8.size)) |>.mono HB2.out.size)⟩
theorem ico_law (x : Ck) (hk : x.ks.length ≤ 9223372036854775807) (hb : ∀ n ∈ x.ks, Bnd n) (A : Option Addr) (c : Nat) (K : Option Addr) (k : Nat) (w : World) (h : Chunk w w.heap.size A c K k x) (hh : Handle w) :
    Calls Tryz.prog 12 #[ckV x A c K k] w fun e w' => e = .returned (.bool true) ∧ Below w.heap.size w w' := by
  rcases Nat.eq_zero_or_pos (ckyL x).length with h0 | h0
  · have h1 := List.eq_nil_of_length_eq_zero h0
    cases hcb : ckyB x with
    | false => exact ico_f x hcb h1 hk hb A c K k w h hh
    | true => exact ico_t x hcb h1 hk hb A c K k w h hh
  · exact ico_p x (ckyL x) h0 rfl hk hb A c K k w h hh
set_option maxRecDepth 100000 in
theorem law_InitialCookies {H : Type} {enc : TypeId × Value → H} {W : World} {base : Nat} {v0 : Value} {d0 : DataW H} {p0 : List MemPlace}
    (o0 : Value.okWide Tryz.prog W .any base 31 v0) (h0 : DataW.Trod enc Tryz.prog W 0 (fun _ => true) true 31 v0 d0 p0) (s0 : Small Tryz.prog 31 d0) (hL : laidMetH Tryz.prog laidL W) :
    Calls Tryz.prog 12 #[v0] W fun e w' => e = .returned (.bool true) ∧ Below W.heap.size W w' := by
  obtain ⟨x, A, c, K, k, rfl, hC, hB⟩ := open_chunk o0 h0 s0
  exact ico_law x (by have := hC.kc; have := hC.km; unfold maxLen at this; omega) hB A c K k W hC (handle_of_laid hL)
end Go.Proofs.YtdcppcoldaaldaaGreatDoor


