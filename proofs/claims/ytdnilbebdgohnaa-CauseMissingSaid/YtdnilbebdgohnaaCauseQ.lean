/- Layer 10: the law CauseMissing. It writes nothing that was there. -/
import Derived.Test.YtdnilbebdgohnaaCauseL
import Derived.Test.YtdnilbebdgohnaaCauseI
import Derived.Test.YtdnilbebdgohnaaCauseEF



namespace Go.Proofs.Ytdnilbebdgohnaa
open Go.ChangeShapes Go.WideShapes Go.ChangeAt Go.RowKit

set_option linter.unusedSimpArgs false

theorem fine_miss (l : List UInt16) (h : l.length ≤ 100000) : Fine ((missN l).getD zN) := by
  unfold missN
  split
  · exact fine_z
  · exact fine_small (by show (dM l).length ≤ 800000; rw [dM_len]; omega) rfl
theorem lies_zeros16 (w : World) (M : Nat) : Lies (w.alloc (.cells (madeCells #[.int .u16 0] M) 22)) (w.heap.size + 1) (some ⟨w.heap.size, 0, none⟩) ((List.replicate M (0 : UInt16)).map hv) := by
  have h : madeCells #[.int .u16 0] M = ((List.replicate M (0 : UInt16)).map hv).toArray := by
    apply Array.toList_inj.1
    rw [toList_madeCells_one]
    simp
  rw [h]
  exact Lies.newN w _ _
theorem open_u16s {H : Type} {enc : TypeId × Value → H} {w : World} {held : Bool} {fuel : Nat} {A : Option Addr} {len cap : Nat} {x : DataW H × List MemPlace}
    (h : DataW.trod enc Try.prog w 0 (fun _ => true) held fuel 37 [.slice A len cap] = some x) :
    ∃ l : List UInt16, len = l.length ∧ Lies w w.heap.size A (l.map hv) ∧ len ≤ cap ∧ cap ≤ maxLen := by
  obtain ⟨zs, h1, h2, h3, h4, h5⟩ := open_nums Try.underlying37 Try.underlying22 (by kernel_rfl) h
  refine ⟨zs.map fun n => u16of n.toNat, by simpa using h1, ?_, h3, h4⟩
  have : (zs.map fun n => u16of n.toNat).map hv = zs.map (Value.int .u16) := by
    rw [List.map_map]
    refine List.map_congr_left fun n hn => ?_
    exact (hv_of' (wf_u16 (h5 n hn))).symm
  rw [this]
  exact h2
set_option maxRecDepth 100000 in
set_option maxHeartbeats 8000000 in
theorem cm_law (A : Option Addr) (c : Nat) (l : List UInt16) (t : UInt16) (w : World) (h : Lies w w.heap.size A (l.map hv)) :
    Calls Try.prog 5 #[.slice A l.length c, hv t] w fun e w' => e = .returned (.bool true) ∧ Below w.heap.size w w' := by
  by_cases hlong : 200 < l.length
  · have g : (200 : Int) < (l.length : Int) := by omega
    clear hlong
    go_enter Try.func5, Try.ntmps5
    go_wp2_with fail
    refine (awake10_any w).mono ?_
    rintro e w1 ⟨rfl, b1⟩
    go_wp2_with fail
    refine (awake10_any w1).mono ?_
    rintro e w2 ⟨rfl, b2⟩
    go_wp2_with fail
    go_ret
    exact ⟨rfl, b1.trans (b2.mono b1.size)⟩
  · have g : ¬ (200 : Int) < (l.length : Int) := by omega
    obtain ⟨M, hM⟩ : ∃ M, 32700 + t.toNat % 100 = M := ⟨_, rfl⟩
    have hMb : M ≤ 100000 := by omega
    have ht16 : (t.toNat : Int) < 65536 := by have := t.toNat_lt; omega
    have hw1 : wrap64 (t.toNat : Int) = (t.toNat : Int) := IntWalk.wrap64_in _ ⟨by omega, by omega⟩
    have hw2 : wrap64 (32700 + (t.toNat : Int).tmod 100) = (M : Int) := by
      rw [Int.tmod_eq_emod_of_nonneg (by omega)]
      exact (IntWalk.wrap64_in _ ⟨by omega, by omega⟩).trans (by omega)
    have hmk : ∀ W : World, (Instr.makeSlice 37 (.int .i64 (wrap64 (32700 + (wrap64 (t.toNat : Int)).tmod 100))) (.int .i64 (wrap64 (32700 + (wrap64 (t.toNat : Int)).tmod 100)))).run Try.prog W = .ok (.slice (some ⟨W.heap.size, 0, none⟩) M M) (W.alloc (.cells (madeCells #[.int .u16 0] M) 22)) := fun W => by
      rw [hw1, hw2]
      exact run_make_row' (P := Try.prog) 37 22 (.int .u16 0) 2 Try.underlying37 u16info rfl .i64 .i64 M (by omega) (by omega) W
    clear hM hw1 hw2 ht16
    go_enter Try.func5, Try.ntmps5
    go_wp2_with fail
    refine (awake10_any w).mono ?_
    rintro e w1 ⟨rfl, b1⟩
    go_wp2_with fail
    go_loopw [5] (fun i wr => ∃ k : Nat, k ≤ 2 ∧ i = .int .i64 k ∧ Below w.heap.size w wr) (fun i _ => 2 - (intOf i).toNat)
    case atStart => exact ⟨0, by omega, rfl, b1⟩
    case round =>
      obtain ⟨k, hk, rfl, hbel⟩ := hrel
      have hsz := hbel.size
      by_cases h0 : k = 0
      · have hi1 : (k : Int) < 2 := by omega
        have hi2 : ((k : Int) == 1) = false := by rw [beq_eq_false_iff_ne]; omega
        have hk1 : k + 1 ≤ 2 := by omega
        have hL := (h.below hbel).more hbel.size
        have hlen : l.length ≤ 100000 := by omega
        clear h0 hk hmk
        have HMi := missing10_any A c l wr hL hlen
        have HRi := Lib.hid (fun V (hV : Lies V V.heap.size A (l.map hv)) => rmissing10_any A c l V hV hlen)
        have HTy := typ_miss l (by omega)
        have HFm : Fine ((missN l).getD zN) := fine_miss l hlen
        generalize missN l = o at *
        cases o with
        | none =>
          simp only [Option.getD_some, Option.isSome_some, Option.getD_none, Option.isSome_none, if_true, Bool.false_eq_true, if_false] at HTy HFm
          have HT := Lib.hid (fun A c K k V (hN : Node V V.heap.size A c K k zN) => types10_any zN A c K k V hN HFm)
          rw [HTy] at HT
          clear HTy HFm
          go_wp2_with fail
          refine Calls.mono (R := RetN wr none) HMi ?_
          rintro e w2 ⟨b2, A2, c2, K2, k2, rfl, hN2⟩
          simp only [Option.getD_some, Option.isSome_some, Option.getD_none, Option.isSome_none] at hN2 ⊢
          have hN2 := hN2.node (B := w2.heap.size) fun b hb => hb.2
          have B2 := hbel.trans (b2.mono hbel.size)
          have bn := (Below.refl w2.heap.size w2).alloc (Nat.le_refl _) (.cells #[hv zN.t, .slice A2 zN.v.length c2, .slice K2 zN.ks.length k2] 28)
          have x2 := box_new w2 zN A2 c2 K2 k2
          have hN2' := hN2.on bn
          have B2' := B2.trans (bn.mono B2.size)
          have hL2 := ((((hL.below b2).more b2.size).below bn).more bn.size)
          unfold ndV
          go_upto_region 10 with fail
          generalize w2.alloc (.cells #[hv zN.t, .slice A2 zN.v.length c2, .slice K2 zN.ks.length k2] 28) = v2 at *
          clear HMi
          go_wp2_with fail
          refine Calls.mono (R := RetN v2 none) (HRi.out v2 hL2) ?_
          rintro e w3 ⟨b3, A3, c3, K3, k3, rfl, hN3⟩
          simp only [Option.getD_some, Option.isSome_some, Option.getD_none, Option.isSome_none] at hN3 ⊢
          have hN3 := hN3.node (B := w3.heap.size) fun b hb => hb.2
          have bn3 := (Below.refl w3.heap.size w3).alloc (Nat.le_refl _) (.cells #[hv zN.t, .slice A3 zN.v.length c3, .slice K3 zN.ks.length k3] 28)
          have y3 := box_new w3 zN A3 c3 K3 k3
          have x3 := box_below (box_below x2 b3) bn3
          have hN2' := (hN2'.on b3).on bn3
          have hN3' := hN3.on bn3
          have B3 := (B2'.trans (b3.mono B2'.size)).trans (bn3.mono (B2'.trans (b3.mono B2'.size)).size)
          have hL3 := ((((hL2.below b3).more b3.size).below bn3).more bn3.size)
          unfold ndV
          go_upto_region 11 with fail
          generalize w3.alloc (.cells #[hv zN.t, .slice A3 zN.v.length c3, .slice K3 zN.ks.length k3] 28) = v3 at *
          have s0 := x3.c0
          have s1 := x3.c1
          have s2 := x3.c2
          have r0 := y3.c0
          have r1 := y3.c1
          have r2 := y3.c2
          have hS := same10_any zN zN A2 c2 K2 k2 A3 c3 K3 k3 v3 hN2' hN3'
          rw [(Nd.beq_eq zN zN).2 rfl] at hS
          unfold ndV at hS
          go_wp2_with fail
          refine hS.mono ?_
          rintro e w4 ⟨rfl, b4⟩
          have x4 := box_below x3 b4
          have hN4 := hN2'.on b4
          have B4 := B3.trans (b4.mono B3.size)
          have hL4 := (hL3.below b4).more b4.size
          have hT := HT.out A2 c2 K2 k2 w4 hN4
          unfold ndV at hT
          clear s0 s1 s2 r0 r1 r2 hS
          have q0 := x4.c0
          have q1 := x4.c1
          have q2 := x4.c2
          go_wp2_with fail
          refine Calls.mono (R := TypR w4 none) hT ?_
          rintro e w5 ⟨b5, A5, c5, rfl, l5, _⟩
          simp only [Option.getD_some, Option.isSome_some, Option.getD_none, Option.isSome_none] at l5 ⊢
          have B5 := B4.trans (b5.mono B4.size)
          clear hT q0 q1 q2
          go_wp2_with fail
          go_roundw
          case rel => exact ⟨k + 1, by omega, by go_num, B5⟩
          case measure => simp [intOf]; omega
        | some m =>
          simp only [Option.getD_some, Option.isSome_some, Option.getD_none, Option.isSome_none, if_true, Bool.false_eq_true, if_false] at HTy HFm
          have HT := Lib.hid (fun A c K k V (hN : Node V V.heap.size A c K k m) => types10_any m A c K k V hN HFm)
          rw [HTy] at HT
          clear HTy HFm
          go_wp2_with fail
          refine Calls.mono (R := RetN wr (some m)) HMi ?_
          rintro e w2 ⟨b2, A2, c2, K2, k2, rfl, hN2⟩
          simp only [Option.getD_some, Option.isSome_some, Option.getD_none, Option.isSome_none] at hN2 ⊢
          have hN2 := hN2.node (B := w2.heap.size) fun b hb => hb.2
          have B2 := hbel.trans (b2.mono hbel.size)
          have bn := (Below.refl w2.heap.size w2).alloc (Nat.le_refl _) (.cells #[hv m.t, .slice A2 m.v.length c2, .slice K2 m.ks.length k2] 28)
          have x2 := box_new w2 m A2 c2 K2 k2
          have hN2' := hN2.on bn
          have B2' := B2.trans (bn.mono B2.size)
          have hL2 := ((((hL.below b2).more b2.size).below bn).more bn.size)
          unfold ndV
          go_upto_region 10 with fail
          generalize w2.alloc (.cells #[hv m.t, .slice A2 m.v.length c2, .slice K2 m.ks.length k2] 28) = v2 at *
          clear HMi
          go_wp2_with fail
          refine Calls.mono (R := RetN v2 (some m)) (HRi.out v2 hL2) ?_
          rintro e w3 ⟨b3, A3, c3, K3, k3, rfl, hN3⟩
          simp only [Option.getD_some, Option.isSome_some, Option.getD_none, Option.isSome_none] at hN3 ⊢
          have hN3 := hN3.node (B := w3.heap.size) fun b hb => hb.2
          have bn3 := (Below.refl w3.heap.size w3).alloc (Nat.le_refl _) (.cells #[hv m.t, .slice A3 m.v.length c3, .slice K3 m.ks.length k3] 28)
          have y3 := box_new w3 m A3 c3 K3 k3
          have x3 := box_below (box_below x2 b3) bn3
          have hN2' := (hN2'.on b3).on bn3
          have hN3' := hN3.on bn3
          have B3 := (B2'.trans (b3.mono B2'.size)).trans (bn3.mono (B2'.trans (b3.mono B2'.size)).size)
          have hL3 := ((((hL2.below b3).more b3.size).below bn3).more bn3.size)
          unfold ndV
          go_upto_region 11 with fail
          generalize w3.alloc (.cells #[hv m.t, .slice A3 m.v.length c3, .slice K3 m.ks.length k3] 28) = v3 at *
          have s0 := x3.c0
          have s1 := x3.c1
          have s2 := x3.c2
          have r0 := y3.c0
          have r1 := y3.c1
          have r2 := y3.c2
          have hS := same10_any m m A2 c2 K2 k2 A3 c3 K3 k3 v3 hN2' hN3'
          rw [(Nd.beq_eq m m).2 rfl] at hS
          unfold ndV at hS
          go_wp2_with fail
          refine hS.mono ?_
          rintro e w4 ⟨rfl, b4⟩
          have x4 := box_below x3 b4
          have hN4 := hN2'.on b4
          have B4 := B3.trans (b4.mono B3.size)
          have hL4 := (hL3.below b4).more b4.size
          have hT := HT.out A2 c2 K2 k2 w4 hN4
          unfold ndV at hT
          clear s0 s1 s2 r0 r1 r2 hS
          have q0 := x4.c0
          have q1 := x4.c1
          have q2 := x4.c2
          go_wp2_with fail
          refine Calls.mono (R := TypR w4 (some l)) hT ?_
          rintro e w5 ⟨b5, A5, c5, rfl, l5, _⟩
          simp only [Option.getD_some, Option.isSome_some, Option.getD_none, Option.isSome_none] at l5 ⊢
          have B5 := B4.trans (b5.mono B4.size)
          clear hT q0 q1 q2
          have hE : Calls Try.prog 18 #[.slice A5 l.length c5, .slice A l.length c] w5 (fun e w' => e = .returned (.bool true) ∧ ∃ q, w' = w5.drewN q) := by
            have h9 := eq16_any A5 A c5 c w5.heap.size l l w5 l5 ((hL4.below b5).more b5.size) (by omega)
            rw [decide_eq_true rfl] at h9
            exact h9
          go_wp2_with fail
          refine hE.mono ?_
          rintro e w7 ⟨rfl, q7, rfl⟩
          go_wp2_with fail
          go_roundw
          case rel => exact ⟨k + 1, by omega, by go_num, below_drewN B5 _⟩
          case measure => simp [intOf]; omega
      · by_cases h1 : k = 1
        · have hi1 : (k : Int) < 2 := by omega
          have hi2 : ((k : Int) == 1) = true := by rw [beq_iff_eq]; omega
          have hk1 : k + 1 ≤ 2 := by omega
          have hL0 := lies_zeros16 wr M
          have b0 : Below wr.heap.size wr (wr.alloc (.cells (madeCells #[.int .u16 0] M) 22)) := (Below.refl _ _).alloc (Nat.le_refl _) _
          have hs0 : (wr.alloc (.cells (madeCells #[.int .u16 0] M) 22)).heap.size = wr.heap.size + 1 := by simp
          rw [← hs0] at hL0
          clear h0 h1 hk hs0
          go_upto_region 9 with fail
          generalize wr.alloc (.cells (madeCells #[.int .u16 0] M) 22) = wa at *
          generalize (some (⟨wr.heap.size, 0, none⟩ : Addr)) = AM at *
          have BA := hbel.trans (b0.mono hbel.size)
          have HLM : (List.replicate M (0 : UInt16)).length = M := List.length_replicate ..
          generalize List.replicate M (0 : UInt16) = ll at *
          subst HLM
          have hL := hL0
          have hlen : ll.length ≤ 100000 := hMb
          clear hL0 hMb b0 hmk
          have HMi := missing10_any AM ll.length ll wa hL hlen
          have HRi := Lib.hid (fun V (hV : Lies V V.heap.size AM (ll.map hv)) => rmissing10_any AM ll.length ll V hV hlen)
          have HTy := typ_miss ll (by omega)
          have HFm : Fine ((missN ll).getD zN) := fine_miss ll hlen
          generalize missN ll = o at *
          cases o with
          | none =>
            simp only [Option.getD_some, Option.isSome_some, Option.getD_none, Option.isSome_none, if_true, Bool.false_eq_true, if_false] at HTy HFm
            have HT := Lib.hid (fun A c K k V (hN : Node V V.heap.size A c K k zN) => types10_any zN A c K k V hN HFm)
            rw [HTy] at HT
            clear HTy HFm
            go_wp2_with fail
            refine Calls.mono (R := RetN wa none) HMi ?_
            rintro e w2 ⟨b2, A2, c2, K2, k2, rfl, hN2⟩
            simp only [Option.getD_some, Option.isSome_some, Option.getD_none, Option.isSome_none] at hN2 ⊢
            have hN2 := hN2.node (B := w2.heap.size) fun b hb => hb.2
            have B2 := BA.trans (b2.mono BA.size)
            have bn := (Below.refl w2.heap.size w2).alloc (Nat.le_refl _) (.cells #[hv zN.t, .slice A2 zN.v.length c2, .slice K2 zN.ks.length k2] 28)
            have x2 := box_new w2 zN A2 c2 K2 k2
            have hN2' := hN2.on bn
            have B2' := B2.trans (bn.mono B2.size)
            have hL2 := ((((hL.below b2).more b2.size).below bn).more bn.size)
            unfold ndV
            go_upto_region 10 with fail
            generalize w2.alloc (.cells #[hv zN.t, .slice A2 zN.v.length c2, .slice K2 zN.ks.length k2] 28) = v2 at *
            clear HMi
            go_wp2_with fail
            refine Calls.mono (R := RetN v2 none) (HRi.out v2 hL2) ?_
            rintro e w3 ⟨b3, A3, c3, K3, k3, rfl, hN3⟩
            simp only [Option.getD_some, Option.isSome_some, Option.getD_none, Option.isSome_none] at hN3 ⊢
            have hN3 := hN3.node (B := w3.heap.size) fun b hb => hb.2
            have bn3 := (Below.refl w3.heap.size w3).alloc (Nat.le_refl _) (.cells #[hv zN.t, .slice A3 zN.v.length c3, .slice K3 zN.ks.length k3] 28)
            have y3 := box_new w3 zN A3 c3 K3 k3
            have x3 := box_below (box_below x2 b3) bn3
            have hN2' := (hN2'.on b3).on bn3
            have hN3' := hN3.on bn3
            have B3 := (B2'.trans (b3.mono B2'.size)).trans (bn3.mono (B2'.trans (b3.mono B2'.size)).size)
            have hL3 := ((((hL2.below b3).more b3.size).below bn3).more bn3.size)
            unfold ndV
            go_upto_region 11 with fail
            generalize w3.alloc (.cells #[hv zN.t, .slice A3 zN.v.length c3, .slice K3 zN.ks.length k3] 28) = v3 at *
            have s0 := x3.c0
            have s1 := x3.c1
            have s2 := x3.c2
            have r0 := y3.c0
            have r1 := y3.c1
            have r2 := y3.c2
            have hS := same10_any zN zN A2 c2 K2 k2 A3 c3 K3 k3 v3 hN2' hN3'
            rw [(Nd.beq_eq zN zN).2 rfl] at hS
            unfold ndV at hS
            go_wp2_with fail
            refine hS.mono ?_
            rintro e w4 ⟨rfl, b4⟩
            have x4 := box_below x3 b4
            have hN4 := hN2'.on b4
            have B4 := B3.trans (b4.mono B3.size)
            have hL4 := (hL3.below b4).more b4.size
            have hT := HT.out A2 c2 K2 k2 w4 hN4
            unfold ndV at hT
            clear s0 s1 s2 r0 r1 r2 hS
            have q0 := x4.c0
            have q1 := x4.c1
            have q2 := x4.c2
            go_wp2_with fail
            refine Calls.mono (R := TypR w4 none) hT ?_
            rintro e w5 ⟨b5, A5, c5, rfl, l5, _⟩
            simp only [Option.getD_some, Option.isSome_some, Option.getD_none, Option.isSome_none] at l5 ⊢
            have B5 := B4.trans (b5.mono B4.size)
            clear hT q0 q1 q2
            go_wp2_with fail
            go_roundw
            case rel => exact ⟨k + 1, by omega, by go_num, B5⟩
            case measure => simp [intOf]; omega
          | some m =>
            simp only [Option.getD_some, Option.isSome_some, Option.getD_none, Option.isSome_none, if_true, Bool.false_eq_true, if_false] at HTy HFm
            have HT := Lib.hid (fun A c K k V (hN : Node V V.heap.size A c K k m) => types10_any m A c K k V hN HFm)
            rw [HTy] at HT
            clear HTy HFm
            go_wp2_with fail
            refine Calls.mono (R := RetN wa (some m)) HMi ?_
            rintro e w2 ⟨b2, A2, c2, K2, k2, rfl, hN2⟩
            simp only [Option.getD_some, Option.isSome_some, Option.getD_none, Option.isSome_none] at hN2 ⊢
            have hN2 := hN2.node (B := w2.heap.size) fun b hb => hb.2
            have B2 := BA.trans (b2.mono BA.size)
            have bn := (Below.refl w2.heap.size w2).alloc (Nat.le_refl _) (.cells #[hv m.t, .slice A2 m.v.length c2, .slice K2 m.ks.length k2] 28)
            have x2 := box_new w2 m A2 c2 K2 k2
            have hN2' := hN2.on bn
            have B2' := B2.trans (bn.mono B2.size)
            have hL2 := ((((hL.below b2).more b2.size).below bn).more bn.size)
            unfold ndV
            go_upto_region 10 with fail
            generalize w2.alloc (.cells #[hv m.t, .slice A2 m.v.length c2, .slice K2 m.ks.length k2] 28) = v2 at *
            clear HMi
            go_wp2_with fail
            refine Calls.mono (R := RetN v2 (some m)) (HRi.out v2 hL2) ?_
            rintro e w3 ⟨b3, A3, c3, K3, k3, rfl, hN3⟩
            simp only [Option.getD_some, Option.isSome_some, Option.getD_none, Option.isSome_none] at hN3 ⊢
            have hN3 := hN3.node (B := w3.heap.size) fun b hb => hb.2
            have bn3 := (Below.refl w3.heap.size w3).alloc (Nat.le_refl _) (.cells #[hv m.t, .slice A3 m.v.length c3, .slice K3 m.ks.length k3] 28)
            have y3 := box_new w3 m A3 c3 K3 k3
            have x3 := box_below (box_below x2 b3) bn3
            have hN2' := (hN2'.on b3).on bn3
            have hN3' := hN3.on bn3
            have B3 := (B2'.trans (b3.mono B2'.size)).trans (bn3.mono (B2'.trans (b3.mono B2'.size)).size)
            have hL3 := ((((hL2.below b3).more b3.size).below bn3).more bn3.size)
            unfold ndV
            go_upto_region 11 with fail
            generalize w3.alloc (.cells #[hv m.t, .slice A3 m.v.length c3, .slice K3 m.ks.length k3] 28) = v3 at *
            have s0 := x3.c0
            have s1 := x3.c1
            have s2 := x3.c2
            have r0 := y3.c0
            have r1 := y3.c1
            have r2 := y3.c2
            have hS := same10_any m m A2 c2 K2 k2 A3 c3 K3 k3 v3 hN2' hN3'
            rw [(Nd.beq_eq m m).2 rfl] at hS
            unfold ndV at hS
            go_wp2_with fail
            refine hS.mono ?_
            rintro e w4 ⟨rfl, b4⟩
            have x4 := box_below x3 b4
            have hN4 := hN2'.on b4
            have B4 := B3.trans (b4.mono B3.size)
            have hL4 := (hL3.below b4).more b4.size
            have hT := HT.out A2 c2 K2 k2 w4 hN4
            unfold ndV at hT
            clear s0 s1 s2 r0 r1 r2 hS
            have q0 := x4.c0
            have q1 := x4.c1
            have q2 := x4.c2
            go_wp2_with fail
            refine Calls.mono (R := TypR w4 (some ll)) hT ?_
            rintro e w5 ⟨b5, A5, c5, rfl, l5, _⟩
            simp only [Option.getD_some, Option.isSome_some, Option.getD_none, Option.isSome_none] at l5 ⊢
            have B5 := B4.trans (b5.mono B4.size)
            clear hT q0 q1 q2
            have hE : Calls Try.prog 18 #[.slice A5 ll.length c5, .slice AM ll.length ll.length] w5 (fun e w' => e = .returned (.bool true) ∧ ∃ q, w' = w5.drewN q) := by
              have h9 := eq16_any A5 AM c5 ll.length w5.heap.size ll ll w5 l5 ((hL4.below b5).more b5.size) (by omega)
              rw [decide_eq_true rfl] at h9
              exact h9
            go_wp2_with fail
            refine hE.mono ?_
            rintro e w7 ⟨rfl, q7, rfl⟩
            go_wp2_with fail
            go_roundw
            case rel => exact ⟨k + 1, by omega, by go_num, below_drewN B5 _⟩
            case measure => simp [intOf]; omega
        · have hi1 : ¬ (k : Int) < 2 := by omega
          go_wp2_with fail
          go_ret
          exact ⟨rfl, hbel⟩
set_option maxRecDepth 100000 in
theorem law_CauseMissing {H : Type} {enc : TypeId × Value → H} {W : World} {base : Nat} {v0 v1 : Value} {d0 d1 : DataW H} {p0 p1 : List MemPlace}
    (o0 : Value.okWide Try.prog W .any base 37 v0) (h0 : DataW.Trod enc Try.prog W 0 (fun _ => true) true 37 v0 d0 p0) (_s0 : Small Try.prog 37 d0)
    (o1 : Value.okWide Try.prog W .any base 22 v1) (h1 : DataW.Trod enc Try.prog W 0 (fun _ => true) true 22 v1 d1 p1) (_s1 : Small Try.prog 22 d1) :
    Calls Try.prog 5 #[v0, v1] W fun e w' => e = .returned (.bool true) ∧ Below W.heap.size W w' := by
  obtain ⟨A, n, c, rfl⟩ := okWide_slice Try.underlying37 o0
  obtain ⟨fuel, hf⟩ := h0
  obtain ⟨l, rfl, hl, hc, hcm⟩ := open_u16s hf
  obtain ⟨t, rfl, _, _, wt⟩ := open_int Try.underlying22 o1 h1
  rw [hv_of' (wf_u16 wt)]
  exact cm_law A c l (u16of t.toNat) W hl
end Go.Proofs.Ytdnilbebdgohnaa

