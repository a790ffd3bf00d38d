/- Layer 12: the law ChunkParses (written by tools/gen_chunk_lp.py). -/
import Derived.Test.YthkbcpbgoefanaaGreatDoorQCX
import Derived.Test.YthkbcpbgoefanaaGreatDoorQCM
import Derived.Test.YthkbcpbgoefanaaGreatDoorQCT
import Derived.Test.YthkbcpbgoefanaaGreatDoorQChunkW
import Derived.Test.YthkbcpbgoefanaaGreatDoorQNodePX
import Derived.Deep.Cut
namespace Go.Proofs.YthkbcpbgoefanaaGreatDoor
open Go.ChangeShapes Go.WideShapes Go.ChangeAt Go.RowKit

set_option linter.unusedSimpArgs false
theorem ChunkS.turn {w w' : World} {S S' : Nat → Prop} {A : Option Addr} {c : Nat} {K : Option Addr} {k : Nat} {x : Ck} (h : ChunkS w S A c K k x) (hk : ∀ p : Addr, S p.block → w'.cell? p = w.cell? p) (hs : ∀ b, S b → S' b) : ChunkS w' S' A c K k x :=
  ⟨h.data.turn hk hs, h.dc, h.dm, h.kids.turn hk hs, h.kc, h.km⟩
theorem ck_small {b : List UInt8} {x : Ck} (h : cpa b = .ok x) (hb : b.length ≤ 2000) : CkFine x ∧ x.d.length ≤ 2000 ∧ x.ks.length ≤ 1000 ∧ csz x = b.length := by
  obtain ⟨h1, h2⟩ := cpa_back h
  have hl := ckB_len x
  rw [h1] at hl
  have hz : sizes (lens x.ks) ≤ 2000 := by unfold csz at hl; omega
  have hd : x.d.length ≤ 2000 := by unfold csz at hl; omega
  obtain ⟨h3, h4⟩ := fine_list hz
  exact ⟨⟨by omega, h3, h4⟩, hd, h3, hl.symm⟩
def ck00 : Ck := ⟨0, 0, [], []⟩
set_option maxRecDepth 100000 in
set_option maxHeartbeats 8000000 in
theorem cparses_law (A : Option Addr) (cc : Nat) (b : List UInt8) (w : World) (h : Lies w w.heap.size A (b.map bv)) (hcc : b.length ≤ cc) (hm : cc ≤ maxLen) (hh : Handle w) :
    Calls Tryz.prog 4 #[.slice A b.length cc] w fun e w' => e = .returned (.bool true) ∧ Below w.heap.size w w' := by
  have HH := Lib.hid hh
  have HLB := Lib.hid h
  go_enter Tryz.func4, Tryz.ntmps4
  go_wp2_with fail
  refine (cawake_any w hh).mono ?_
  rintro e w1 ⟨rfl, b1⟩
  have H1 := hh.below b1 hh.lt
  clear hh h
  by_cases hl : 2000 < b.length
  · have hl2 : (2000 : Int) < (b.length : Int) := by omega
    go_wp2_with fail
    refine (cawake_any _ H1).mono ?_
    rintro e w3 ⟨rfl, b3⟩
    go_wp2_with fail
    go_ret
    exact ⟨rfl, b1.trans (b3.mono b1.size)⟩
  have hl2 : ¬ (2000 : Int) < (b.length : Int) := by omega
  have hE := own_empty w1 w1.heap.size (Nat.le_refl _)
  have hL1 := (HLB.out.below b1).alloc (B := w.heap.size) b1.size (.cells #[] 5)
  have hal1 : Below w1.heap.size w1 (w1.alloc (.cells #[] 5)) := (Below.refl _ w1).alloc (Nat.le_refl _) _
  have ho := one_bytes b
  have HO := Lib.hid ho
  clear ho
  go_wp2_with (at_builtin; refine wpList_append_lies _ rfl (.tmp 20) (.tmp 21) 22 rfl w1.heap.size 5 _ 1 Tryz.underlying22 u8info rfl _ _ _ rfl hE _ A b.length cc _ rfl (by simp) hL1 HO.out (by omega) (by unfold maxLen; omega) (by simp) ?_; intro Ao co w2 own2 grow2 _)
  rw [Nat.zero_add, List.nil_append] at own2
  have b2 : Below w1.heap.size w1 w2 := hal1.grown grow2 (by simp) (fun j e => by cases e; exact Nat.le_refl _)
  have hcap2 := own_cap own2
  have H2 := H1.below b2 H1.lt
  have hP := cparse_any Ao co b w2 H2 (Lies.own own2) hcap2.2.1 hcap2.2.2 (by omega)
  have HO2 := Lib.hid own2
  have B2 := b1.trans (b2.mono b1.size)
  have hsz2 := b2.size
  have hsz1 := b1.size
  clear hE hL1 grow2 own2 hal1 b2
  have HRP := Lib.hid (fun W (hW : Below w.heap.size w W) => rparse12_any b (by omega) w.heap.size A cc W hW.size (HLB.out.below hW) hcc hm)
  have HOB2 : Hid (b.length = 0 ∨ ∃ g, Ao = some ⟨g, 0, none⟩ ∧ w1.heap.size ≤ g ∧ g < w2.heap.size ∧ Byts w2 g b.length ∧ (Value.slice Ao b.length co).ownBlock = some g) := by
    rcases Nat.eq_zero_or_pos b.length with h0 | h0
    · exact .inl h0
    · exact .inr (byts_own HO2.out h0)
  have HROW := Lib.hid (show ∀ g, (Value.slice Ao b.length co).ownBlock = some g → w1.heap.size ≤ g ∧ g < w2.heap.size from fun g hg => HO2.out.lt g hg)
  clear HO2
  have HSZB : Hid (b.length ≤ 2000) := by unfold Hid; omega
  cases hr : cpa b with
  | bad code k =>
    have hcode := cpa_code hr
    rw [hr] at hP
    have hP' : Calls Tryz.prog 21 #[.slice Ao b.length co] w2 fun e w' => Below w2.heap.size w2 w' ∧ e = .returned (.tuple #[zck, faultV (code : Int) (k : Int)]) := Calls.mono (R := CPaR w2 (.bad code k)) hP (by rintro e w' ⟨h1, h2⟩; exact ⟨h1, h2⟩)
    have hRP' : ∀ W, Below w.heap.size w W → Calls Tryz.prog 25 #[.slice A b.length cc] W fun e w' => e = .returned (.tuple #[zck, .int .i64 (code : Int), .int .i64 (k : Int)]) ∧ Below W.heap.size W w' := fun W hW => by
      have h9 := HRP.out W hW
      rw [hr] at h9
      refine Calls.mono (R := RCR W w.heap.size (.bad code k)) h9 ?_
      rintro e w' ⟨h1, h2⟩
      exact ⟨h2, h1⟩
    have HT : Hid (∀ W, Handle W → Calls Tryz.prog 26 #[faultV (code : Int) (k : Int), .int .i64 (code : Int), .int .i64 (k : Int)] W fun e w' => e = .returned (.bool true) ∧ Below W.heap.size W w') := fun W hW => by
      have h9 := told12 (some (code, k)) code k W hW
      unfold tolB at h9
      simp only [ne_eq, hcode, not_false_eq_true, decide_true, Bool.and_self] at h9
      exact h9
    have hq : ((code : Int) != 0) = true := by rw [bne_iff_ne]; omega
    unfold faultV at hP' HT
    clear hP hr hcode HRP
    go_wp2_with fail
    refine hP'.mono ?_
    rintro e w3 ⟨b3, rfl⟩
    have hs23 := b3.size
    have B3 := B2.trans (b3.mono B2.size)
    have b3n := b3.alloc b3.size (.cells #[.int .u8 0, .int .u8 0, .slice none 0 0, .slice none 0 0] 25)
    have y3 := Whole.new w3 25 #[.int .u8 0, .int .u8 0, .slice none 0 0, .slice none 0 0]
    go_upto_region 5 with fail
    generalize hg3 : w3.heap.size = g3 at *
    generalize w3.alloc (.cells #[.int .u8 0, .int .u8 0, .slice none 0 0, .slice none 0 0] 25) = w3n at *
    have hRP3 := hRP' w3n (B2.trans (b3n.mono B2.size))
    clear hRP' b3 B3 hP'
    go_wp2_with fail
    refine hRP3.mono ?_
    rintro e w4 ⟨rfl, b4⟩
    have b24 := b3n.trans (b4.mono b3n.size)
    have b25 := b24.alloc b24.size (.cells #[.int .u8 0, .int .u8 0, .slice none 0 0, .slice none 0 0] 25)
    have y5 := (y3.below b4 y3.lt).alloc (.cells #[.int .u8 0, .int .u8 0, .slice none 0 0, .slice none 0 0] 25)
    go_upto_region 6 with fail
    generalize w4.alloc (.cells #[.int .u8 0, .int .u8 0, .slice none 0 0, .slice none 0 0] 25) = w5 at *
    have B5 := B2.trans (b25.mono B2.size)
    have H5 := HH.out.below B5 HH.out.lt
    clear b4 hRP3 y3 b24
    go_wp2_with fail
    refine (HT.out w5 H5).mono ?_
    rintro e w6 ⟨rfl, b6⟩
    have b26 := b25.trans (b6.mono b25.size)
    have B6 := B2.trans (b26.mono B2.size)
    have y6 := y5.below b6 y5.lt
    have hg26 : w2.heap.size ≤ g3 := by
      first | omega | (have := b3n.size; omega)
    have HOB : Hid (b.length = 0 ∨ ∃ g, Ao = some ⟨g, 0, none⟩ ∧ Byts w6 g b.length ∧ (Value.slice Ao b.length co).ownBlock = some g) := by
      rcases HOB2.out with h0 | ⟨g, h1, h2, h3, ⟨cur, h4, h5⟩, h6⟩
      · exact .inl h0
      · exact .inr ⟨g, h1, ⟨cur, Whole.below h4 b26 h3, h5⟩, h6⟩
    go_wp2_with fail
    go_loopw [9] (fun i wr => ∃ k : Nat, k ≤ b.length ∧ i = .int .i64 k ∧ Hid (w6.grownBy wr (Value.slice Ao b.length co).ownBlock ∧ (b.length = 0 ∨ ∃ g, Ao = some ⟨g, 0, none⟩ ∧ Byts wr g b.length ∧ (Value.slice Ao b.length co).ownBlock = some g))) (fun i _ => b.length - (intOf i).toNat)
    case atStart => exact ⟨0, Nat.zero_le _, rfl, World.grownBy.refl w6 _, HOB.out⟩
    case round =>
      obtain ⟨i, hi, rfl, hinv⟩ := hrel
      by_cases hlt : i < b.length
      · obtain ⟨hgr, h0 | ⟨g, rfl, hby, hob⟩⟩ := hinv.out
        · omega
        obtain ⟨z, hx, hfz, hset⟩ := hby.at_ hlt
        have hI : (i : Int) < (b.length : Int) := by omega
        have hNX : Hid (w6.grownBy (wr.setCell ⟨g, i, none⟩ (bv (UInt8.ofNat (z.toNat + 1)))) (Value.slice (some ⟨g, 0, none⟩) b.length co).ownBlock) := by
          rw [hob]
          rw [hob] at hgr
          exact hgr.trans (grownBy_setCell1 wr g i _)
        have HW := Lib.hid (wrap_up1 z)
        have HOB3 := Lib.hid hob
        clear hgr hby hinv hob
        go_wp2_with fail
        rw [HW.out]
        go_roundw
        case rel => exact ⟨i + 1, by omega, by go_num, hNX.out, .inr ⟨g, rfl, hset.out _, HOB3.out⟩⟩
        case measure => simp [intOf]; omega
      · obtain rfl : i = b.length := by omega
        have hgr := hinv.out.1
        have hfar : ∀ q, (q < w1.heap.size ∨ w2.heap.size ≤ q) → some q ≠ (Value.slice Ao b.length co).ownBlock := fun q hq e => by have := HROW.out q e.symm; omega
        have hkp : ∀ p : Addr, p.block < w6.heap.size → (p.block < w1.heap.size ∨ w2.heap.size ≤ p.block) → wr.cell? p = w6.cell? p := fun p h1 h2 => World.cell?_of_block (hgr.block p.block h1 (hfar _ h2))
        have hszr := hgr.size
        have yr := y6.grown hgr (hfar _ (.inr (by omega)))
        have Br : Below w.heap.size w wr := B6.grown hgr B6.size (fun g hg => by have := (HROW.out g hg).1; omega)
        obtain ⟨q0, q1, q2, q3⟩ := yr.cs4
        have hS : Calls Tryz.prog 24 #[ckV ck00 none 0 none 0, ckV ck00 none 0 none 0] wr fun e w' => e = .returned (.bool true) ∧ Below wr.heap.size wr w' := by
          have hz : Chunk wr wr.heap.size none 0 none 0 ck00 := ⟨Lies.nil, Nat.le_refl _, Nat.zero_le _, Nodes.nil _ _ _, Nat.le_refl _, Nat.zero_le _⟩
          have h9 := rcsame12 ck00 ck00 (by simp [ck00]) (by simp [ck00]) (by simp [ck00]) none 0 none 0 none 0 none 0 wr hz hz
          rwa [ckEq_self] at h9
        clear hfar hgr hinv hkp
        go_wp2_with fail
        refine hS.mono ?_
        rintro e w8 ⟨rfl, b8⟩
        go_wp2_with fail
        go_ret
        exact ⟨rfl, Br.trans (b8.mono Br.size)⟩
  | ok x =>
    obtain ⟨hfine, hd2, hk2, hcs⟩ := ck_small hr (by omega)
    obtain ⟨hback, hchk⟩ := cpa_back hr
    rw [hr] at hP
    have hP' : Calls Tryz.prog 21 #[.slice Ao b.length co] w2 fun e w' => Below w2.heap.size w2 w' ∧ ∃ A1 c1 K1 k1, e = .returned (.tuple #[ckV x A1 c1 K1 k1, .nilIface]) ∧ Hid (ChunkS w' (NewS w2 w') A1 c1 K1 k1 x) := Calls.mono (R := CPaR w2 (.ok x)) hP (by rintro e w' ⟨h1, A1, c1, K1, k1, h2, h3⟩; exact ⟨h1, A1, c1, K1, k1, h2, h3⟩)
    have hRP' : ∀ W, Below w.heap.size w W → Calls Tryz.prog 25 #[.slice A b.length cc] W fun e w' => Below W.heap.size W w' ∧ ∃ A1 c1 K1 k1, e = .returned (.tuple #[ckV x A1 c1 K1 k1, .int .i64 0, .int .i64 0]) ∧ Hid (ChunkS w' (fun q => q < w.heap.size ∨ (W.heap.size ≤ q ∧ q < w'.heap.size)) A1 c1 K1 k1 x) := fun W hW => by
      have h9 := HRP.out W hW
      rw [hr] at h9
      refine Calls.mono (R := RCR W w.heap.size (.ok x)) h9 ?_
      rintro e w' ⟨h1, A1, c1, K1, k1, h2, h3⟩
      exact ⟨h1, A1, c1, K1, k1, h2, h3⟩
    have HT : Hid (∀ W, Handle W → Calls Tryz.prog 26 #[.nilIface, .int .i64 0, .int .i64 0] W fun e w' => e = .returned (.bool true) ∧ Below W.heap.size W w') := fun W hW => told12 none 0 0 W hW
    have HEN : Hid (∀ W A1 c1 K1 k1, Below w.heap.size w W → Chunk W W.heap.size A1 c1 K1 k1 x → Calls Tryz.prog 16 #[ckV x A1 c1 K1 k1] W fun e w' => Below W.heap.size W w' ∧ ∃ A' c', e = .returned (.tuple #[.slice A' b.length c', .nilIface]) ∧ Lies w' w'.heap.size A' (b.map bv)) := fun W A1 c1 K1 k1 hW hC => by
      have h9 := cencode_any x hfine A1 c1 K1 k1 W hC (HH.out.below hW HH.out.lt)
      refine Calls.mono (R := CEncR W x) h9 ?_
      rintro e w' ⟨h1, ⟨h2, _⟩ | ⟨_, A', c', h3, h4, _⟩⟩
      · exact absurd hchk h2
      · rw [hcs, hchk] at h3
        rw [hback] at h4
        exact ⟨h1, A', c', h3, h4⟩
    have HSE : Hid (∀ W A1 c1 K1 k1 A2 c2 K2 k2, Chunk W W.heap.size A1 c1 K1 k1 x → Chunk W W.heap.size A2 c2 K2 k2 x → Calls Tryz.prog 24 #[ckV x A1 c1 K1 k1, ckV x A2 c2 K2 k2] W fun e w' => e = .returned (.bool true) ∧ Below W.heap.size W w') := fun W A1 c1 K1 k1 A2 c2 K2 k2 g1 g2 => by
      have h9 := rcsame12 x x (by unfold maxLen; omega) (by omega) (by omega) A1 c1 K1 k1 A2 c2 K2 k2 W g1 g2
      rwa [ckEq_self] at h9
    clear hP hr HRP hfine hd2 hk2 hcs hback hchk
    go_wp2_with fail
    refine hP'.mono ?_
    rintro e w3 ⟨b3, A1, c1, K1, k1, rfl, hN3⟩
    have hs23' := b3.size
    have b3n := b3.alloc b3.size (.cells (ckCells x A1 c1 K1 k1) 25)
    have b33 : Below w3.heap.size w3 (w3.alloc (.cells (ckCells x A1 c1 K1 k1) 25)) := (Below.refl _ _).alloc (Nat.le_refl _) _
    have y3 := Whole.new w3 25 (ckCells x A1 c1 K1 k1)
    have hN3n : Hid (ChunkS (w3.alloc (.cells (ckCells x A1 c1 K1 k1) 25)) (fun q => w2.heap.size ≤ q ∧ q < (w3.alloc (.cells (ckCells x A1 c1 K1 k1) 25)).heap.size) A1 c1 K1 k1 x) := hN3.out.turn (fun p hp => b33.cell hp.2) (fun q hq => ⟨hq.1, Nat.lt_of_lt_of_le hq.2 b33.size⟩)
    go_upto_region 5 with fail
    generalize hg3 : w3.heap.size = g3 at *
    generalize w3.alloc (.cells (ckCells x A1 c1 K1 k1) 25) = w3n at *
    have hRP3 := hRP' w3n (B2.trans (b3n.mono B2.size))
    clear hRP' hP' hN3 b33
    go_wp2_with fail
    refine hRP3.mono ?_
    rintro e w4 ⟨b4, Ar, cr, Kr, kr, rfl, hM4⟩
    have b24 := b3n.trans (b4.mono b3n.size)
    have b25 := b24.alloc b24.size (.cells (ckCells x Ar cr Kr kr) 25)
    have b45 : Below w4.heap.size w4 (w4.alloc (.cells (ckCells x Ar cr Kr kr) 25)) := (Below.refl _ _).alloc (Nat.le_refl _) _
    have y5 := (y3.below b4 y3.lt).alloc (.cells (ckCells x Ar cr Kr kr) 25)
    have v5 := Whole.new w4 25 (ckCells x Ar cr Kr kr)
    have hN5 : Hid (ChunkS (w4.alloc (.cells (ckCells x Ar cr Kr kr) 25)) (fun q => w2.heap.size ≤ q ∧ q < w4.heap.size) A1 c1 K1 k1 x) := hN3n.out.turn (fun p hp => (b45.cell (by have := b4.size; omega)).trans (b4.cell hp.2)) (fun q hq => ⟨hq.1, Nat.lt_of_lt_of_le hq.2 b4.size⟩)
    have hM5 : Hid (ChunkS (w4.alloc (.cells (ckCells x Ar cr Kr kr) 25)) (fun q => q < w.heap.size ∨ (w3n.heap.size ≤ q ∧ q < w4.heap.size)) Ar cr Kr kr x) := hM4.out.turn (fun p hp => b45.cell (by have := b4.size; have := b3n.size; rcases hp with hp | hp <;> omega)) (fun q hq => hq)
    have hs34 := b4.size
    have hs23 := b3n.size
    go_upto_region 6 with fail
    generalize hg4 : w4.heap.size = g4 at *
    generalize w4.alloc (.cells (ckCells x Ar cr Kr kr) 25) = w5 at *
    have B5 := B2.trans (b25.mono B2.size)
    have H5 := HH.out.below B5 HH.out.lt
    clear b4 hRP3 y3 b24 hM4 hN3n b45
    go_wp2_with fail
    refine (HT.out w5 H5).mono ?_
    rintro e w6 ⟨rfl, b6⟩
    have b26 := b25.trans (b6.mono b25.size)
    have B6 := B2.trans (b26.mono B2.size)
    have y6 := y5.below b6 y5.lt
    have v6 := v5.below b6 v5.lt
    have hg26 : w2.heap.size ≤ g3 := by
      first | omega | (have := b3.size; omega)
    have hg36 : w2.heap.size ≤ g4 := by omega
    have hg46 : g4 < w6.heap.size := by have := v6.lt; omega
    have hs56 := b6.size
    have HOB : Hid (b.length = 0 ∨ ∃ g, Ao = some ⟨g, 0, none⟩ ∧ Byts w6 g b.length ∧ (Value.slice Ao b.length co).ownBlock = some g) := by
      rcases HOB2.out with h0 | ⟨g, h1, h2, h3, ⟨cur, h4, h5⟩, h6⟩
      · exact .inl h0
      · exact .inr ⟨g, h1, ⟨cur, Whole.below h4 b26 h3, h5⟩, h6⟩
    go_wp2_with fail
    go_loopw [9] (fun i wr => ∃ k : Nat, k ≤ b.length ∧ i = .int .i64 k ∧ Hid (w6.grownBy wr (Value.slice Ao b.length co).ownBlock ∧ (b.length = 0 ∨ ∃ g, Ao = some ⟨g, 0, none⟩ ∧ Byts wr g b.length ∧ (Value.slice Ao b.length co).ownBlock = some g))) (fun i _ => b.length - (intOf i).toNat)
    case atStart => exact ⟨0, Nat.zero_le _, rfl, World.grownBy.refl w6 _, HOB.out⟩
    case round =>
      obtain ⟨i, hi, rfl, hinv⟩ := hrel
      by_cases hlt : i < b.length
      · obtain ⟨hgr, h0 | ⟨g, rfl, hby, hob⟩⟩ := hinv.out
        · omega
        obtain ⟨z, hx, hfz, hset⟩ := hby.at_ hlt
        have hI : (i : Int) < (b.length : Int) := by omega
        have hNX : Hid (w6.grownBy (wr.setCell ⟨g, i, none⟩ (bv (UInt8.ofNat (z.toNat + 1)))) (Value.slice (some ⟨g, 0, none⟩) b.length co).ownBlock) := by
          rw [hob]
          rw [hob] at hgr
          exact hgr.trans (grownBy_setCell1 wr g i _)
        have HW := Lib.hid (wrap_up1 z)
        have HOB3 := Lib.hid hob
        clear hgr hby hinv hob
        go_wp2_with fail
        rw [HW.out]
        go_roundw
        case rel => exact ⟨i + 1, by omega, by go_num, hNX.out, .inr ⟨g, rfl, hset.out _, HOB3.out⟩⟩
        case measure => simp [intOf]; omega
      · obtain rfl : i = b.length := by omega
        have hgr := hinv.out.1
        have hfar : ∀ q, (q < w1.heap.size ∨ w2.heap.size ≤ q) → some q ≠ (Value.slice Ao b.length co).ownBlock := fun q hq e => by have := HROW.out q e.symm; omega
        have hkp : ∀ p : Addr, p.block < w6.heap.size → (p.block < w1.heap.size ∨ w2.heap.size ≤ p.block) → wr.cell? p = w6.cell? p := fun p h1 h2 => World.cell?_of_block (hgr.block p.block h1 (hfar _ h2))
        have hszr := hgr.size
        have yr := y6.grown hgr (hfar _ (.inr (by omega)))
        have vr := v6.grown hgr (hfar _ (.inr (by omega)))
        have Br : Below w.heap.size w wr := B6.grown hgr B6.size (fun g hg => by have := (HROW.out g hg).1; omega)
        have hlt5 : ∀ q, q < g4 → q < w5.heap.size := fun q hq => by have := v5.lt; omega
        have hNr : Chunk wr wr.heap.size A1 c1 K1 k1 x := (hN5.out.turn (w' := wr) (S' := fun q => w2.heap.size ≤ q ∧ q < g4) (fun p hp => (hkp p (by omega) (.inr hp.1)).trans (b6.cell (hlt5 _ hp.2))) fun q hq => hq).chunk fun q hq => by omega
        have hMr : Chunk wr wr.heap.size Ar cr Kr kr x := (hM5.out.turn (w' := wr) (S' := fun q => q < w.heap.size ∨ (w3n.heap.size ≤ q ∧ q < g4)) (fun p hp => (hkp p (by rcases hp with hp | hp <;> omega) (by rcases hp with hp | hp; (exact .inl (by omega)); (exact .inr (by omega)))).trans (b6.cell (hlt5 _ (by rcases hp with hp | hp <;> omega)))) fun q hq => hq).chunk fun q hq => by rcases hq with hq | hq <;> omega
        have HBr := Lib.hid Br
        have hEn := HEN.out wr A1 c1 K1 k1 Br hNr
        obtain ⟨q0, q1, q2, q3⟩ := yr.cs4
        clear hfar hgr hinv hkp Br
        go_wp2_with fail
        refine hEn.mono ?_
        rintro e w7 ⟨b7, A7, c7, rfl, L7⟩
        obtain ⟨q0, q1, q2, q3⟩ := (yr.below b7 yr.lt).cs4
        obtain ⟨p0, p1, p2, p3⟩ := (vr.below b7 vr.lt).cs4
        have hS := HSE.out w7 A1 c1 K1 k1 Ar cr Kr kr (hNr.on b7) (hMr.on b7)
        clear hEn
        go_wp2_with fail
        refine hS.mono ?_
        rintro e w8 ⟨rfl, b8⟩
        have b78 := b7.trans (b8.mono b7.size)
        have B8 := HBr.out.trans (b78.mono HBr.out.size)
        have hSm := same_any A7 A c7 cc w8.heap.size b b w8 ((L7.below b8).more b8.size) ((HLB.out.below B8).more B8.size) (by have := HSZB.out; unfold maxLen; omega)
        simp only [decide_true] at hSm
        clear hS
        go_wp2_with fail
        refine hSm.mono ?_
        rintro e w9 ⟨rfl, qd, rfl⟩
        go_wp2_with fail
        go_ret
        exact ⟨rfl, below_drewN B8 qd⟩
set_option maxRecDepth 100000 in
theorem law_ChunkParses {H : Type} {enc : TypeId × Value → H} {W : World} {base : Nat} {v0 : Value} {d0 : DataW H} {p0 : List MemPlace}
    (o0 : Value.okWide Tryz.prog W .any base 22 v0) (h0 : DataW.Trod enc Tryz.prog W 0 (fun _ => true) true 22 v0 d0 p0) (_s0 : Small Tryz.prog 22 d0) (hL : laidMetH Tryz.prog laidL W) :
    Calls Tryz.prog 4 #[v0] W fun e w' => e = .returned (.bool true) ∧ Below W.heap.size W w' := by
  obtain ⟨A, n, cc, rfl⟩ := okWide_slice Tryz.underlying22 o0
  obtain ⟨fuel, hf⟩ := h0
  obtain ⟨b, rfl, h2, h3, h4⟩ := open_bytes Tryz.underlying22 Tryz.underlying5 (by kernel_rfl) hf
  exact cparses_law A cc b W h2 h3 h4 (handle_of_laid hL)
end Go.Proofs.YthkbcpbgoefanaaGreatDoor

