/- Layer 12: the law ChunkCopies. -/
import Derived.Test.YthkbcpbgoefanaaGreatDoorQChunkCoA
import Derived.Test.YthkbcpbgoefanaaGreatDoorQCT
import Derived.Test.YthkbcpbgoefanaaGreatDoorQChunkLM
import Derived.Test.YthkbcpbgoefanaaGreatDoorQNodeWG
import Derived.Test.YthkbcpbgoefanaaGreatDoorQNodeWH
import Derived.Test.YthkbcpbgoefanaaGreatDoorQK
import Derived.Deep.Cut
namespace Go.Proofs.YthkbcpbgoefanaaGreatDoor
open Go.ChangeShapes Go.WideShapes Go.ChangeAt Go.RowKit

set_option linter.unusedSimpArgs false
theorem ChunkS.turnC {w w' : World} {S S' : Nat → Prop} {A : Option Addr} {c : Nat} {K : Option Addr} {k : Nat} {x : Ck} (h : ChunkS w S A c K k x) (hk : ∀ p : Addr, S p.block → w'.cell? p = w.cell? p) (hs : ∀ b, S b → S' b) : ChunkS w' S' A c K k x :=
  ⟨h.data.turn hk hs, h.dc, h.dm, h.kids.turn hk hs, h.kc, h.km⟩
theorem cut_post {P : Program} {C : Code} {a : Act} {w : World} {Q : Exit → Act → World → Prop} (T : (Exit → Act → World → Prop) → Prop) (hT : T Q) (h : T Q → Code.wp P C Q a w) : Code.wp P C Q a w := h hT
set_option maxRecDepth 100000 in
set_option maxHeartbeats 16000000 in
theorem cop_law (a b : Ck) (hka : a.ks.length ≤ 9223372036854775807) (hba : ∀ n ∈ a.ks, Bnd n) (hkb : b.ks.length ≤ 9223372036854775807) (hbb : ∀ n ∈ b.ks, Bnd n) (A : Option Addr) (c : Nat) (K : Option Addr) (k : Nat) (A' : Option Addr) (c' : Nat) (K' : Option Addr) (k' : Nat) (w : World) (ha : Chunk w w.heap.size A c K k a) (hb : Chunk w w.heap.size A' c' K' k' b) (hh : Handle w) :
    Calls Tryz.prog 6 #[ckV a A c K k, ckV b A' c' K' k'] w fun e w' => e = .returned (.bool true) ∧ Below w.heap.size w w' := by
  have b0 : Below w.heap.size w ((w.alloc (.cells (ckCells a A c K k) 25)).alloc (.cells (ckCells b A' c' K' k') 25)) := ((Below.refl _ w).alloc (Nat.le_refl _) _).alloc (by simp) _
  have x0 : CkBox _ w.heap.size a A c K k := (CkBox.new w a A c K k).alloc (.cells (ckCells b A' c' K' k') 25)
  have y0 := CkBox.new (w.alloc (.cells (ckCells a A c K k) 25)) b A' c' K' k'
  simp only [World.size_alloc] at y0
  have HA := Lib.hid ha
  have HB := Lib.hid hb
  have HH := Lib.hid hh
  have HFA := Lib.hid (fun W (hW : Below w.heap.size w W) => rfew12 a hka hba A c K k W ((ha.below hW).more hW.size))
  have HFB := Lib.hid (fun W (hW : Below w.heap.size w W) => rfew12 b hkb hbb A' c' K' k' W ((hb.below hW).more hW.size))
  clear ha hb hh hba hbb
  go_enter Tryz.func6, Tryz.ntmps6
  go_wp2_with fail
  generalize (w.alloc (.cells (ckCells a A c K k) 25)).alloc (.cells (ckCells b A' c' K' k') 25) = w0 at *
  refine (cawake_any w0 (HH.out.below b0 HH.out.lt)).mono ?_
  rintro e w1 ⟨rfl, b1⟩
  have B1 := b0.trans (b1.mono b0.size)
  have x1 := x0.below b1
  have y1 := y0.below b1
  clear x0 y0 b1 b0
  obtain ⟨p0, p1, p2, p3⟩ := x1.cs
  obtain ⟨q0, q1, q2, q3⟩ := y1.cs
  have hF1 := HFA.out w1 B1
  cases hfa : fewB a with
  | false =>
    rw [hfa] at hF1
    clear hfa
    go_wp2_with fail
    refine hF1.mono ?_
    rintro e w2 ⟨rfl, b2⟩
    have B2 := B1.trans (b2.mono B1.size)
    go_wp2_with fail
    refine (cawake_any w2 (HH.out.below B2 HH.out.lt)).mono ?_
    rintro e w3 ⟨rfl, b3⟩
    go_wp2_with fail
    go_ret
    exact ⟨rfl, B2.trans (b3.mono B2.size)⟩
  | true =>
    rw [hfa] at hF1
    go_wp2_with fail
    refine hF1.mono ?_
    rintro e w2 ⟨rfl, b2⟩
    have B2 := B1.trans (b2.mono B1.size)
    have x2 := x1.below b2
    have y2 := y1.below b2
    clear x1 y1 b2 B1 p0 p1 p2 p3 q0 q1 q2 q3
    obtain ⟨p0, p1, p2, p3⟩ := x2.cs
    obtain ⟨q0, q1, q2, q3⟩ := y2.cs
    have hF2 := HFB.out w2 B2
    cases hfb : fewB b with
    | false =>
      rw [hfb] at hF2
      clear hfb hfa
      go_wp2_with fail
      refine hF2.mono ?_
      rintro e w3 ⟨rfl, b3⟩
      have B3 := B2.trans (b3.mono B2.size)
      go_wp2_with fail
      refine (cawake_any w3 (HH.out.below B3 HH.out.lt)).mono ?_
      rintro e w4 ⟨rfl, b4⟩
      go_wp2_with fail
      go_ret
      exact ⟨rfl, B3.trans (b4.mono B3.size)⟩
    | true =>
      rw [hfb] at hF2
      go_wp2_with fail
      refine hF2.mono ?_
      rintro e w3 ⟨rfl, b3⟩
      have B3 := B2.trans (b3.mono B2.size)
      have x3 := x2.below b3
      have y3 := y2.below b3
      clear x2 y2 b3 B2 p0 p1 p2 p3 q0 q1 q2 q3 hF1 hF2 HFA HFB
      obtain ⟨fa, da, la, sa⟩ := ck_fine hfa
      obtain ⟨fb, db, lb, sb⟩ := ck_fine hfb
      clear hfa hfb
      have hf2 : ∀ n ∈ a.ks, Few2 n := fun n hn => Fine.few2 n (fa.each n hn)
      obtain ⟨p0, p1, p2, p3⟩ := x3.cs
      have hpar := rcl_par a.t
      have hOf := rkof_any a.t
      rw [kV_of] at hOf
      have HCLS := Lib.hid (rclass12 (kdOf a.t).ki (kdOf_ki a.t))
      go_upto_region 3 with fail
      refine cut_post (fun QQ => ∀ (g5 : Nat) (A5 : Option Addr) (c5 : Nat) (A6 : Option Addr) (c6 : Nat) (wE : World) (u31 : Value), OwnCk w3 wE g5 a A5 c5 A6 c6 → QQ Exit.normal { tmps := #[ckV a A c K k, ckV b A' c' K' k', Value.pointer (some ⟨w.heap.size, 0, none⟩), Value.pointer (some ⟨w.heap.size + 1, 0, none⟩), Value.bool false, Value.pointer (some ⟨g5, 0, none⟩), undef, undef, undef, undef, undef, undef, undef, undef, Value.bool true, Value.bool false, Value.bool false, Value.agg #[bv a.t, bv a.fl, Value.slice A a.d.length c, Value.slice K a.ks.length k], Value.bool true, Value.bool false, Value.bool false, Value.bool false, Value.agg #[bv b.t, bv b.fl, Value.slice A' b.d.length c', Value.slice K' b.ks.length k'], Value.bool true, Value.bool false, Value.bool false, undef, Value.pointer (some ⟨w.heap.size, 0, none⟩), bv a.t, Value.pointer (some ⟨w.heap.size, 1, none⟩), bv a.fl, u31, Value.pointer (some ⟨w.heap.size, 2, none⟩), Value.slice A a.d.length c, Value.slice A5 a.d.length c5, Value.pointer (some ⟨w.heap.size, 3, none⟩), Value.slice K a.ks.length k, Value.slice A6 a.ks.length c6, Value.agg #[bv a.t, bv a.fl, Value.slice A5 a.d.length c5, Value.slice A6 a.ks.length c6], undef, undef, undef, undef, undef, undef, undef, undef, undef, undef, undef, undef, undef, undef, undef, undef, undef, undef, undef, undef, undef, undef, undef, undef, undef, undef, undef, undef, undef, undef, undef, undef, undef, undef, undef, undef, undef, undef, undef, undef, undef, undef, undef, undef, undef, undef, undef, undef, undef, undef, undef, undef, undef, undef, undef, undef, undef, undef, undef, undef, undef, undef, undef, undef, undef, undef, undef, undef, undef, undef, undef, undef, undef, undef, undef, undef, undef, undef, undef, undef, undef, undef, undef, undef, undef, undef, undef, undef, undef, undef], defers := [] } wE) ?_ ?_
      · intro g5 A5 c5 A6 c6 wE u31 hO
        have BE := B3.trans (hO.bel.mono B3.size)
        have xE := x3.below hO.bel
        have yE := y3.below hO.bel
        have HOX := Lib.hid hO
        have hlowE := hO.low
        have hgE := hO.box.lt
        have hbxE := hO.box
        have hCE : Chunk wE wE.heap.size A5 c5 A6 c6 a := ⟨hO.data.lies (fun b hb => hb.2.1), hO.caps.1.1, hO.caps.1.2, hO.kids.nodes (fun b hb => hb.2.1), hO.caps.2.1, hO.caps.2.2⟩
        obtain ⟨q0, q1, q2, q3⟩ := wh4 hO.box
        have hCl := cclone_any a (by omega) (by omega) hf2 A5 c5 A6 c6 wE hCE
        clear hO p0 p1 p2 p3
        go_wp2_with fail
        refine hCl.mono ?_
        rintro e w7 ⟨A7, c7, K7, k7, rfl, hS7, b7⟩
        have b78 : Below w7.heap.size w7 (w7.alloc (.cells (ckCells a A7 c7 K7 k7) 25)) := (Below.refl _ _).alloc (Nat.le_refl _) _
        have b8 := b7.trans (b78.mono b7.size)
        have v8 := CkBox.new w7 a A7 c7 K7 k7
        have hlt7 := b7.size
        have hlt78 : w7.heap.size < (w7.alloc (.cells (ckCells a A7 c7 K7 k7) 25)).heap.size := by simp
        have hS8 : ChunkS (w7.alloc (.cells (ckCells a A7 c7 K7 k7) 25)) (fun q => wE.heap.size ≤ q ∧ q < w7.heap.size) A7 c7 K7 k7 a := hS7.turnC (fun p hp => b78.cell hp.2) (fun q hq => hq)
        clear q0 q1 q2 q3 hCl b78 b7 hS7
        go_upto_region 5 with fail
        generalize w7.alloc (.cells (ckCells a A7 c7 K7 k7) 25) = w8 at *
        generalize w7.heap.size = gc at *
        have bx8 := hbxE.below b8 hgE
        have hC8 := hCE.on b8
        obtain ⟨q0, q1, q2, q3⟩ := wh4 bx8
        have hPa := cparams_any a (by omega) hf2 A5 c5 A6 c6 w8 hC8
        generalize hpl : (if parB a.t = true then a.ks else []) = pl at hPa
        have HPL := Lib.hid hpl
        clear hpl hCE hC8
        go_wp2_with fail
        refine hPa.mono ?_
        rintro e w9 ⟨A9, c9, rfl, hN9, hm9, hm9', b9⟩
        have b89 := b8.trans (b9.mono b8.size)
        have hs89 := b9.size
        have hS9 : ChunkS w9 (fun q => wE.heap.size ≤ q ∧ q < gc) A7 c7 K7 k7 a := hS8.turnC (fun p hp => b9.cell (by omega)) (fun q hq => hq)
        have v9 := v8.below b9
        have bx9 := bx8.below b9 bx8.lt
        have HLO : Hid (∀ q, SO w3 wE g5 q → LooseB w9 q) := fun q hq => hq.2.2.2.same (b89.block q hq.2.1)
        have HSB : Hid (∀ j, j < a.d.length → ∃ ad, A5 = some ad ∧ SO w3 wE g5 ad.block ∧ ∃ x : UInt8, w9.cell? (ad.add j) = some (bv x)) := fun j hj => by
          obtain ⟨ad, e1, e2, e3⟩ := HOX.out.data (fun e => by rw [List.map_eq_nil_iff] at e; rw [e] at hj; simp at hj)
          exact ⟨ad, e1, e2, a.d[j], (b89.cell (by rw [blk_add]; exact e2.2.1)).trans (e3 j _ (by rw [List.getElem?_map, List.getElem?_eq_getElem hj]; rfl))⟩
        have HSH : Hid (Sh w9 (SO w3 wE g5) A6 a.ks) := (HOX.out.kids.turn (fun p hp => b89.cell hp.2.1) (fun q hq => hq)).sh
        have HBX : Hid (∀ W, Kin (SO w3 wE g5) w9 W → W.cell? ⟨g5, 2, none⟩ = some (.slice A5 a.d.length c5) ∧ W.cell? ⟨g5, 3, none⟩ = some (.slice A6 a.ks.length c6)) := fun W hW => by
          have h9 : Whole W g5 25 #[bv a.t, bv a.fl, .slice A5 a.d.length c5, .slice A6 a.ks.length c6] := (hW.out g5 (fun h => h.2.2.1 rfl)).trans bx9
          exact ⟨(wh4 h9).2.2.1, (wh4 h9).2.2.2⟩
        have HSD : Hid (∀ q, SO w3 wE g5 q → w3.heap.size ≤ q ∧ q < wE.heap.size) := fun q hq => ⟨hq.1, hq.2.1⟩
        have B9 : Below w3.heap.size w3 w9 := HOX.out.bel.trans (b89.mono HOX.out.bel.size)
        have HB9 := Lib.hid B9
        clear HOX B9 BE xE yE
        generalize SO w3 wE g5 = S at *
        clear q0 q1 q2 q3 hPa bx8 bx9 hbxE v8 hS8 b8 b9
        go_wp2_with fail
        go_loopw [8] (fun i wr => ∃ j : Nat, j ≤ a.d.length ∧ i = .int .i64 j ∧ Hid (Kin S w9 wr)) (fun i _ => a.d.length - (intOf i).toNat)
        case atStart => exact ⟨0, Nat.zero_le _, rfl, Kin.refl _ _⟩
        case round =>
          obtain ⟨j, hj, rfl, hki⟩ := hrel
          obtain ⟨f2, f3⟩ := HBX.out wr hki.out
          by_cases hjl : j < a.d.length
          · obtain ⟨ad, rfl, hb2, x0, hx0⟩ := HSB.out j hjl
            obtain ⟨x, hx⟩ := hki.out.u8 hx0
            have hfr : wr.frozen? (ad.add j) = false := (hki.out.loose _ (HLO.out _ hb2)).frozen' (blk_add _ _)
            have hval : bv (UInt8.ofNat ((x.toNat + 1) % 256)) = .int .u8 (((x.toNat : Int) + 1) % 256) := by unfold bv; rw [UInt8.toNat_ofNat']; congr 1; omega
            have HKS : Hid (Kin S w9 (wr.setCell (ad.add j) (.int .u8 (((x.toNat : Int) + 1) % 256)))) := hki.out.trans (kin_set hx (by rw [blk_add]; exact hb2) (.inl ⟨x, _, rfl, hval.symm⟩))
            have hj1 : (j : Int) < (a.d.length : Int) := by omega
            clear hval hx0
            go_wp2_with fail
            go_roundw
            case rel => exact ⟨j + 1, by omega, by go_num, HKS.out⟩
            case measure => simp [intOf]; omega
          · obtain rfl : j = a.d.length := by omega
            clear HSB
            generalize wr = wo at *
            go_wp2_with fail
            go_loopw [9] (fun i wr => ∃ i2 : Nat, i2 ≤ a.ks.length ∧ i = .int .i64 i2 ∧ Hid (Kin S w9 wr)) (fun i _ => a.ks.length - (intOf i).toNat)
            case atStart => exact ⟨0, Nat.zero_le _, rfl, hki.out⟩
            case round =>
              obtain ⟨i2, hi2, rfl, hk2⟩ := hrel
              clear f2 f3
              obtain ⟨f2, f3⟩ := HBX.out wr hk2.out
              by_cases hlt : i2 < a.ks.length
              · obtain ⟨n, hn⟩ : ∃ n, a.ks[i2]? = some n := ⟨_, List.getElem?_eq_getElem hlt⟩
                obtain ⟨ad, An, cn, Kn, kn', rfl, hb, ⟨t, hc0⟩, hc1, hc2, hd, hkids⟩ := (HSH.out.kin hk2.out).at_ hn
                have hi1 : (i2 : Int) < (a.ks.length : Int) := by omega
                have hvl := (hf2 n (List.mem_of_getElem? hn)).kl
                have hfr : wr.frozen? (ad.add (i2 * 3)) = false := (hk2.out.loose _ (HLO.out _ hb)).frozen' (blk_add _ _)
                have hval : hv (UInt16.ofNat ((t.toNat + 1) % 65536)) = .int .u16 (IntKind.u16.wrap ((t.toNat : Int) + 1)) := by unfold hv; rw [UInt16.toNat_ofNat', IntKind.wrap_u16]; congr 1; omega
                have HK1 : Hid (Kin S wr (wr.setCell (ad.add (i2 * 3)) (.int .u16 (IntKind.u16.wrap ((t.toNat : Int) + 1))))) := kin_set hc0 (by rw [blk_add]; exact hb) (.inr ⟨t, _, rfl, hval.symm⟩)
                have HD : Hid (∀ W, Kin S wr W → ∀ j, j < n.v.length → ∃ a2, An = some a2 ∧ S a2.block ∧ ∃ x : UInt8, W.cell? (a2.add j) = some (bv x)) := fun W hW j hj => by
                  obtain ⟨a2, q1, q2, x, q3⟩ := hd j hj
                  obtain ⟨y, q4⟩ := hW.u8 q3
                  exact ⟨a2, q1, q2, y, q4⟩
                have HC1 : Hid (∀ W, Kin S wr W → W.cell? ⟨(ad.add (i2 * 3)).block, (ad.add (i2 * 3)).off + 1, none⟩ = some (.slice An n.v.length cn)) := fun W hW => hW.slice hc1
                clear hval hd hkids hc1 hc2 hn
                go_upto_region 14 with fail
                clear hc0 hfr f2 f3
                generalize hwx : wr.setCell (ad.add (i2 * 3)) (.int .u16 (IntKind.u16.wrap ((t.toNat : Int) + 1))) = wx at *
                clear hwx
                have HKX := HK1.out
                generalize wr = wo2 at *
                go_wp2_with fail
                go_loopw [10] (fun i wr => ∃ j : Nat, j ≤ n.v.length ∧ i = .int .i64 j ∧ Hid (Kin S wo2 wr)) (fun i _ => n.v.length - (intOf i).toNat)
                case atStart => exact ⟨0, Nat.zero_le _, rfl, HKX⟩
                case round =>
                  obtain ⟨j, hj, rfl, hki'⟩ := hrel
                  have hc1 := HC1.out wr hki'.out
                  obtain ⟨f2, f3⟩ := HBX.out wr (hk2.out.trans hki'.out)
                  by_cases hjl : j < n.v.length
                  · obtain ⟨a2, rfl, hb2, x, hx⟩ := HD.out wr hki'.out j hjl
                    have hfr : wr.frozen? (a2.add j) = false := (hki'.out.loose _ (hk2.out.loose _ (HLO.out _ hb2))).frozen' (blk_add _ _)
                    have hval : bv (UInt8.ofNat ((x.toNat + 1) % 256)) = .int .u8 (((x.toNat : Int) + 1) % 256) := by unfold bv; rw [UInt8.toNat_ofNat']; congr 1; omega
                    have HKS : Hid (Kin S wo2 (wr.setCell (a2.add j) (.int .u8 (((x.toNat : Int) + 1) % 256)))) := hki'.out.trans (kin_set hx (by rw [blk_add]; exact hb2) (.inl ⟨x, _, rfl, hval.symm⟩))
                    have hj1 : (j : Int) < (n.v.length : Int) := by omega
                    clear hval
                    go_wp2_with fail
                    go_roundw
                    case rel => exact ⟨j + 1, by omega, by go_num, HKS.out⟩
                    case measure => simp [intOf]; omega
                  · have hj1 : ¬ (j : Int) < (n.v.length : Int) := by omega
                    have HKS : Hid (Kin S w9 wr) := hk2.out.trans hki'.out
                    go_wp2_with fail
                    go_roundw
                    case rel => exact ⟨i2 + 1, by omega, by go_num, HKS.out⟩
                    case measure => simp [intOf]; omega
              · obtain rfl : i2 = a.ks.length := by omega
                have hkf := hk2.out
                have hszk := hkf.size
                have hbK : Below w3.heap.size w9 wr := hkf.below (fun q hq => (HSD.out q hq).1)
                have hfarW : ∀ p : Addr, wE.heap.size ≤ p.block → wr.cell? p = w9.cell? p := fun p hp => World.cell?_of_block (hkf.out _ (fun h => by have := (HSD.out _ h).2; omega))
                have b3r : Below w3.heap.size w3 wr := HB9.out.trans hbK
                have Br := B3.trans (b3r.mono B3.size)
                have xr := x3.below b3r
                have yr := y3.below b3r
                have vr : CkBox wr gc a A7 c7 K7 k7 := (hkf.out gc (fun h => by have := (HSD.out _ h).2; omega)).trans v9
                have hgc := v9.lt
                have hCr : Chunk wr wr.heap.size A7 c7 K7 k7 a := (hS9.turnC (fun p hp => hfarW p hp.1) (fun q hq => hq)).chunk (fun q hq => by omega)
                have hNr : Nodes wr wr.heap.size A9 pl := (hN9.turn (fun p hp => hfarW p (by have := hp.1; have := b89.size; omega)) (fun q hq => hq)).nodes (fun q hq => by have := hq.2; omega)
                have HAr := Lib.hid (HA.out.below Br)
                have HBr := Lib.hid (HB.out.below Br)
                have HBRR := Lib.hid Br
                have hwr := Br.size
                clear hbK hfarW hkf HSH HBX HLO HSD v9 hS9 hN9 b3r hki b89 HB9 Br
                have HRB : Hid (parB a.t = true → pl = a.ks) := fun h => by rw [← HPL.out, if_pos h]
                have HRN : Hid (parB a.t = false → pl = []) := fun h => by rw [← HPL.out, h]; rfl
                clear HPL
                generalize kn a.t = kb at *
                generalize kdOf a.t = f at *
                obtain ⟨ty, nm, mk, lo, hi, un, ki⟩ := f
                unfold Kd.val at hOf
                simp only [] at hOf hpar HCLS
                generalize parB a.t = pb at *
                obtain ⟨p0, p1, p2, p3⟩ := xr.cs
                go_wp2_with fail
                refine (hOf _).mono ?_
                rintro e w11 ⟨rfl, b11⟩
                have k12 := Whole.new w11 45 #[bv ty, .string nm, bv mk, .int .i64 lo, .int .i64 hi, .int .i64 un, .int .i64 ki]
                have b12 := b11.alloc b11.size (.cells #[bv ty, .string nm, bv mk, .int .i64 lo, .int .i64 hi, .int .i64 un, .int .i64 ki] 45)
                have x12 := xr.below b12
                have y12 := yr.below b12
                have v12 := vr.below b12
                have hC12 := hCr.on b12
                have hN12 := hNr.on b12
                go_upto_region 20 with fail
                generalize w11.alloc (.cells #[bv ty, .string nm, bv mk, .int .i64 lo, .int .i64 hi, .int .i64 un, .int .i64 ki] 45) = w12 at *
                clear p0 p1 p2 p3 b11
                generalize w11.heap.size = gk at *
                obtain ⟨d0, d1, d2, d3, d4, d5, d6⟩ := k12.kd7
                obtain ⟨p0, p1, p2, p3⟩ := x12.cs
                obtain ⟨v0, v1, v2, v3⟩ := v12.cs
                obtain ⟨y0, y1, y2, y3⟩ := y12.cs
                have KS : Hid (∀ W, Below w12.heap.size w12 W → (W.cell? ⟨gc, 0, none⟩ = some (bv a.t) ∧ W.cell? ⟨gc, 1, none⟩ = some (bv a.fl) ∧ W.cell? ⟨gc, 2, none⟩ = some (.slice A7 a.d.length c7) ∧ W.cell? ⟨gc, 3, none⟩ = some (.slice K7 a.ks.length k7)) ∧ (W.cell? ⟨w.heap.size, 0, none⟩ = some (bv a.t) ∧ W.cell? ⟨w.heap.size, 1, none⟩ = some (bv a.fl) ∧ W.cell? ⟨w.heap.size, 2, none⟩ = some (.slice A a.d.length c) ∧ W.cell? ⟨w.heap.size, 3, none⟩ = some (.slice K a.ks.length k)) ∧ W.cell? ⟨w.heap.size + 1, 0, none⟩ = some (bv b.t) ∧ W.cell? ⟨w.heap.size + 1, 1, none⟩ = some (bv b.fl) ∧ W.cell? ⟨w.heap.size + 1, 2, none⟩ = some (.slice A' b.d.length c') ∧ W.cell? ⟨w.heap.size + 1, 3, none⟩ = some (.slice K' b.ks.length k')) := fun W hW => ⟨(v12.below hW).cs, (x12.below hW).cs, (y12.below hW).cs⟩
                have HAW : Hid (∀ W, Below w12.heap.size w12 W → Chunk W W.heap.size A c K k a) := fun W hW => ((HAr.out.more hwr).on b12).on hW
                have HBW : Hid (∀ W, Below w12.heap.size w12 W → Chunk W W.heap.size A' c' K' k' b) := fun W hW => ((HBr.out.more hwr).on b12).on hW
                have H1 : Hid (∀ W, Below w12.heap.size w12 W → Calls Tryz.prog 24 #[ckV a A7 c7 K7 k7, ckV a A c K k] W fun e w' => e = .returned (.bool true) ∧ Below W.heap.size W w') := fun W hW => by
                  have h9 := rcsame12 a a (by unfold maxLen; omega) hka hka A7 c7 K7 k7 A c K k W (hC12.on hW) (HAW.out W hW)
                  rwa [ckEq_self] at h9
                have H3 : Hid (∀ W, Below w12.heap.size w12 W → Calls Tryz.prog 33 #[ckV a A c K k, ckV b A' c' K' k'] W fun e w' => e = .returned (.bool (ckEq a b)) ∧ Below W.heap.size W w') := fun W hW => csame_any a b (by omega) (fun n hn => Fine.few1 n (fa.each n hn)) A c K k A' c' K' k' W (HAW.out W hW) (HBW.out W hW)
                have H4 : Hid (∀ W, Below w12.heap.size w12 W → Calls Tryz.prog 24 #[ckV a A c K k, ckV b A' c' K' k'] W fun e w' => e = .returned (.bool (ckEq a b)) ∧ Below W.heap.size W w') := fun W hW => rcsame12 a b (by unfold maxLen; omega) hka hkb A c K k A' c' K' k' W (HAW.out W hW) (HBW.out W hW)
                have H5 : Hid (∀ W, Below w12.heap.size w12 W → Calls Tryz.prog 33 #[ckV a A c K k, ckV a A c K k] W fun e w' => e = .returned (.bool true) ∧ Below W.heap.size W w') := fun W hW => by
                  have h9 := csame_any a a (by omega) (fun n hn => Fine.few1 n (fa.each n hn)) A c K k A c K k W (HAW.out W hW) (HAW.out W hW)
                  rwa [ckEq_self] at h9
                have hqb : (ckEq a b == ckEq a b) = true := by cases ckEq a b <;> rfl
                generalize ckEq a b = qb at *
                cases pb with
                | false =>
                  obtain rfl := HRN.out rfl
                  have H2 : Hid (∀ W, Below w12.heap.size w12 W → Calls Tryz.prog 32 #[.slice A9 0 c9, .slice none 0 0] W fun e w' => e = .returned (.bool true) ∧ Below W.heap.size W w') := fun W hW => by
                    have h9 := rsame_any [] [] A9 none c9 0 W (hN12.on hW) (Nodes.nil _ _ _) (by simp) (by simp)
                    rwa [beqL_true rfl] at h9
                  clear HRB HRN HAW HBW HAr HBr hC12 hN12 hCr hNr
                  go_wp2_with fail
                  refine (HCLS.out _).mono ?_
                  rintro e w13 ⟨rfl, rfl⟩
                  go_upto_region 22 with fail
                  go_region_held3 (fun W => (W.cell? ⟨gc, 0, none⟩ = some (bv a.t) ∧ W.cell? ⟨gc, 1, none⟩ = some (bv a.fl) ∧ W.cell? ⟨gc, 2, none⟩ = some (.slice A7 a.d.length c7) ∧ W.cell? ⟨gc, 3, none⟩ = some (.slice K7 a.ks.length k7)) ∧ (W.cell? ⟨w.heap.size, 0, none⟩ = some (bv a.t) ∧ W.cell? ⟨w.heap.size, 1, none⟩ = some (bv a.fl) ∧ W.cell? ⟨w.heap.size, 2, none⟩ = some (.slice A a.d.length c) ∧ W.cell? ⟨w.heap.size, 3, none⟩ = some (.slice K a.ks.length k)) ∧ W.cell? ⟨w.heap.size + 1, 0, none⟩ = some (bv b.t) ∧ W.cell? ⟨w.heap.size + 1, 1, none⟩ = some (bv b.fl) ∧ W.cell? ⟨w.heap.size + 1, 2, none⟩ = some (.slice A' b.d.length c') ∧ W.cell? ⟨w.heap.size + 1, 3, none⟩ = some (.slice K' b.ks.length k'))
                    (first | exact KS.out _ (below_drew (Below.refl _ _)) | exact KS.out _ S1 | exact KS.out _ S2 | exact KS.out _ S3 | exact KS.out _ S4 | exact KS.out _ S5 | fail)
                    (first
                    | (go_at_call 24; (with_reducible refine (H1.out _ (below_drew (Below.refl _ _))).mono ?_); rintro e v1 ⟨rfl, c1⟩; have S1 : Below w13.heap.size w13 v1 := below_undrew c1)
                    | (go_at_call 32; (with_reducible refine (H2.out _ S1).mono ?_); rintro e v2 ⟨rfl, c2⟩; have S2 : Below w13.heap.size w13 v2 := S1.trans (c2.mono S1.size))
                    | (go_at_call 33; (with_reducible refine (H3.out _ S2).mono ?_); rintro e v3 ⟨rfl, c3⟩; have S3 : Below w13.heap.size w13 v3 := S2.trans (c3.mono S2.size))
                    | (go_at_call 24; (with_reducible refine (H4.out _ S3).mono ?_); rintro e v4 ⟨rfl, c4⟩; have S4 : Below w13.heap.size w13 v4 := S3.trans (c4.mono S3.size))
                    | (go_at_call 33; (with_reducible refine (H5.out _ S4).mono ?_); rintro e v5 ⟨rfl, c5⟩; have S5 : Below w13.heap.size w13 v5 := S4.trans (c5.mono S4.size))
                    | fail)
                  go_wp2_with fail
                  go_ret
                  exact ⟨rfl, HBRR.out.trans ((b12.trans (S5.mono b12.size)).mono HBRR.out.size)⟩
                | true =>
                  obtain rfl := HRB.out rfl
                  have H2 : Hid (∀ W, Below w12.heap.size w12 W → Calls Tryz.prog 32 #[.slice A9 a.ks.length c9, .slice K a.ks.length k] W fun e w' => e = .returned (.bool true) ∧ Below W.heap.size W w') := fun W hW => by
                    have h9 := rsame_any a.ks a.ks A9 K c9 k W (hN12.on hW) (HAW.out W hW).kids hka hka
                    rwa [beqL_true rfl] at h9
                  clear HRB HRN HAW HBW HAr HBr hC12 hN12 hCr hNr
                  go_wp2_with fail
                  refine (HCLS.out _).mono ?_
                  rintro e w13 ⟨rfl, rfl⟩
                  go_upto_region 22 with fail
                  go_region_held3 (fun W => (W.cell? ⟨gc, 0, none⟩ = some (bv a.t) ∧ W.cell? ⟨gc, 1, none⟩ = some (bv a.fl) ∧ W.cell? ⟨gc, 2, none⟩ = some (.slice A7 a.d.length c7) ∧ W.cell? ⟨gc, 3, none⟩ = some (.slice K7 a.ks.length k7)) ∧ (W.cell? ⟨w.heap.size, 0, none⟩ = some (bv a.t) ∧ W.cell? ⟨w.heap.size, 1, none⟩ = some (bv a.fl) ∧ W.cell? ⟨w.heap.size, 2, none⟩ = some (.slice A a.d.length c) ∧ W.cell? ⟨w.heap.size, 3, none⟩ = some (.slice K a.ks.length k)) ∧ W.cell? ⟨w.heap.size + 1, 0, none⟩ = some (bv b.t) ∧ W.cell? ⟨w.heap.size + 1, 1, none⟩ = some (bv b.fl) ∧ W.cell? ⟨w.heap.size + 1, 2, none⟩ = some (.slice A' b.d.length c') ∧ W.cell? ⟨w.heap.size + 1, 3, none⟩ = some (.slice K' b.ks.length k'))
                    (first | exact KS.out _ (below_drew (Below.refl _ _)) | exact KS.out _ S1 | exact KS.out _ S2 | exact KS.out _ S3 | exact KS.out _ S4 | exact KS.out _ S5 | fail)
                    (first
                    | (go_at_call 24; (with_reducible refine (H1.out _ (below_drew (Below.refl _ _))).mono ?_); rintro e v1 ⟨rfl, c1⟩; have S1 : Below w13.heap.size w13 v1 := below_undrew c1)
                    | (go_at_call 32; (with_reducible refine (H2.out _ S1).mono ?_); rintro e v2 ⟨rfl, c2⟩; have S2 : Below w13.heap.size w13 v2 := S1.trans (c2.mono S1.size))
                    | (go_at_call 33; (with_reducible refine (H3.out _ S2).mono ?_); rintro e v3 ⟨rfl, c3⟩; have S3 : Below w13.heap.size w13 v3 := S2.trans (c3.mono S2.size))
                    | (go_at_call 24; (with_reducible refine (H4.out _ S3).mono ?_); rintro e v4 ⟨rfl, c4⟩; have S4 : Below w13.heap.size w13 v4 := S3.trans (c4.mono S3.size))
                    | (go_at_call 33; (with_reducible refine (H5.out _ S4).mono ?_); rintro e v5 ⟨rfl, c5⟩; have S5 : Below w13.heap.size w13 v5 := S4.trans (c5.mono S4.size))
                    | fail)
                  go_wp2_with fail
                  go_ret
                  exact ⟨rfl, HBRR.out.trans ((b12.trans (S5.mono b12.size)).mono HBRR.out.size)⟩
      · intro hTail
        have HCL := Lib.hid (fun W (hW : Below w.heap.size w W) => rclone_any a.ks K k W ((HA.out.below hW).more hW.size).kids hf2 (by omega))
        have hE0 := own_empty w3 w3.heap.size (Nat.le_refl _)
        have HD := Lib.hid (fun W (hW : Below w.heap.size w W) => ((HA.out.below hW).more hW.size).data)
        have HO := Lib.hid (one_bytes a.d)
        have hz3 : w.heap.size < w3.heap.size := x3.lt
        have KS : Hid (∀ W, Below w3.heap.size w3 W → W.cell? ⟨w.heap.size, 0, none⟩ = some (bv a.t) ∧ W.cell? ⟨w.heap.size, 1, none⟩ = some (bv a.fl) ∧ W.cell? ⟨w.heap.size, 2, none⟩ = some (.slice A a.d.length c) ∧ W.cell? ⟨w.heap.size, 3, none⟩ = some (.slice K a.ks.length k)) := fun W hW => (x3.below hW).cs
        have hb3' : Below w3.heap.size w3 w3 := Below.refl _ _
        have hE1 := own_empty (w3.alloc (.cells #[.int .u8 0, .int .u8 0, .slice none 0 0, .slice none 0 0] 25)) w3.heap.size (by simp)
        have hE2 := (own_empty w3 w3.heap.size (Nat.le_refl _)).alloc (.cells #[.int .u8 0, .int .u8 0, .slice none 0 0, .slice none 0 0] 25)
        have V1 : Below w3.heap.size w3 (w3.alloc (.cells #[] 5)).drew := below_drew (hb3'.alloc (Nat.le_refl _) _)
        have V2 : Below w3.heap.size w3 ((w3.alloc (.cells #[.int .u8 0, .int .u8 0, .slice none 0 0, .slice none 0 0] 25)).alloc (.cells #[] 5)).drew := below_drew ((hb3'.alloc (Nat.le_refl _) _).alloc (by simp) _)
        have V3 : Below w3.heap.size w3 ((w3.alloc (.cells #[] 5)).alloc (.cells #[.int .u8 0, .int .u8 0, .slice none 0 0, .slice none 0 0] 25)).drew := below_drew ((hb3'.alloc (Nat.le_refl _) _).alloc (by simp) _)
        simp only [World.size_alloc] at hE1
        go_region_held3 (fun W => W.cell? ⟨w.heap.size, 0, none⟩ = some (bv a.t) ∧ W.cell? ⟨w.heap.size, 1, none⟩ = some (bv a.fl) ∧ W.cell? ⟨w.heap.size, 2, none⟩ = some (.slice A a.d.length c) ∧ W.cell? ⟨w.heap.size, 3, none⟩ = some (.slice K a.ks.length k))
          (first | exact KS.out _ (below_drew (Below.refl _ _)) | exact KS.out _ (below_drew ((Below.refl _ _).alloc (Nat.le_refl _) _)) | exact KS.out _ (below_drew (((Below.refl _ _).alloc (Nat.le_refl _) _).alloc (by simp) _)) | exact KS.out _ R5 | exact KS.out _ (R5.alloc R5.size _) | exact KS.out _ R6 | exact KS.out _ (R6.alloc R6.size _) | exact KS.out _ ((((R6.setCell (by first | exact Nat.le_refl _ | exact Nat.le_succ _ | exact R5.size) _).setCell (by first | exact Nat.le_refl _ | exact Nat.le_succ _ | exact R5.size) _).setCell (by first | exact Nat.le_refl _ | exact Nat.le_succ _ | exact R5.size) _).setCell (by first | exact Nat.le_refl _ | exact Nat.le_succ _ | exact R5.size) _) | go_keep | fail)
          (first
          | ((with_reducible show ite _ (Oper.wp _ _ _ ((w3.alloc (.cells #[] 5)).drew) _ _) _); refine step_append_to rfl (.tmp 31) (.tmp 33) 22 rfl w3.heap.size 5 (.int .u8 0) 1 Tryz.underlying22 u8info rfl _ 0 [] (by rfl) (World.ownsRow.drew hE0) _ A a.d.length c (a.d.map bv) (by rfl) (by simp) (HD.out _ (B3.trans (V1.mono B3.size))) HO.out a.d.length (by omega) (by omega) (by unfold maxLen; omega) (by simp) ?_; intro A5 c5 w5 own5 grow5; have R5 : Below w3.heap.size w3 w5 := V1.grown grow5 (by simp) (fun j e => by cases e; exact Nat.le_refl _))
          | ((with_reducible show ite _ (Oper.wp _ _ _ (((w3.alloc (.cells #[.int .u8 0, .int .u8 0, .slice none 0 0, .slice none 0 0] 25)).alloc (.cells #[] 5)).drew) _ _) _); refine step_append_to rfl (.tmp 31) (.tmp 33) 22 rfl w3.heap.size 5 (.int .u8 0) 1 Tryz.underlying22 u8info rfl _ 0 [] (by rfl) (World.ownsRow.drew hE1) _ A a.d.length c (a.d.map bv) (by rfl) (by simp) (HD.out _ (B3.trans (V2.mono B3.size))) HO.out a.d.length (by omega) (by omega) (by unfold maxLen; omega) (by first | (simp; done) | (simp; omega)) ?_; intro A5 c5 w5 own5 grow5; have R5 : Below w3.heap.size w3 w5 := V2.grown grow5 (by first | (simp; done) | (simp; omega)) (fun j e => by cases e; simp); have zb5 := Whole.grown (Whole.drew (Whole.alloc (Whole.new w3 25 #[.int .u8 0, .int .u8 0, .slice none 0 0, .slice none 0 0]) (.cells #[] 5))) grow5 (by simp [Value.ownBlock]))
          | ((with_reducible show ite _ (Oper.wp _ _ _ (((w3.alloc (.cells #[] 5)).alloc (.cells #[.int .u8 0, .int .u8 0, .slice none 0 0, .slice none 0 0] 25)).drew) _ _) _); refine step_append_to rfl (.tmp 31) (.tmp 33) 22 rfl w3.heap.size 5 (.int .u8 0) 1 Tryz.underlying22 u8info rfl _ 0 [] (by rfl) (World.ownsRow.drew hE2) _ A a.d.length c (a.d.map bv) (by rfl) (by simp) (HD.out _ (B3.trans (V3.mono B3.size))) HO.out a.d.length (by omega) (by omega) (by unfold maxLen; omega) (by first | (simp; done) | (simp; omega)) ?_; intro A5 c5 w5 own5 grow5; have R5 : Below w3.heap.size w3 w5 := V3.grown grow5 (by first | (simp; done) | (simp; omega)) (fun j e => by cases e; exact Nat.le_refl _); have zb5 := Whole.grown (Whole.drew (Whole.new (w3.alloc (.cells #[] 5)) 25 #[.int .u8 0, .int .u8 0, .slice none 0 0, .slice none 0 0])) grow5 (by simp [Value.ownBlock]); simp only [World.size_alloc] at zb5)
          | (go_at_call 28; (with_reducible refine (HCL.out _ (by first | exact B3.trans (R5.mono B3.size) | exact B3.trans ((R5.alloc R5.size _).mono B3.size) | fail)).mono ?_); rintro e w6 ⟨A6, c6, rfl, hN6, hc6, hm6, b6⟩; have R6 : Below w3.heap.size w3 w6 := (by first | exact R5.trans (b6.mono R5.size) | exact (R5.alloc R5.size _).trans (b6.mono (R5.alloc R5.size _).size)); (try (first | have zb6 := zb5.below b6 zb5.lt | have zb6 := (Whole.new w5 25 #[.int .u8 0, .int .u8 0, .slice none 0 0, .slice none 0 0]).below b6 (by simp))); (try (obtain ⟨z0, z1, z2, z3⟩ := wh4 zb6; have zf0 := zb6.frozen 0; have zf1 := zb6.frozen 1; have zf2 := zb6.frozen 2; have zf3 := zb6.frozen 3)))
          | fail)
        all_goals
          have own5' : w5.ownsRow w3.heap.size 5 1 (.slice A5 a.d.length c5) a.d.length (a.d.map bv) := by simpa using own5
          first
          | (show Exit.then _ _ _ _ (w6.alloc (.cells #[.int .u8 (a.t.toNat : Int), .int .u8 (a.fl.toNat : Int), .slice A5 a.d.length c5, .slice A6 a.ks.length c6] 25))
             have hO : OwnCk w3 (w6.alloc (.cells #[.int .u8 (a.t.toNat : Int), .int .u8 (a.fl.toNat : Int), .slice A5 a.d.length c5, .slice A6 a.ks.length c6] 25)) (w6.heap.size) a A5 c5 A6 c6 := ownck_new own5' R5 b6 hN6 hc6 hm6
             exact hTail _ _ _ _ _ _ _ hO)
          | (show Exit.then _ _ _ _ (((((w6.setCell ⟨w5.heap.size, 0, none⟩ (.int .u8 (a.t.toNat : Int))).setCell ⟨w5.heap.size, 1, none⟩ (.int .u8 (a.fl.toNat : Int))).setCell ⟨w5.heap.size, 2, none⟩ (.slice A5 a.d.length c5)).setCell ⟨w5.heap.size, 3, none⟩ (.slice A6 a.ks.length c6)))
             have hO : OwnCk w3 (((((w6.setCell ⟨w5.heap.size, 0, none⟩ (.int .u8 (a.t.toNat : Int))).setCell ⟨w5.heap.size, 1, none⟩ (.int .u8 (a.fl.toNat : Int))).setCell ⟨w5.heap.size, 2, none⟩ (.slice A5 a.d.length c5)).setCell ⟨w5.heap.size, 3, none⟩ (.slice A6 a.ks.length c6))) (w5.heap.size) a A5 c5 A6 c6 := ownck_mid own5' R5 b6 hN6 hc6 hm6 zb6
             exact hTail _ _ _ _ _ _ _ hO)
          | (show Exit.then _ _ _ _ (((((w6.setCell ⟨w3.heap.size + 1, 0, none⟩ (.int .u8 (a.t.toNat : Int))).setCell ⟨w3.heap.size + 1, 1, none⟩ (.int .u8 (a.fl.toNat : Int))).setCell ⟨w3.heap.size + 1, 2, none⟩ (.slice A5 a.d.length c5)).setCell ⟨w3.heap.size + 1, 3, none⟩ (.slice A6 a.ks.length c6)))
             have hO : OwnCk w3 (((((w6.setCell ⟨w3.heap.size + 1, 0, none⟩ (.int .u8 (a.t.toNat : Int))).setCell ⟨w3.heap.size + 1, 1, none⟩ (.int .u8 (a.fl.toNat : Int))).setCell ⟨w3.heap.size + 1, 2, none⟩ (.slice A5 a.d.length c5)).setCell ⟨w3.heap.size + 1, 3, none⟩ (.slice A6 a.ks.length c6))) (w3.heap.size + 1) a A5 c5 A6 c6 := ownck_old own5' R5 b6 hN6 hc6 hm6 zb5 (Nat.le_succ _)
             exact hTail _ _ _ _ _ _ _ hO)
          | (show Exit.then _ _ _ _ (((((w6.setCell ⟨w3.heap.size, 0, none⟩ (.int .u8 (a.t.toNat : Int))).setCell ⟨w3.heap.size, 1, none⟩ (.int .u8 (a.fl.toNat : Int))).setCell ⟨w3.heap.size, 2, none⟩ (.slice A5 a.d.length c5)).setCell ⟨w3.heap.size, 3, none⟩ (.slice A6 a.ks.length c6)))
             have hO : OwnCk w3 (((((w6.setCell ⟨w3.heap.size, 0, none⟩ (.int .u8 (a.t.toNat : Int))).setCell ⟨w3.heap.size, 1, none⟩ (.int .u8 (a.fl.toNat : Int))).setCell ⟨w3.heap.size, 2, none⟩ (.slice A5 a.d.length c5)).setCell ⟨w3.heap.size, 3, none⟩ (.slice A6 a.ks.length c6))) (w3.heap.size) a A5 c5 A6 c6 := ownck_old own5' R5 b6 hN6 hc6 hm6 zb5 (Nat.le_refl _)
             exact hTail _ _ _ _ _ _ _ hO)
set_option maxRecDepth 100000 in
theorem law_ChunkCopies {H : Type} {enc : TypeId × Value → H} {W : World} {base : Nat} {v0 v1 : Value} {d0 d1 : DataW H} {p0 p1 : List MemPlace}
    (o0 : Value.okWide Tryz.prog W .any base 25 v0) (h0 : DataW.Trod enc Tryz.prog W 0 (fun _ => true) true 25 v0 d0 p0) (s0 : Small Tryz.prog 25 d0)
    (o1 : Value.okWide Tryz.prog W .any base 25 v1) (h1 : DataW.Trod enc Tryz.prog W 0 (fun _ => true) true 25 v1 d1 p1) (s1 : Small Tryz.prog 25 d1) (hL : laidMetH Tryz.prog laidL W) :
    Calls Tryz.prog 6 #[v0, v1] W fun e w' => e = .returned (.bool true) ∧ Below W.heap.size W w' := by
  obtain ⟨x, A, c, K, k, rfl, hC, hB⟩ := open_chunk o0 h0 s0
  obtain ⟨y, A', c', K', k', rfl, hC', hB'⟩ := open_chunk o1 h1 s1
  exact cop_law x y (by have := hC.kc; have := hC.km; unfold maxLen at this; omega) hB (by have := hC'.kc; have := hC'.km; unfold maxLen at this; omega) hB' A c K k A' c' K' k' W hC hC' (handle_of_laid hL)
end Go.Proofs.YthkbcpbgoefanaaGreatDoor

