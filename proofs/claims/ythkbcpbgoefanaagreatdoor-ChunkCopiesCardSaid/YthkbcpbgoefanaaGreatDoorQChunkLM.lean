/- Layer 12: the law ChunkMatchesReference. -/
import Derived.Test.YthkbcpbgoefanaaGreatDoorQCX
import Derived.Test.YthkbcpbgoefanaaGreatDoorQCM
import Derived.Test.YthkbcpbgoefanaaGreatDoorQCR
import Derived.Test.YthkbcpbgoefanaaGreatDoorQCT
import Derived.Deep.Cut
namespace Go.Proofs.YthkbcpbgoefanaaGreatDoor
open Go.ChangeShapes Go.WideShapes Go.ChangeAt Go.RowKit

set_option linter.unusedSimpArgs false
theorem ck_fine {x : Ck} (h : fewB x = true) : CkFine x ∧ x.d.length ≤ 70000 ∧ x.ks.length ≤ 200 ∧ sizes (lens x.ks) ≤ 201400 := by
  unfold fewB at h
  simp only [Bool.and_eq_true, decide_eq_true_eq] at h
  obtain ⟨h1, h2, h3⟩ := few_fine 21 x.ks h.2
  exact ⟨⟨by omega, by omega, h3⟩, h.1, h1, h2⟩
set_option maxRecDepth 100000 in
set_option maxHeartbeats 8000000 in
theorem cmr_law (x : Ck) (hk : x.ks.length ≤ 9223372036854775807) (hb : ∀ n ∈ x.ks, Bnd n) (A : Option Addr) (c : Nat) (K : Option Addr) (k : Nat) (w : World) (h : Chunk w w.heap.size A c K k x) (hh : Handle w) :
    Calls Tryz.prog 3 #[ckV x A c K k] w fun e w' => e = .returned (.bool true) ∧ Below w.heap.size w w' := by
  have b0 : Below w.heap.size w (w.alloc (.cells (ckCells x A c K k) 25)) := (Below.refl _ w).alloc (Nat.le_refl _) _
  have x0 := CkBox.new w x A c K k
  have hx0 := h.on b0
  have H0 := hh.below b0 hh.lt
  have hF := rfew12 x hk hb A c K k
  have HH := Lib.hid hh
  have HK := Lib.hid hk
  clear hk hb h hh
  go_enter Tryz.func3, Tryz.ntmps3
  go_wp2_with fail
  generalize w.alloc (.cells (ckCells x A c K k) 25) = w0 at *
  refine (cawake_any w0 H0).mono ?_
  rintro e w1 ⟨rfl, b1⟩
  have B1 := b0.trans (b1.mono b0.size)
  have x1 := x0.below b1
  have hx1 := hx0.on b1
  have hF1 := hF w1 hx1
  obtain ⟨q0, q1, q2, q3⟩ := x1.cs
  cases hf : fewB x with
  | false =>
    rw [hf] at hF1
    clear hf hF
    go_wp2_with fail
    refine hF1.mono ?_
    rintro e w2 ⟨rfl, b2⟩
    have B2 := B1.trans (b2.mono B1.size)
    go_wp2_with fail
    refine (cawake_any w2 (HH.out.below B2 HH.out.lt)).mono ?_
    rintro e w3 ⟨rfl, b3⟩
    go_wp2_with fail
    go_ret
    exact ⟨rfl, B2.trans (b3.mono B2.size)⟩
  | true =>
    obtain ⟨hfine, hd7, hk2, hsz⟩ := ck_fine hf
    rw [hf] at hF1
    clear hf hF
    go_wp2_with fail
    refine hF1.mono ?_
    rintro e w2 ⟨rfl, b2⟩
    have B2 := B1.trans (b2.mono B1.size)
    have x2 := x1.below b2
    have hx2 := hx1.on b2
    clear q0 q1 q2 q3 hF1 x0 x1 hx0 hx1 H0
    obtain ⟨q0, q1, q2, q3⟩ := x2.cs
    have hCk := rcheck12 x hfine A c K k w2 hx2
    go_wp2_with fail
    refine hCk.mono ?_
    rintro e w3 ⟨rfl, b3⟩
    have B3 := B2.trans (b3.mono B2.size)
    have x3 := x2.below b3
    have hx3 := hx2.on b3
    clear q0 q1 q2 q3 hCk x2 hx2
    obtain ⟨q0, q1, q2, q3⟩ := x3.cs
    have hEn := cencode_any x hfine A c K k w3 hx3 (HH.out.below B3 HH.out.lt)
    go_wp2_with fail
    refine Calls.mono (R := CEncR w3 x) hEn ?_
    rintro e w4 ⟨b4, he⟩
    have B4 := B3.trans (b4.mono B3.size)
    have x4 := x3.below b4
    have hx4 := hx3.on b4
    have H4 := HH.out.below B4 HH.out.lt
    clear q0 q1 q2 q3 hEn x3 hx3
    have HS1 := Lib.hid (fun W (hW : Below w4.heap.size w4 W) => ccheck_any x hfine A c K k W (hx4.on hW) (H4.below hW H4.lt))
    have HS2 := Lib.hid (fun W (hW : Below w4.heap.size w4 W) => csize_any x hfine A c K k W (hx4.on hW))
    have HS3 := Lib.hid (fun W (hW : Below w4.heap.size w4 W) => rsize12 x hfine (by omega) A c K k W (hx4.on hW))
    have KS : Hid (∀ W, Below w4.heap.size w4 W → W.cell? ⟨w.heap.size, 0, none⟩ = some (bv x.t) ∧ W.cell? ⟨w.heap.size, 1, none⟩ = some (bv x.fl) ∧ W.cell? ⟨w.heap.size, 2, none⟩ = some (.slice A x.d.length c) ∧ W.cell? ⟨w.heap.size, 3, none⟩ = some (.slice K x.ks.length k)) := fun W hW => (x4.below hW).cs
    have HCo : Hid (∀ W, Calls Tryz.prog 17 #[codeE (chkC x), .int .i64 ((chkC x : Nat) : Int)] W fun e w' => e = .returned (.bool true) ∧ W = w') := fun W => by
      have h9 := coded12 (chkC x) (chkC x) W
      rwa [decide_eq_true rfl] at h9
    have HX := Lib.hid hx4
    have HX4 := Lib.hid x4
    have HF := Lib.hid hfine
    obtain ⟨q0, q1, q2, q3⟩ := x4.cs
    clear hx4 x4 H4 hfine b4 b3 b2 b1
    rcases he with ⟨hne, rfl⟩ | ⟨hz, A5, c5, rfl, L5, hc5, hm5⟩
    · have hq : ((chkC x : Int) != 0) = true := by rw [bne_iff_ne]; omega
      clear hne
      generalize hve : codeE (chkC x) = ve at *
      clear hve
      generalize chkC x = code at *
      generalize csz x = sz at *
      go_wp2_with fail
      go_region_held3 (fun W => W.cell? ⟨w.heap.size, 0, none⟩ = some (bv x.t) ∧ W.cell? ⟨w.heap.size, 1, none⟩ = some (bv x.fl) ∧ W.cell? ⟨w.heap.size, 2, none⟩ = some (.slice A x.d.length c) ∧ W.cell? ⟨w.heap.size, 3, none⟩ = some (.slice K x.ks.length k))
        (first | exact KS.out _ (below_drew (Below.refl _ _)) | exact KS.out _ R5 | exact KS.out _ R6 | exact KS.out _ R7 | fail)
        (first
        | (go_at_call 18; (with_reducible refine (HS1.out _ (below_drew (Below.refl _ _))).mono ?_); rintro e w5 ⟨rfl, b5⟩; have R5 : Below w4.heap.size w4 w5 := below_undrew b5)
        | (go_at_call 19; (with_reducible refine (HS2.out _ R5).mono ?_); rintro e w6 ⟨rfl, b6⟩; have R6 : Below w4.heap.size w4 w6 := R5.trans (b6.mono R5.size))
        | (go_at_call 20; (with_reducible refine (HS3.out _ R6).mono ?_); rintro e w7 ⟨rfl, b7⟩; have R7 : Below w4.heap.size w4 w7 := R6.trans (b7.mono R6.size))
        | (go_at_call 17; (with_reducible refine (HCo.out _).mono ?_); rintro e w8 ⟨rfl, rfl⟩)
        | fail)
      go_wp2_with fail
      go_ret
      exact ⟨rfl, B4.trans (R7.mono B4.size)⟩
    · have hq : ((chkC x : Int) != 0) = false := by rw [hz]; rfl
      have HP : Hid (∀ W, Below w4.heap.size w4 W → Calls Tryz.prog 21 #[.slice A5 (csz x) c5] W fun e w' => Below W.heap.size W w' ∧ ∃ A' c' K' k', e = .returned (.tuple #[ckV x A' c' K' k', .nilIface]) ∧ Chunk w' w'.heap.size A' c' K' k' x) := fun W hW => by
        obtain ⟨_, _, _, _, _, _, hsz9⟩ := chk_parts hz
        have h9 := cparse_any A5 c5 (ckB x) W (HH.out.below (B4.trans (hW.mono B4.size)) HH.out.lt) ((L5.below hW).more hW.size) (by rw [ckB_len]; exact hc5) hm5 (by rw [ckB_len]; omega)
        rw [ckB_len, cpa_ckB x hz] at h9
        refine Calls.mono (R := CPaR W (.ok x)) h9 ?_
        rintro e w' ⟨h1, A', c', K', k', rfl, h3⟩
        exact ⟨h1, A', c', K', k', rfl, h3.chunk fun b hb => hb.2⟩
      have HBy : Hid (∀ W, Below w4.heap.size w4 W → Calls Tryz.prog 23 #[ckV x A c K k] W (JnR W (ckB x))) := fun W hW => by
        obtain ⟨_, _, _, _, _, hkl, hsz9⟩ := chk_parts hz
        exact rbytes12 x HF.out hsz9 (fitN_of_chkL hkl) A c K k W (HX.out.on hW)
      have HSM : Hid (∀ W A9 c9, Below w4.heap.size w4 W → Lies W W.heap.size A9 ((ckB x).map bv) → Calls Tryz.prog 22 #[.slice A5 (csz x) c5, .slice A9 (csz x) c9] W fun e w' => e = .returned (.bool true) ∧ Below W.heap.size W w') := fun W A9 c9 hW h9 => by
        obtain ⟨_, _, _, _, _, _, hsz9⟩ := chk_parts hz
        have h8 := same_any A5 A9 c5 c9 W.heap.size (ckB x) (ckB x) W ((L5.below hW).more hW.size) h9 (by rw [ckB_len]; unfold maxLen; omega)
        rw [ckB_len, decide_eq_true rfl] at h8
        refine h8.mono ?_
        rintro e w' ⟨rfl, q, rfl⟩
        exact ⟨rfl, below_drewN (Below.refl _ _) q⟩
      have HRS : Hid (∀ W A9 c9 K9 k9, Below w4.heap.size w4 W → Chunk W W.heap.size A9 c9 K9 k9 x → Calls Tryz.prog 24 #[ckV x A9 c9 K9 k9, ckV x A c K k] W fun e w' => e = .returned (.bool true) ∧ Below W.heap.size W w') := fun W A9 c9 K9 k9 hW h9 => by
        have h8 := rcsame12 x x (by unfold maxLen; omega) HK.out HK.out A9 c9 K9 k9 A c K k W h9 (HX.out.on hW)
        rwa [ckEq_self] at h8
      have HBL := Lib.hid (ckB_len x)
      unfold JnR at HBy
      rw [HBL.out] at HBy
      clear hz
      generalize hve : codeE (chkC x) = ve at *
      clear hve
      generalize chkC x = code at *
      generalize ckB x = bs at *
      generalize csz x = sz at *
      go_wp2_with fail
      go_region_held3 (fun W => W.cell? ⟨w.heap.size, 0, none⟩ = some (bv x.t) ∧ W.cell? ⟨w.heap.size, 1, none⟩ = some (bv x.fl) ∧ W.cell? ⟨w.heap.size, 2, none⟩ = some (.slice A x.d.length c) ∧ W.cell? ⟨w.heap.size, 3, none⟩ = some (.slice K x.ks.length k))
        (first | exact KS.out _ (below_drew (Below.refl _ _)) | exact KS.out _ R5 | exact KS.out _ R6 | exact KS.out _ R7 | fail)
        (first
        | (go_at_call 18; (with_reducible refine (HS1.out _ (below_drew (Below.refl _ _))).mono ?_); rintro e w5 ⟨rfl, b5⟩; have R5 : Below w4.heap.size w4 w5 := below_undrew b5)
        | (go_at_call 19; (with_reducible refine (HS2.out _ R5).mono ?_); rintro e w6 ⟨rfl, b6⟩; have R6 : Below w4.heap.size w4 w6 := R5.trans (b6.mono R5.size))
        | (go_at_call 20; (with_reducible refine (HS3.out _ R6).mono ?_); rintro e w7 ⟨rfl, b7⟩; have R7 : Below w4.heap.size w4 w7 := R6.trans (b7.mono R6.size))
        | (go_at_call 17; (with_reducible refine (HCo.out _).mono ?_); rintro e w8 ⟨rfl, rfl⟩)
        | fail)
      go_wp2_with fail
      refine (HP.out w7 R7).mono ?_
      rintro e w8 ⟨b8, A8, c8, K8, k8, rfl, hC8⟩
      have R8 := R7.trans (b8.mono R7.size)
      have R9 := R8.alloc R8.size (.cells (ckCells x A8 c8 K8 k8) 25)
      have y9 := CkBox.new w8 x A8 c8 K8 k8
      have x9 := HX4.out.below R9
      have hC9 := hC8.on ((Below.refl _ w8).alloc (Nat.le_refl _) (.cells (ckCells x A8 c8 K8 k8) 25))
      go_upto_region 10 with fail
      generalize w8.alloc (.cells (ckCells x A8 c8 K8 k8) 25) = w9 at *
      obtain ⟨q0, q1, q2, q3⟩ := x9.cs
      clear hC8
      go_wp2_with fail
      refine (HBy.out w9 R9).mono ?_
      rintro e w10 ⟨A10, c10, rfl, own10, b10⟩
      have R10 := R9.trans (b10.mono R9.size)
      have hS10 := HSM.out w10 A10 c10 R10 (Lies.own own10)
      go_wp2_with fail
      refine hS10.mono ?_
      rintro e w11 ⟨rfl, b11⟩
      have R11 := R10.trans (b11.mono R10.size)
      have b911 := b10.trans (b11.mono b10.size)
      have hR11 := HRS.out w11 A8 c8 K8 k8 R11 (hC9.on b911)
      obtain ⟨q0, q1, q2, q3⟩ := (HX4.out.below R11).cs
      obtain ⟨p0, p1, p2, p3⟩ := (y9.below b911).cs
      go_wp2_with fail
      refine hR11.mono ?_
      rintro e w12 ⟨rfl, b12⟩
      go_wp2_with fail
      go_ret
      exact ⟨rfl, B4.trans ((R11.trans (b12.mono R11.size)).mono B4.size)⟩
set_option maxRecDepth 100000 in
theorem law_ChunkMatchesReference {H : Type} {enc : TypeId × Value → H} {W : World} {base : Nat} {v0 : Value} {d0 : DataW H} {p0 : List MemPlace}
    (o0 : Value.okWide Tryz.prog W .any base 25 v0) (h0 : DataW.Trod enc Tryz.prog W 0 (fun _ => true) true 25 v0 d0 p0) (s0 : Small Tryz.prog 25 d0) (hL : laidMetH Tryz.prog laidL W) :
    Calls Tryz.prog 3 #[v0] W fun e w' => e = .returned (.bool true) ∧ Below W.heap.size W w' := by
  obtain ⟨x, A, c, K, k, rfl, hC, hB⟩ := open_chunk o0 h0 s0
  exact cmr_law x (by have := hC.kc; have := hC.km; unfold maxLen at this; omega) hB A c K k W hC (handle_of_laid hL)
end Go.Proofs.YthkbcpbgoefanaaGreatDoor

