/- Layer 12: the reference's number, counted, Size, Same, Few. They write nothing that was there. -/
/- Layer 12: the reference's counted and odd. They write nothing that was there. -/
import Derived.Test.YteknmgmdmjmnmaaGreatDoorUCA
import Derived.Test.YteknmgmdmjmnmaaGreatDoorUCE
import Derived.Test.YteknmgmdmjmnmaaGreatDoorUCI
import Derived.Test.YteknmgmdmjmnmaaGreatDoorUNodeRAC
import Derived.Test.YteknmgmdmjmnmaaGreatDoorUNF
import Derived.Test.YteknmgmdmjmnmaaGreatDoorUNO
import Derived.Test.YteknmgmdmjmnmaaGreatDoorUA
import Derived.BigGuard








namespace Go.Proofs.YteknmgmdmjmnmaaGreatDoor
open Go.RowKit

set_option linter.unusedSimpArgs false
set_option maxRecDepth 100000 in
set_option maxHeartbeats 1000000 in
theorem rnumber12 (A : Option Addr) (c : Nat) (d : List UInt8) (i : Nat) (hi : i + 2 ≤ d.length) (h0 : 0 < i) (hs : d.length ≤ 1000000) (w : World) (h : Lies w w.heap.size A (d.map bv)) :
    Calls Tryz.prog 157 #[.slice A d.length c, .int .i64 (i : Int)] w fun e w' => e = .returned (.int .i64 ((num2 d i : Nat) : Int)) ∧ Below w.heap.size w w' := by
  obtain ⟨ad, rfl, hadb, hc⟩ := h (fun e => by rw [List.map_eq_nil_iff] at e; rw [e] at hi; simp at hi)
  have e0 : w.cell? (ad.add i) = some (bv (d.getD i 0)) := hc i _ (by rw [List.getElem?_map, List.getElem?_eq_getElem (by omega)]; simp [show i < d.length by omega])
  have e1 : w.cell? ⟨ad.block, ad.off + (i + 1), none⟩ = some (bv (d.getD (i + 1) 0)) := byte_cell h (by omega) (by omega)
  have i0 : (0 : Int) ≤ (i : Int) := by omega
  have i1 : (i : Int) < (d.length : Int) := by omega
  have i2 : (0 : Int) ≤ (i : Int) + 1 := by omega
  have i3 : (i : Int) + 1 < (d.length : Int) := by omega
  have HW : Hid (IntKind.i64.wrap ((i : Int) + 1) = ((i + 1 : Nat) : Int)) := by unfold Hid IntKind.wrap IntKind.bits; simp; omega
  have HR : Hid (num2 d i = 256 * (d.getD i 0).toNat + (d.getD (i + 1) 0).toNat) := rfl
  have hl0 := (d.getD i 0).toNat_lt
  have hl1 := (d.getD (i + 1) 0).toNat_lt
  generalize num2 d i = r at *
  generalize d.getD i 0 = x at *
  generalize d.getD (i + 1) 0 = y at *
  clear hc h hi
  have hw := HW.out
  go_enter Tryz.func157, Tryz.ntmps157
  go_wp2_with fail
  go_region_held3 (fun W => W.cell? (ad.add i) = some (bv x) ∧ W.cell? ⟨ad.block, ad.off + (i + 1), none⟩ = some (bv y)) (go_keep) (fail)
  go_wp2_with fail
  go_ret
  have hr := HR.out
  have w1 : IntKind.i64.wrap (x.toNat : Int) = (x.toNat : Int) := by unfold IntKind.wrap IntKind.bits; simp; omega
  have w2 : IntKind.i64.wrap (y.toNat : Int) = (y.toNat : Int) := by unfold IntKind.wrap IntKind.bits; simp; omega
  have w3 : IntKind.i64.wrap (256 * (x.toNat : Int)) = 256 * (x.toNat : Int) := by unfold IntKind.wrap IntKind.bits; simp; omega
  have w4 : IntKind.i64.wrap (256 * (x.toNat : Int) + (y.toNat : Int)) = (r : Int) := by rw [hr]; unfold IntKind.wrap IntKind.bits; simp; omega
  refine ⟨?_, below_drew (Below.refl _ _)⟩
  show Ending.returned (.int .i64 (IntKind.i64.wrap (IntKind.i64.wrap (256 * IntKind.i64.wrap (x.toNat : Int)) + IntKind.i64.wrap (y.toNat : Int)))) = _
  rw [w1, w2, w3, w4]
/-! ### Size, Same, Few -/
set_option maxRecDepth 100000 in
set_option maxHeartbeats 1000000 in
theorem rsize12 (x : Ck) (hf : CkFine x) (hz : sizes (lens x.ks) ≤ 900000000) (A : Option Addr) (c : Nat) (K : Option Addr) (k : Nat) (w : World) (h : Chunk w w.heap.size A c K k x) :
    Calls Tryz.prog 121 #[ckV x A c K k] w fun e w' => e = .returned (.int .i64 ((csz x : Nat) : Int)) ∧ Below w.heap.size w w' := by
  have b0 : Below w.heap.size w (w.alloc (.cells (ckCells x A c K k) 62)) := (Below.refl _ w).alloc (Nat.le_refl _) _
  have x0 := CkBox.new w x A c K k
  have h0 := h.on b0
  have hd := hf.d
  unfold csz
  generalize hL : w.alloc (.cells (ckCells x A c K k) 62) = w0 at *
  have HS := Lib.hid (fun (W : World) (hW : Below w0.heap.size w0 W) => rsize_any x.ks hf.each K k W (h0.kids.on hW) hf.ks hf.each hz)
  have KS : Hid (∀ W, Below w0.heap.size w0 W → W.cell? ⟨w.heap.size, 0, none⟩ = some (bv x.t) ∧ W.cell? ⟨w.heap.size, 1, none⟩ = some (bv x.fl) ∧ W.cell? ⟨w.heap.size, 2, none⟩ = some (.slice A x.d.length c) ∧ W.cell? ⟨w.heap.size, 3, none⟩ = some (.slice K x.ks.length k)) := fun W hW => (x0.below hW).cs
  generalize sizes (lens x.ks) = z at *
  clear h h0 hf x0
  subst hL
  go_enter Tryz.func121, Tryz.ntmps121
  go_wp2_with fail
  generalize w.alloc (.cells (ckCells x A c K k) 62) = w0 at *
  go_region_held3 (fun W => W.cell? ⟨w.heap.size, 0, none⟩ = some (bv x.t) ∧ W.cell? ⟨w.heap.size, 1, none⟩ = some (bv x.fl) ∧ W.cell? ⟨w.heap.size, 2, none⟩ = some (.slice A x.d.length c) ∧ W.cell? ⟨w.heap.size, 3, none⟩ = some (.slice K x.ks.length k))
    (first | exact KS.out _ (below_drew (Below.refl _ _)) | exact KS.out _ b1 | fail)
    (first
    | (go_at_call 112; (with_reducible refine (HS.out _ (below_drew (Below.refl _ _))).mono ?_); rintro e w1 ⟨rfl, b1'⟩; have b1 : Below w0.heap.size w0 w1 := below_undrew b1')
    | fail)
  go_wp2_with fail
  go_ret
  refine ⟨?_, b0.trans (b1.mono b0.size)⟩
  have e1 : IntKind.i64.wrap (4 + (x.d.length : Int)) = 4 + (x.d.length : Int) := by unfold IntKind.wrap IntKind.bits; simp; omega
  have e2 : IntKind.i64.wrap (4 + (x.d.length : Int) + (z : Int)) = ((4 + x.d.length + z : Nat) : Int) := by unfold IntKind.wrap IntKind.bits; simp; omega
  show Ending.returned (.int .i64 (IntKind.i64.wrap (IntKind.i64.wrap (4 + (x.d.length : Int)) + (z : Int)))) = _
  rw [e1, e2]
def fewB (x : Ck) : Bool := decide (x.d.length ≤ 70000) && decide (cnt 21 x.ks ≤ 200)
set_option maxHeartbeats 1000000 in
theorem rfew12 (x : Ck) (hk : x.ks.length ≤ 9223372036854775807) (hb : ∀ n ∈ x.ks, Bnd n) (A : Option Addr) (c : Nat) (K : Option Addr) (k : Nat) (w : World) (h : Chunk w w.heap.size A c K k x) :
    Calls Tryz.prog 32 #[ckV x A c K k] w fun e w' => e = .returned (.bool (fewB x)) ∧ Below w.heap.size w w' := by
  have b0 : Below w.heap.size w (w.alloc (.cells (ckCells x A c K k) 62)) := (Below.refl _ w).alloc (Nat.le_refl _) _
  have x0 := CkBox.new w x A c K k
  have hF := few_any K k x.ks _ (h.on b0).kids hk hb
  obtain ⟨q0, q1, q2, q3⟩ := x0.cs
  unfold fewB
  generalize decide (cnt 21 x.ks ≤ 200) = kb at *
  by_cases hd : x.d.length ≤ 70000
  · rw [decide_eq_true hd, Bool.true_and]
    have hd' : (x.d.length : Int) ≤ 70000 := by omega
    clear hd h
    go_enter Tryz.func32, Tryz.ntmps32
    go_wp2_with fail
    generalize w.alloc (.cells (ckCells x A c K k) 62) = w0 at *
    refine hF.mono ?_
    rintro e w1 ⟨rfl, b1⟩
    go_wp2_with fail
    go_ret
    exact ⟨rfl, b0.trans (b1.mono b0.size)⟩
  · rw [decide_eq_false hd, Bool.false_and]
    have hd' : ¬ (x.d.length : Int) ≤ 70000 := by omega
    clear hd h hF
    go_enter Tryz.func32, Tryz.ntmps32
    go_wp2_with fail
    go_ret
    exact ⟨rfl, b0⟩
end Go.Proofs.YteknmgmdmjmnmaaGreatDoor



namespace Go.Proofs.YteknmgmdmjmnmaaGreatDoor
open Go.RowKit

set_option linter.unusedSimpArgs false
set_option maxRecDepth 100000 in
set_option maxHeartbeats 1000000 in
theorem rcounted12 (x : Ck) (hs : x.d.length ≤ 1000000) (h12 : x.t = 3 → 12 ≤ x.d.length ∧ (x.d.length - 12) % 4 = 0) (A : Option Addr) (c : Nat) (w : World) (h : Lies w w.heap.size A (x.d.map bv)) :
    Calls Tryz.prog 117 #[bv x.t, .slice A x.d.length c] w fun e w' => e = .returned (.bool (!cntC x)) ∧ Below w.heap.size w w' := by
  by_cases ht : x.t = 3
  · have h12' := h12 ht
    have ht' : ((x.t.toNat : Int) != 3) = false := by rw [ht]; rfl
    have hF := rnumber12 A c x.d 8 (by omega) (by omega) hs w h
    have HG : Hid (∀ W, Below w.heap.size w W → Calls Tryz.prog 157 #[.slice A x.d.length c, .int .i64 (10 : Int)] W fun e w' => e = .returned (.int .i64 ((num2 x.d 10 : Nat) : Int)) ∧ Below W.heap.size W w') := fun W hW => rnumber12 A c x.d 10 (by omega) (by omega) hs W ((h.below hW).more hW.size)
    have hn1 := num2_lt x.d 8
    have hn2 := num2_lt x.d 10
    unfold cntC
    rw [decide_eq_true ht, Bool.true_and]
    clear h12 h ht
    generalize num2 x.d 8 = n1 at *
    generalize num2 x.d 10 = n2 at *
    obtain ⟨b, hdb⟩ : ∃ b, (!decide (n1 + n2 ≠ (x.d.length - 12) / 4)) = b := ⟨_, rfl⟩
    rw [hdb]
    have hz : ((4 * ((n1 : Int) + (n2 : Int))) == (x.d.length : Int) - 12) = b := by
      rw [← hdb]
      by_cases hq : n1 + n2 = (x.d.length - 12) / 4
      · rw [decide_eq_false (by omega), beq_iff_eq.2 (by omega)]
        rfl
      · rw [decide_eq_true (by omega), beq_eq_false_iff_ne.2 (by omega)]
        rfl
    have HZ := Lib.hid hz
    clear hz hdb
    go_enter Tryz.func117, Tryz.ntmps117
    go_wp2_with fail
    refine hF.mono ?_
    rintro e w1 ⟨rfl, b1⟩
    go_wp2_with fail
    refine (HG.out w1 b1).mono ?_
    rintro e w2 ⟨rfl, b2⟩
    go_wp2_with fail
    go_ret
    exact ⟨ret_bool HZ.out, b1.trans (b2.mono b1.size)⟩
  · have ht' : ((x.t.toNat : Int) != 3) = true := by rw [bne_iff_ne]; exact fun e => ht (UInt8.toNat_inj.1 (by show x.t.toNat = 3; omega))
    unfold cntC
    rw [decide_eq_false ht, Bool.false_and]
    clear h12 h ht
    go_enter Tryz.func117, Tryz.ntmps117
    go_wp2_with fail
    go_ret
    exact ⟨rfl, Below.refl _ _⟩
/-- the offset in the data of a wrong reserved number, or -1 -/
def oddI (x : Ck) : Int := match cvalO x with | some a => (a : Int) - 4 | none => -1
set_option maxRecDepth 100000 in
set_option maxHeartbeats 4000000 in
theorem rodd12 (x : Ck) (hs : x.d.length ≤ 1000000) (h64 : x.t = 64 → 17 ≤ x.d.length) (h194 : x.t = 194 → 4 ≤ x.d.length ∧ (x.d.length - 4) % 8 = 0) (A : Option Addr) (c : Nat) (w : World) (h : Lies w w.heap.size A (x.d.map bv)) :
    Calls Tryz.prog 118 #[bv x.t, .slice A x.d.length c] w fun e w' => e = .returned (.int .i64 (oddI x)) ∧ Below w.heap.size w w' := by
  unfold oddI cvalO
  by_cases ht : x.t = 64
  · rw [if_pos ht]
    have hl := h64 ht
    have hF := rnumber12 A c x.d 6 (by omega) (by omega) hs w h
    have ht' : ((x.t.toNat : Int) == 64) = true := by rw [ht]; rfl
    have ht2 : ((x.t.toNat : Int) == 194) = false := by rw [ht]; rfl
    clear h64 h194 h ht
    generalize num2 x.d 6 = n at *
    by_cases hn : n = 0
    · subst hn
      rw [if_neg (by simp)]
      go_enter Tryz.func118, Tryz.ntmps118
      go_wp2_with fail
      refine hF.mono ?_
      rintro e w1 ⟨rfl, b1⟩
      go_wp2_with fail
      go_loopw [5] (fun i wr => i = .int .i64 6 ∧ Below w.heap.size w wr) (fun _ _ => 0)
      case atStart => exact ⟨rfl, b1⟩
      case round =>
        obtain ⟨rfl, hbel⟩ := hrel
        go_wp2_with fail
        try rw [Exit.noGoto_ret]
        go_ret
        exact ⟨rfl, hbel⟩
    · rw [if_pos hn]
      have hn' : ((n : Int) != 0) = true := by rw [bne_iff_ne]; omega
      go_enter Tryz.func118, Tryz.ntmps118
      go_wp2_with fail
      refine hF.mono ?_
      rintro e w1 ⟨rfl, b1⟩
      go_wp2_with fail
      go_ret
      exact ⟨rfl, b1⟩
  · have ht' : ((x.t.toNat : Int) == 64) = false := by rw [beq_eq_false_iff_ne]; exact fun e => ht (UInt8.toNat_inj.1 (by show x.t.toNat = 64; omega))
    rw [if_neg ht]
    clear h64
    by_cases h2 : x.t = 194
    · rw [if_pos h2]
      obtain ⟨h4, h8⟩ := h194 h2
      have ht2 : ((x.t.toNat : Int) == 194) = true := by rw [h2]; rfl
      have HG : Hid (∀ k, k < (x.d.length - 4) / 8 → 1 < num2 x.d (4 + 8 * k + 2) → (∀ j, j < k → ¬ 1 < num2 x.d (4 + 8 * j + 2)) → (match (if wgOf x.d < x.d.length then some (4 + wgOf x.d + 2) else none : Option Nat) with | some a => (a : Int) - 4 | none => -1) = ((4 + 8 * k + 2 : Nat) : Int)) := fun k h1 h2 h3 => by
        have e : wgOf x.d = 4 + 8 * k := by unfold wgOf; rw [grp_at h1 h2 h3]; rfl
        rw [e, if_pos (by omega)]
        show ((4 + (4 + 8 * k) + 2 : Nat) : Int) - 4 = _
        omega
      have HE : Hid ((∀ j, j < (x.d.length - 4) / 8 → ¬ 1 < num2 x.d (4 + 8 * j + 2)) → (match (if wgOf x.d < x.d.length then some (4 + wgOf x.d + 2) else none : Option Nat) with | some a => (a : Int) - 4 | none => -1) = -1) := fun h => by
        have e : wgOf x.d = 4 + 8 * ((x.d.length - 4) / 8) := by unfold wgOf; rw [grp_none h]; rfl
        rw [e, if_neg (by omega)]
      generalize (match (if wgOf x.d < x.d.length then some (4 + wgOf x.d + 2) else none : Option Nat) with | some a => (a : Int) - 4 | none => -1) = res at *
      have hG : x.d.length = 4 + 8 * ((x.d.length - 4) / 8) := by omega
      generalize (x.d.length - 4) / 8 = G at *
      have HL := Lib.hid hG
      have HA := Lib.hid h
      clear hG h h4 h8 h194 h2 ht
      go_enter Tryz.func118, Tryz.ntmps118
      go_wp2_with fail
      go_loopw [5] (fun i wr => ∃ k : Nat, k ≤ G ∧ i = .int .i64 ((4 + 8 * k + 2 : Nat) : Int) ∧ Hid (∀ j, j < k → ¬ 1 < num2 x.d (4 + 8 * j + 2)) ∧ Below w.heap.size w wr) (fun i _ => x.d.length + 8 - (intOf i).toNat)
      case atStart => exact ⟨0, Nat.zero_le _, rfl, fun j hj => by omega, Below.refl _ _⟩
      case round =>
        obtain ⟨k, hk, rfl, hno, hbel⟩ := hrel
        by_cases hlt : k < G
        · have hl := HL.out
          have hN := rnumber12 A c x.d (4 + 8 * k + 2) (by omega) (by omega) hs wr ((HA.out.below hbel).more hbel.size)
          have e1 : ((4 + 8 * k + 2 : Nat) : Int) < (x.d.length : Int) := by omega
          have HR := Lib.hid (fun h => HG.out k hlt h hno.out)
          have HM : Hid (x.d.length + 8 - (4 + 8 * (k + 1) + 2) < x.d.length + 8 - (4 + 8 * k + 2)) := by unfold Hid; omega
          have HB : Hid (4 + 8 * k + 2 < 2000000) := by unfold Hid; omega
          have HNX : Hid (¬ 1 < num2 x.d (4 + 8 * k + 2) → ∀ j, j < k + 1 → ¬ 1 < num2 x.d (4 + 8 * j + 2)) := fun h j hj => by
            by_cases hjk : j = k
            · subst hjk; exact h
            · exact hno.out j (by omega)
          have HAT : Hid (4 + 8 * (k + 1) + 2 = 4 + 8 * k + 2 + 8) := by unfold Hid; omega
          generalize hat : 4 + 8 * k + 2 = at_ at *
          have hatl := HB.out
          generalize num2 x.d at_ = n at *
          clear hl hat
          go_wp2_with fail
          refine hN.mono ?_
          rintro e w1 ⟨rfl, b1⟩
          have hb1 := hbel.trans (b1.mono hbel.size)
          clear hN
          by_cases h1 : 1 < n
          · have q1 : (1 : Int) < (n : Int) := by omega
            have HRR := Lib.hid (HR.out h1)
            clear h1
            go_wp2_with fail
            try rw [Exit.noGoto_ret]
            go_ret
            exact ⟨by rw [HRR.out]; rfl, hb1⟩
          · have HN2 := Lib.hid (HNX.out h1)
            have q1 : ¬ (1 : Int) < (n : Int) := by omega
            clear h1 HNX HR
            go_wp2_with fail
            go_roundw
            case rel => exact ⟨k + 1, by omega, by rw [HAT.out]; go_num, HN2, hb1⟩
            case measure => simp [intOf]; omega
        · obtain rfl : k = G := by omega
          have hl := HL.out
          have e1 : ¬ ((4 + 8 * k + 2 : Nat) : Int) < (x.d.length : Int) := by omega
          have HRR := Lib.hid (HE.out hno.out)
          generalize 4 + 8 * k + 2 = at_ at *
          clear hl
          go_wp2_with fail
          try rw [Exit.noGoto_ret]
          go_ret
          exact ⟨by rw [HRR.out]; rfl, hbel⟩
    · rw [if_neg h2]
      have ht2 : ((x.t.toNat : Int) == 194) = false := by rw [beq_eq_false_iff_ne]; exact fun e => h2 (UInt8.toNat_inj.1 (by show x.t.toNat = 194; omega))
      clear h194 h2 ht
      go_enter Tryz.func118, Tryz.ntmps118
      go_wp2_with fail
      go_loopw [5] (fun i wr => i = .int .i64 6 ∧ Below w.heap.size w wr) (fun _ _ => 0)
      case atStart => exact ⟨rfl, Below.refl _ _⟩
      case round =>
        obtain ⟨rfl, hbel⟩ := hrel
        go_wp2_with fail
        try rw [Exit.noGoto_ret]
        go_ret
        exact ⟨rfl, hbel⟩
end Go.Proofs.YteknmgmdmjmnmaaGreatDoor


