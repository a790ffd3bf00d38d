/- Layer 15: the reference's Is, Of, Make, Has, Extensions, Cookie (written by tools/gen_init_h.py). They write nothing that was there. -/
import Derived.Test.YtdcppcoldaaldaaGreatDoorQIB
import Derived.Test.YtdcppcoldaaldaaGreatDoorQCR
import Derived.Test.YtdcppcoldaaldaaGreatDoorQCT
import Derived.Test.YtdcppcoldaaldaaGreatDoorQWireF
import Derived.Test.YtdcppcoldaaldaaGreatDoorQDT
import Derived.BigGuard
import Derived.Deep.QuietTactic
import Derived.BigQuiet
import Derived.Deep.Cut









namespace Go.Proofs.YtdcppcoldaaldaaGreatDoor
open Go.RowKit

set_option linter.unusedSimpArgs false
theorem ckEq_selfI (a : Ck) : ckEq a a = true := by
  unfold ckEq
  rw [beqL_true rfl]
  simp
theorem est4 (o i : UInt16) : Value.int .u32 (((o.toNat : Int) % 4294967296 * 65536 + (i.toNat : Int)) % 4294967296) = uv (u32of o.toNat * 65536 + u32of i.toNat) := by
  have h1 := o.toNat_lt
  have h2 := i.toNat_lt
  have e1 : (u32of o.toNat).toNat = o.toNat := u32of_toNat (by omega)
  have e2 : (u32of i.toNat).toNat = i.toNat := u32of_toNat (by omega)
  have e3 : (u32of o.toNat * 65536 + u32of i.toNat).toNat = o.toNat * 65536 + i.toNat := by
    rw [UInt32.toNat_add, UInt32.toNat_mul, e1, e2, show (65536 : UInt32).toNat = 65536 from rfl]
    omega
  rw [uv, e3]
  congr 1
  omega
theorem u32776 : (32776 : UInt16).toNat = 32776 := by kernel_rfl
theorem far5 (W : World) (g : Nat) (v0 v1 v2 v3 v4 : Value) (p : Addr) (hp : p.block ≠ g) : (((((W.setCell ⟨g, 0, none⟩ v0).setCell ⟨g, 1, none⟩ v1).setCell ⟨g, 2, none⟩ v2).setCell ⟨g, 3, none⟩ v3).setCell ⟨g, 4, none⟩ v4).cell? p = W.cell? p := by
  rw [World.cell?_setCell_other _ _ _ _ (fun e => hp (by rw [← e])), World.cell?_setCell_other _ _ _ _ (fun e => hp (by rw [← e])), World.cell?_setCell_other _ _ _ _ (fun e => hp (by rw [← e])), World.cell?_setCell_other _ _ _ _ (fun e => hp (by rw [← e])), World.cell?_setCell_other _ _ _ _ (fun e => hp (by rw [← e]))]
set_option maxRecDepth 100000 in
set_option maxHeartbeats 4000000 in
theorem rIs_any (x : Ck) (hf : CkFine x) (A : Option Addr) (c : Nat) (K : Option Addr) (k : Nat) (w : World) (h : Chunk w w.heap.size A c K k x) :
    Calls Tryz.prog 49 #[ckV x A c K k] w fun e w' => e = .returned (.bool (isI x)) ∧ Below w.heap.size w w' := by
  have b0 : Below w.heap.size w (w.alloc (.cells (ckCells x A c K k) 31)) := (Below.refl _ w).alloc (Nat.le_refl _) _
  have x0 := CkBox.new w x A c K k
  have HC := rcheck12 x hf A c K k _ (h.on b0)
  have HE : Hid (((x.t = 1 ∨ x.t = 2) ∧ chkC x = 0 ∧ isI x = true) ∨ ((x.t = 1 ∨ x.t = 2) ∧ chkC x ≠ 0 ∧ isI x = false) ∨ (x.t ≠ 1 ∧ x.t ≠ 2 ∧ isI x = false)) := by
    unfold Hid isI
    by_cases h1 : x.t = 1
    · by_cases hc : chkC x = 0
      · exact .inl ⟨.inl h1, hc, by simp [h1, hc]⟩
      · exact .inr (.inl ⟨.inl h1, hc, by simp [hc]⟩)
    · by_cases h2 : x.t = 2
      · by_cases hc : chkC x = 0
        · exact .inl ⟨.inr h2, hc, by simp [h2, hc]⟩
        · exact .inr (.inl ⟨.inr h2, hc, by simp [hc]⟩)
      · exact .inr (.inr ⟨h1, h2, by simp [h1, h2]⟩)
  obtain ⟨q0, q1, q2, q3⟩ := x0.cs
  have HB := Lib.hid b0
  have hz : w.heap.size ≤ (w.alloc (.cells (ckCells x A c K k) 31)).heap.size := by simp
  have HZ := Lib.hid hz
  clear h hf b0 hz x0
  generalize isI x = b at *
  generalize chkC x = cc at *
  obtain ⟨t, fl, d, ks⟩ := x
  simp only [ckV, ckCells] at *
  rcases HE.out with ⟨ht, rfl, rfl⟩ | ⟨ht, hc, rfl⟩ | ⟨h1, h2, rfl⟩
  · clear HE
    have e0 : (((0 : Nat) : Int) == 0) = true := rfl
    rcases ht with rfl | rfl
    all_goals
      go_enter Tryz.func49, Tryz.ntmps49
      go_wp2_with fail
      refine HC.mono ?_
      rintro e w2 ⟨rfl, b2⟩
      go_wp2_with fail
      go_ret
      exact ⟨rfl, HB.out.trans (b2.mono HZ.out)⟩
  · have e0 : ((cc : Int) == 0) = false := by rw [beq_eq_false_iff_ne]; omega
    clear hc HE
    rcases ht with rfl | rfl
    all_goals
      go_enter Tryz.func49, Tryz.ntmps49
      go_wp2_with fail
      refine HC.mono ?_
      rintro e w2 ⟨rfl, b2⟩
      go_wp2_with fail
      go_ret
      exact ⟨rfl, HB.out.trans (b2.mono HZ.out)⟩
  · have e1 : ((t.toNat : Int) == 1) = false := by rw [beq_eq_false_iff_ne]; intro e; exact h1 (UInt8.toNat_inj.1 (by have : (1 : UInt8).toNat = 1 := rfl; omega))
    have e2 : ((t.toNat : Int) == 2) = false := by rw [beq_eq_false_iff_ne]; intro e; exact h2 (UInt8.toNat_inj.1 (by have : (2 : UInt8).toNat = 2 := rfl; omega))
    clear h1 h2 HC HE
    go_enter Tryz.func49, Tryz.ntmps49
    go_wp2_with fail
    go_ret
    exact ⟨rfl, HB.out⟩
set_option maxRecDepth 100000 in
set_option maxHeartbeats 8000000 in
theorem rOf_any (t fl : UInt8) (d : List UInt8) (ks : List Nd) (hl : d.length = 16) (A : Option Addr) (c : Nat) (K : Option Addr) (k : Nat) (w : World) (h : Chunk w w.heap.size A c K k ⟨t, fl, d, ks⟩) :
    Calls Tryz.prog 50 #[.agg #[bv t, bv fl, .slice A d.length c, .slice K ks.length k]] w fun e w' => e = .returned (vlV (vlOf d)) ∧ Below w.heap.size w w' := by
  have b0 : Below w.heap.size w ((w.alloc (.cells #[bv t, bv fl, .slice A d.length c, .slice K ks.length k] 31)).alloc (.cells #[.int .u32 0, .int .u32 0, .int .u16 0, .int .u16 0, .int .u32 0] 77)) := ((Below.refl _ w).alloc (Nat.le_refl _) _).alloc (by simp) _
  have x0 := (Whole.new w 31 #[bv t, bv fl, .slice A d.length c, .slice K ks.length k]).alloc (.cells #[.int .u32 0, .int .u32 0, .int .u16 0, .int .u16 0, .int .u32 0] 77)
  have y0 := Whole.new (w.alloc (.cells #[bv t, bv fl, .slice A d.length c, .slice K ks.length k] 31)) 77 #[.int .u32 0, .int .u32 0, .int .u16 0, .int .u16 0, .int .u32 0]
  rw [World.size_alloc] at y0
  have hz : w.heap.size + 1 < ((w.alloc (.cells #[bv t, bv fl, .slice A d.length c, .slice K ks.length k] 31)).alloc (.cells #[.int .u32 0, .int .u32 0, .int .u16 0, .int .u16 0, .int .u32 0] 77)).heap.size := by simp
  have hN := rnumbers_any 4 rfl A c d _ (h.on b0).data (by omega) (by omega)
  have hR := vlOf_ref d hl
  have HB := Lib.hid b0
  obtain ⟨q0, q1, q2, q3⟩ := wh4 x0
  have hnm : nums 4 d = [numAt 4 d 0, numAt 4 d 1, numAt 4 d 2, numAt 4 d 3] := by unfold nums; rw [hl]; rfl
  rw [hnm, show d.length / 4 = 4 by omega] at hN
  rw [← hR]
  generalize numAt 4 d 0 = n0 at *
  generalize numAt 4 d 1 = n1 at *
  generalize numAt 4 d 2 = n2 at *
  generalize numAt 4 d 3 = n3 at *
  clear h b0 x0 hl hR hnm
  go_enter Tryz.func50, Tryz.ntmps50
  go_wp2_with fail
  refine hN.mono ?_
  rintro e w2 ⟨A2, c2, rfl, o2, b2⟩
  have y2 := y0.below b2 hz
  have B2 := HB.out.trans (b2.mono (Nat.le_of_lt (Nat.lt_of_succ_lt hz)))
  obtain ⟨ad, rfl, hadb, hcell⟩ := Lies.own o2 (by simp)
  have r0 : w2.cell? ad = some (uv n0) := hcell 0 _ rfl
  have r1 : w2.cell? ⟨ad.block, ad.off + 1, none⟩ = some (uv n1) := by have h9 := hcell 1 _ rfl; rwa [add_pos (by omega)] at h9
  have r2 : w2.cell? ⟨ad.block, ad.off + 2, none⟩ = some (uv n2) := by have h9 := hcell 2 _ rfl; rwa [add_pos (by omega)] at h9
  have r3 : w2.cell? ⟨ad.block, ad.off + 3, none⟩ = some (uv n3) := by have h9 := hcell 3 _ rfl; rwa [add_pos (by omega)] at h9
  have hnb : ad.block ≠ w.heap.size + 1 := fun e => whole_row_ne y2 (by decide) o2 (by simp [Value.ownBlock, e])
  clear q0 q1 q2 q3 y0 hN hcell o2
  go_upto_region 2 with fail
  have KS : Hid (∀ W : World, (∀ p : Addr, p.block ≠ w.heap.size + 1 → W.cell? p = w2.cell? p) → W.cell? ad = some (uv n0) ∧ W.cell? ⟨ad.block, ad.off + 1, none⟩ = some (uv n1) ∧ W.cell? ⟨ad.block, ad.off + 2, none⟩ = some (uv n2) ∧ W.cell? ⟨ad.block, ad.off + 3, none⟩ = some (uv n3)) := fun W hW => ⟨(hW _ hnb).trans r0, (hW ⟨ad.block, ad.off + 1, none⟩ hnb).trans r1, (hW ⟨ad.block, ad.off + 2, none⟩ hnb).trans r2, (hW ⟨ad.block, ad.off + 3, none⟩ hnb).trans r3⟩
  refine wp_region_held_drew (S := (fun W => W.cell? ad = some (uv n0) ∧ W.cell? ⟨ad.block, ad.off + 1, none⟩ = some (uv n1) ∧ W.cell? ⟨ad.block, ad.off + 2, none⟩ = some (uv n2) ∧ W.cell? ⟨ad.block, ad.off + 3, none⟩ = some (uv n3))) (by kernel_rfl) (KS.out _ (fun p _ => rfl)) (fun hHeld => ?_)
  refine take_at (i := 0) (v := ?_) (some 7) rfl (by kernel_rfl) (by kernel_rfl) (by kernel_rfl) (fun _ _ _ h => h) (by kernel_rfl) (Or.inl ⟨by kernel_rfl, ?_⟩) (by assumption) ?_
  rotate_left
  · (intro w hSw; (try dsimp only at hSw); go_simp <;> with_reducible rfl)
  simp only [Act.put, List.setIfInBounds_toArray, List.set_cons_zero, List.set_cons_succ]
  refine take_at (i := 1) (v := ?_) (some 8) rfl (by kernel_rfl) (by kernel_rfl) (by kernel_rfl) (fun _ _ _ h => h) (by kernel_rfl) (Or.inl ⟨by kernel_rfl, ?_⟩) (by assumption) ?_
  rotate_left
  · (intro w hSw; (try dsimp only at hSw); go_simp <;> with_reducible rfl)
  simp only [Act.put, List.setIfInBounds_toArray, List.set_cons_zero, List.set_cons_succ]
  refine take_at (i := 2) (v := ?_) (some 9) rfl (by kernel_rfl) (by kernel_rfl) (by kernel_rfl) (fun _ _ _ h => h) (by kernel_rfl) (Or.inl ⟨by kernel_rfl, ?_⟩) (by assumption) ?_
  rotate_left
  · (intro w hSw; (try dsimp only at hSw); go_simp <;> with_reducible rfl)
  simp only [Act.put, List.setIfInBounds_toArray, List.set_cons_zero, List.set_cons_succ]
  refine take_at (i := 3) (v := ?_) (some 10) rfl (by kernel_rfl) (by kernel_rfl) (by kernel_rfl) (fun _ _ _ h => h) (by kernel_rfl) (Or.inl ⟨by kernel_rfl, ?_⟩) (by assumption) ?_
  rotate_left
  · (intro w hSw; (try dsimp only at hSw); go_simp <;> with_reducible rfl)
  simp only [Act.put, List.setIfInBounds_toArray, List.set_cons_zero, List.set_cons_succ]
  refine take_at (i := 4) (v := ?_) (some 11) rfl (by kernel_rfl) (by kernel_rfl) (by kernel_rfl) (fun _ _ _ h => h) (by kernel_rfl) (Or.inl ⟨by kernel_rfl, ?_⟩) (by assumption) ?_
  rotate_left
  · (intro w hSw; (try dsimp only at hSw); go_simp <;> with_reducible rfl)
  simp only [Act.put, List.setIfInBounds_toArray, List.set_cons_zero, List.set_cons_succ]
  refine take_at (i := 5) (v := ?_) (some 12) rfl (by kernel_rfl) (by kernel_rfl) (by kernel_rfl) (fun _ _ _ h => h) (by kernel_rfl) (Or.inl ⟨by kernel_rfl, ?_⟩) (by assumption) ?_
  rotate_left
  · (intro w hSw; (try dsimp only at hSw); go_simp <;> with_reducible rfl)
  simp only [Act.put, List.setIfInBounds_toArray, List.set_cons_zero, List.set_cons_succ]
  refine take_at (i := 6) (v := ?_) (some 13) rfl (by kernel_rfl) (by kernel_rfl) (by kernel_rfl) (fun _ _ _ h => h) (by kernel_rfl) (Or.inl ⟨by kernel_rfl, ?_⟩) (by assumption) ?_
  rotate_left
  · (intro w hSw; (try dsimp only at hSw); go_simp <;> with_reducible rfl)
  simp only [Act.put, List.setIfInBounds_toArray, List.set_cons_zero, List.set_cons_succ]
  refine take_at (i := 7) (v := ?_) (some 14) rfl (by kernel_rfl) (by kernel_rfl) (by kernel_rfl) (fun _ _ _ h => h) (by kernel_rfl) (Or.inl ⟨by kernel_rfl, ?_⟩) (by assumption) ?_
  rotate_left
  · (intro w hSw; (try dsimp only at hSw); go_simp <;> with_reducible rfl)
  simp only [Act.put, List.setIfInBounds_toArray, List.set_cons_zero, List.set_cons_succ]
  refine take_at (i := 8) (v := ?_) (some 15) rfl (by kernel_rfl) (by kernel_rfl) (by kernel_rfl) (fun _ _ _ h => h) (by kernel_rfl) (Or.inl ⟨by kernel_rfl, ?_⟩) (by assumption) ?_
  rotate_left
  · (intro w hSw; (try dsimp only at hSw); go_simp <;> with_reducible rfl)
  simp only [Act.put, List.setIfInBounds_toArray, List.set_cons_zero, List.set_cons_succ]
  refine take_at (i := 9) (v := ?_) (some 16) rfl (by kernel_rfl) (by kernel_rfl) (by kernel_rfl) (fun _ _ _ h => h) (by kernel_rfl) (Or.inl ⟨by kernel_rfl, ?_⟩) (by assumption) ?_
  rotate_left
  · (intro w hSw; (try dsimp only at hSw); go_simp <;> with_reducible rfl)
  simp only [Act.put, List.setIfInBounds_toArray, List.set_cons_zero, List.set_cons_succ]
  refine take_at (i := 10) (v := ?_) (some 17) rfl (by kernel_rfl) (by kernel_rfl) (by kernel_rfl) (fun _ _ _ h => h) (by kernel_rfl) (Or.inl ⟨by kernel_rfl, ?_⟩) (by assumption) ?_
  rotate_left
  · (intro w hSw; (try dsimp only at hSw); go_simp <;> with_reducible rfl)
  simp only [Act.put, List.setIfInBounds_toArray, List.set_cons_zero, List.set_cons_succ]
  refine take_at (i := 11) (v := ?_) (some 18) rfl (by kernel_rfl) (by kernel_rfl) (by kernel_rfl) (fun _ _ _ h => h) (by kernel_rfl) (Or.inl ⟨by kernel_rfl, ?_⟩) (by assumption) ?_
  rotate_left
  · (intro w hSw; (try dsimp only at hSw); go_simp <;> with_reducible rfl)
  simp only [Act.put, List.setIfInBounds_toArray, List.set_cons_zero, List.set_cons_succ]
  refine take_at (i := 12) (v := ?_) (some 19) rfl (by kernel_rfl) (by kernel_rfl) (by kernel_rfl) (fun _ _ _ h => h) (by kernel_rfl) (Or.inl ⟨by kernel_rfl, ?_⟩) (by assumption) ?_
  rotate_left
  · (intro w hSw; (try dsimp only at hSw); go_simp <;> with_reducible rfl)
  simp only [Act.put, List.setIfInBounds_toArray, List.set_cons_zero, List.set_cons_succ]
  refine take_at (i := 13) (v := ?_) (some 20) rfl (by kernel_rfl) (by kernel_rfl) (by kernel_rfl) (fun _ _ _ h => h) (by kernel_rfl) (Or.inl ⟨by kernel_rfl, ?_⟩) (by assumption) ?_
  rotate_left
  · (intro w hSw; (try dsimp only at hSw); go_simp <;> with_reducible rfl)
  simp only [Act.put, List.setIfInBounds_toArray, List.set_cons_zero, List.set_cons_succ]
  refine take_at (i := 14) (v := ?_) (some 21) rfl (by kernel_rfl) (by kernel_rfl) (by kernel_rfl) (fun _ _ _ h => h) (by kernel_rfl) (Or.inl ⟨by kernel_rfl, ?_⟩) (by assumption) ?_
  rotate_left
  · (intro w hSw; (try dsimp only at hSw); go_simp <;> with_reducible rfl)
  simp only [Act.put, List.setIfInBounds_toArray, List.set_cons_zero, List.set_cons_succ]
  refine take_at (i := 15) (v := ?_) (some 22) rfl (by kernel_rfl) (by kernel_rfl) (by kernel_rfl) (fun _ _ _ h => h) (by kernel_rfl) (Or.inl ⟨by kernel_rfl, ?_⟩) (by assumption) ?_
  rotate_left
  · (intro w hSw; (try dsimp only at hSw); go_simp <;> with_reducible rfl)
  simp only [Act.put, List.setIfInBounds_toArray, List.set_cons_zero, List.set_cons_succ]
  refine take_at (i := 16) (v := ?_) (some 23) rfl (by kernel_rfl) (by kernel_rfl) (by kernel_rfl) (fun _ _ _ h => h) (by kernel_rfl) (Or.inl ⟨by kernel_rfl, ?_⟩) (by assumption) ?_
  rotate_left
  · (intro w hSw; (try dsimp only at hSw); go_simp <;> with_reducible rfl)
  simp only [Act.put, List.setIfInBounds_toArray, List.set_cons_zero, List.set_cons_succ]
  refine take_at (i := 17) (v := ?_) (some 24) rfl (by kernel_rfl) (by kernel_rfl) (by kernel_rfl) (fun _ _ _ h => h) (by kernel_rfl) (Or.inl ⟨by kernel_rfl, ?_⟩) (by assumption) ?_
  rotate_left
  · (intro w hSw; (try dsimp only at hSw); go_simp <;> with_reducible rfl)
  simp only [Act.put, List.setIfInBounds_toArray, List.set_cons_zero, List.set_cons_succ]
  refine take_at (i := 18) (v := ?_) (some 25) rfl (by kernel_rfl) (by kernel_rfl) (by kernel_rfl) (fun _ _ _ h => h) (by kernel_rfl) (Or.inl ⟨by kernel_rfl, ?_⟩) (by assumption) ?_
  rotate_left
  · (intro w hSw; (try dsimp only at hSw); go_simp <;> with_reducible rfl)
  simp only [Act.put, List.setIfInBounds_toArray, List.set_cons_zero, List.set_cons_succ]
  refine take_at (i := 19) (v := ?_) (some 26) rfl (by kernel_rfl) (by kernel_rfl) (by kernel_rfl) (fun _ _ _ h => h) (by kernel_rfl) (Or.inl ⟨by kernel_rfl, ?_⟩) (by assumption) ?_
  rotate_left
  · (intro w hSw; (try dsimp only at hSw); go_simp <;> with_reducible rfl)
  simp only [Act.put, List.setIfInBounds_toArray, List.set_cons_zero, List.set_cons_succ]
  refine wpAnyH_ready (rs := [20]) (by kernel_rfl) (by simp) ?_
  refine AllReadyH.cons rfl (fun K hK => ?_) AllReadyH.nil
  generalize hwd : w2.drew = w3
  have y3 : Whole w3 (w.heap.size + 1) 77 #[.int .u32 0, .int .u32 0, .int .u16 0, .int .u16 0, .int .u32 0] := by rw [← hwd]; exact y2
  have hcd : Hid (∀ p : Addr, w3.cell? p = w2.cell? p) := Lib.hid (fun p => by rw [← hwd]; rfl)
  have B3 : Below w.heap.size w w3 := by rw [← hwd]; exact below_drew B2
  obtain ⟨e0, e1, e2, e3, e4⟩ := y3.cs5
  have f0 := y3.frozen 0
  have f1 := y3.frozen 1
  have f2 := y3.frozen 2
  have f3 := y3.frozen 3
  have f4 := y3.frozen 4
  clear hwd
  go_simp
  clear hHeld
  refine hK.out _ _ (KS.out _ (fun p hp => (far5 _ _ _ _ _ _ _ p hp).trans (hcd.out p))) (fun hHeld => ?_)
  clear hK K
  try simp only [Act.put, List.setIfInBounds_toArray, List.set_cons_zero, List.set_cons_succ]
  refine wpAnyH_done (by kernel_rfl) ?_ _
  skip
  go_wp2_with fail
  (try simp only [Exit.inBlock, Exit.then])
  have g1 : Value.int .u16 (IntKind.u16.wrap (IntKind.u32.wrap ((n2.toNat : Int) / 65536))) = hv (UInt16.ofNat (n2.toNat / 65536)) := by
    have := n2.toNat_lt
    rw [hv, UInt16.toNat_ofNat', IntKind.wrap_u16, IntKind.wrap_u32]
    congr 1
    omega
  have g2 : Value.int .u16 (IntKind.u16.wrap (((n2.toNat : Int)).tmod 65536)) = hv (UInt16.ofNat (n2.toNat % 65536)) := by
    have := n2.toNat_lt
    rw [hv, UInt16.toNat_ofNat', IntKind.wrap_u16, Int.tmod_eq_emod_of_nonneg (by omega)]
    congr 1
  have y4 := ((((y3.set_ 0 (uv n0)).set_ 1 (uv n1)).set_ 2 (.int .u16 (IntKind.u16.wrap (IntKind.u32.wrap ((n2.toNat : Int) / 65536))))).set_ 3 (.int .u16 (IntKind.u16.wrap (((n2.toNat : Int)).tmod 65536)))).set_ 4 (uv n3)
  refine bodyPost_ret (results_row13 rfl _ _ (w.heap.size + 1) 77 _ _ rfl y4 Tryz.underlying77 rfl (by kernel_rfl)) rfl ?_
  refine ⟨?_, ((((B3.setCell (p := ⟨w.heap.size + 1, 0, none⟩) (Nat.le_succ _) _).setCell (p := ⟨w.heap.size + 1, 1, none⟩) (Nat.le_succ _) _).setCell (p := ⟨w.heap.size + 1, 2, none⟩) (Nat.le_succ _) _).setCell (p := ⟨w.heap.size + 1, 3, none⟩) (Nat.le_succ _) _).setCell (p := ⟨w.heap.size + 1, 4, none⟩) (Nat.le_succ _) _⟩
  show Ending.returned (.agg #[uv n0, uv n1, .int .u16 (IntKind.u16.wrap (IntKind.u32.wrap ((n2.toNat : Int) / 65536))), .int .u16 (IntKind.u16.wrap (((n2.toNat : Int)).tmod 65536)), uv n3]) = _
  rw [g1, g2]
theorem fil_nil_of {ks : List Nd} {t : UInt16} (h : ∀ n ∈ ks, n.t ≠ t) : fil ks t = [] := by
  unfold fil
  rw [List.filter_eq_nil_iff]
  intro n hn
  simpa using h n hn
theorem fil_mem {ks : List Nd} {t : UInt16} {n : Nd} (h : n ∈ ks) (ht : n.t = t) : 0 < (fil ks t).length := by
  refine List.length_pos_iff.2 fun e => ?_
  have : n ∈ fil ks t := List.mem_filter.2 ⟨h, by simpa using ht⟩
  rw [e] at this
  cases this
set_option maxRecDepth 100000 in
set_option maxHeartbeats 8000000 in
theorem rHas_any (x : Ck) (ty : UInt16) (hf : CkFine x) (A : Option Addr) (c : Nat) (K : Option Addr) (k : Nat) (w : World) (h : Chunk w w.heap.size A c K k x) :
    Calls Tryz.prog 56 #[ckV x A c K k, hv ty] w fun e w' => e = .returned (.bool (decide (0 < (fndI x ty).length))) ∧ Below w.heap.size w w' := by
  have b0 : Below w.heap.size w (w.alloc (.cells (ckCells x A c K k) 31)) := (Below.refl _ w).alloc (Nat.le_refl _) _
  have x0 := CkBox.new w x A c K k
  have hI : Hid (∀ V, Below w.heap.size w V → Calls Tryz.prog 49 #[ckV x A c K k] V fun e w' => e = .returned (.bool (isI x)) ∧ Below V.heap.size V w') := Lib.hid (fun V hV => rIs_any x hf A c K k V (h.on hV))
  have hks := hf.ks
  have HK := Lib.hid h.kids
  have HY : Hid (∀ n ∈ x.ks, n.t = ty → decide (0 < (fndI x ty).length) = isI x) := Lib.hid (fun n hn ht => by
    unfold fndI
    cases isI x with
    | false => rfl
    | true => rw [if_pos rfl]; exact decide_eq_true (fil_mem hn ht))
  have HN : Hid ((∀ n ∈ x.ks, n.t ≠ ty) → decide (0 < (fndI x ty).length) = false) := Lib.hid (fun hn => by
    unfold fndI
    cases isI x with
    | false => rfl
    | true => rw [if_pos rfl]; have := fil_nil_of hn; unfold fil at this; rw [this]; rfl)
  have HB := Lib.hid b0
  clear hf h b0
  generalize decide (0 < (fndI x ty).length) = bb at *
  generalize isI x = ib at *
  obtain ⟨t, fl, d, ks⟩ := x
  simp only [ckV, ckCells] at *
  have hz : w.heap.size < (w.alloc (.cells #[bv t, bv fl, .slice A d.length c, .slice K ks.length k] 31)).heap.size := by simp
  obtain ⟨q0, q1, q2, q3⟩ := wh4 x0
  go_enter Tryz.func56, Tryz.ntmps56
  go_upto_region 1 with fail
  generalize w.alloc (.cells #[bv t, bv fl, .slice A d.length c, .slice K ks.length k] 31) = wa at *
  go_upto_region 2 with fail
  go_loopw [5] (fun i wr => ∃ j : Nat, j ≤ ks.length ∧ i = .int .i64 (j : Int) ∧ wr = wa ∧ ∀ n ∈ ks.take j, n.t ≠ ty) (fun i _ => ks.length - (intOf i).toNat)
  case atStart => exact ⟨0, Nat.zero_le _, rfl, rfl, fun n hn => by simp at hn⟩
  case round =>
    obtain ⟨j, hj, rfl, rfl, hno⟩ := hrel
    by_cases hlt : j < ks.length
    · obtain ⟨ad, A', c', K', k', n, rfl, hadb, hn', hc0, hc1, hc2, hN9⟩ := (HK.out.bel HB.out).at_ hlt
      have hi1 : (j : Int) < (ks.length : Int) := by omega
      have HNO := Lib.hid hno
      have hmem := Lib.hid (List.mem_of_getElem? hn'.out)
      clear hN9 hno
      by_cases ht : n.t = ty
      · have hte : ((n.t.toNat : Int) == (ty.toNat : Int)) = true := by rw [ht]; exact beq_self_eq_true _
        have HR := Lib.hid (HY.out n hmem.out ht)
        have hC := hI.out wr HB.out
        clear ht hn'
        go_wp2_with fail
        refine hC.mono ?_
        rintro e w2 ⟨rfl, b2⟩
        go_wp2_with fail
        go_ret
        exact ⟨by rw [HR.out]; rfl, HB.out.trans (b2.mono (Nat.le_of_lt hz))⟩
      · have hte : ((n.t.toNat : Int) == (ty.toNat : Int)) = false := by rw [beq_eq_false_iff_ne]; intro e; exact ht (UInt16.toNat_inj.1 (by omega))
        have HT := Lib.hid ht
        clear ht
        go_wp2_with fail
        go_roundw
        case rel => exact ⟨j + 1, by omega, by go_num, trivial, fun m hm => by
          rw [take_some hn'.out] at hm
          rcases List.mem_append.1 hm with h | h
          · exact HNO.out m h
          · rw [List.mem_singleton.1 h]; exact HT.out⟩
        case measure => simp [intOf]; omega
    · obtain rfl : j = ks.length := by omega
      have hi1 : ¬ (ks.length : Int) < (ks.length : Int) := by omega
      rw [List.take_length] at hno
      have HR := Lib.hid (HN.out hno)
      clear hno
      go_wp2_with fail
      go_ret
      exact ⟨by rw [HR.out]; rfl, HB.out⟩
set_option maxRecDepth 100000 in
set_option maxHeartbeats 8000000 in
theorem rExt_any (x : Ck) (hf : CkFine x) (A : Option Addr) (c : Nat) (K : Option Addr) (k : Nat) (w : World) (h : Chunk w w.heap.size A c K k x) :
    Calls Tryz.prog 58 #[ckV x A c K k] w fun e w' => ∃ A' c', e = .returned (.slice A' (extL x).length c') ∧ w'.ownsRow w.heap.size 5 1 (.slice A' (extL x).length c') (extL x).length ((extL x).map bv) ∧ Below w.heap.size w w' := by
  have b0 : Below w.heap.size w (w.alloc (.cells (ckCells x A c K k) 31)) := (Below.refl _ w).alloc (Nat.le_refl _) _
  have x0 := CkBox.new w x A c K k
  have hI : Hid (∀ V, Below w.heap.size w V → Calls Tryz.prog 49 #[ckV x A c K k] V fun e w' => e = .returned (.bool (isI x)) ∧ Below V.heap.size V w') := Lib.hid (fun V hV => rIs_any x hf A c K k V (h.on hV))
  have hks := hf.ks
  have HK := Lib.hid h.kids
  have HSm : Hid (∀ n ∈ x.ks, n.v.length ≤ 800000) := Lib.hid (fun n hn => by
    have h3 := (hf.each n hn).vl
    rw [Nd.vlen_eq] at h3
    omega)
  have HT : Hid (isI x = true → extL x = ((fil x.ks 32776).map Nd.v).flatten) := Lib.hid (fun e => by unfold extL fndI; rw [if_pos e])
  have HF : Hid (isI x = false → extL x = []) := Lib.hid (fun e => by unfold extL fndI; rw [e]; rfl)
  have HZn : Hid (x.ks = [] → extL x = []) := Lib.hid (fun e => by unfold extL fndI; rw [e]; cases isI x <;> rfl)
  have HB := Lib.hid b0
  clear hf h b0
  generalize extL x = E at *
  generalize isI x = ib at *
  obtain ⟨t, fl, d, ks⟩ := x
  simp only [ckV, ckCells] at *
  have hz : w.heap.size < (w.alloc (.cells #[bv t, bv fl, .slice A d.length c, .slice K ks.length k] 31)).heap.size := by simp
  go_enter Tryz.func58, Tryz.ntmps58
  go_upto_region 1 with fail
  generalize w.alloc (.cells #[bv t, bv fl, .slice A d.length c, .slice K ks.length k] 31) = wa at *
  go_upto_region 3 with fail
  go_loopw [3, 4] (fun l i wr => ∃ (j : Nat) (Al : Option Addr) (cl : Nat), j ≤ ks.length ∧ i = .int .i64 (j : Int) ∧ l = .slice Al ((fil (ks.take j) 32776).map Nd.v).flatten.length cl ∧ wr.ownsRow wa.heap.size 5 1 (.slice Al ((fil (ks.take j) 32776).map Nd.v).flatten.length cl) ((fil (ks.take j) 32776).map Nd.v).flatten.length (((fil (ks.take j) 32776).map Nd.v).flatten.map bv) ∧ ((fil (ks.take j) 32776).map Nd.v).flatten.length ≤ j * 800000 ∧ (j = 0 ∨ ib = true) ∧ Below wa.heap.size wa wr) (fun _ i _ => ks.length - (intOf i).toNat)
  case atStart => exact ⟨0, none, 0, Nat.zero_le _, rfl, rfl, World.ownsRow_nil _ _ _ _, by simp, .inl rfl, Below.refl _ _⟩
  case round =>
    obtain ⟨j, Al, cl, hj, rfl, rfl, hown, hsm, hib, hbel⟩ := hrel
    have x1 := Whole.below x0 hbel hz
    obtain ⟨q0, q1, q2, q3⟩ := wh4 x1
    have hBr := HB.out.trans (hbel.mono (Nat.le_of_lt hz))
    by_cases hlt : j < ks.length
    · obtain ⟨ad, A', c', K', k', n, rfl, hadb, hn', hc0, hc1, hc2, hN9⟩ := (HK.out.bel hBr).at_ hlt
      have hi1 : (j : Int) < (ks.length : Int) := by omega
      have hC := hI.out wr hBr
      have hmem := List.mem_of_getElem? hn'.out
      have hvs := HSm.out n hmem
      have HFT := Lib.hid (fil_take (t := 32776) hn'.out)
      generalize hL : fil (ks.take j) 32776 = L at *
      have HO := Lib.hid hown
      have HIb := Lib.hid hib
      have HBr := Lib.hid hBr
      have hdat := hN9.data
      have HLL := Lib.hid hL
      clear hL hown hib hBr hmem hN9
      generalize hLE : (L.map Nd.v).flatten = F at *
      have HLE := Lib.hid hLE
      clear hLE
      cases ib with
      | false =>
        go_wp2_with fail
        refine hC.mono ?_
        rintro e w2 ⟨rfl, b2⟩
        go_wp2_with fail
        go_ret
        rcases HIb.out with h0 | h0
        · have e1 := HF.out trivial
          subst h0
          have hF0 : F = [] := by rw [← HLE.out, ← HLL.out]; rfl
          subst hF0
          subst e1
          exact ⟨Al, cl, rfl, own_base (own_below' HO.out b2) (Nat.le_of_lt hz), HBr.out.trans (b2.mono HBr.out.size)⟩
        · cases h0
      | true =>
        go_wp2_with fail
        refine hC.mono ?_
        rintro e w2 ⟨rfl, b2⟩
        have x2 := x1.below b2 x1.lt
        have o2 := own_below' HO.out b2
        have hB2 := HBr.out.trans (b2.mono HBr.out.size)
        have hb2 := hbel.trans (b2.mono hbel.size)
        clear q0 q1 q2 q3 hc0 hc1 hc2 hC x1
        obtain ⟨q0, q1, q2, q3⟩ := wh4 x2
        obtain ⟨ad', A2, c2, K2, k2, n2, ea, hadb', hn2, hc0, hc1, hc2, hN2⟩ := (HK.out.bel hB2).at_ hlt
        cases ea
        obtain rfl : n2 = n := by have e := hn2.out; rw [hn'.out] at e; exact (Option.some.inj e).symm
        have HN := Lib.hid hn'
        clear hn' hn2 x2
        by_cases ht : n2.t = 32776
        · have hte : ((n2.t.toNat : Int) == 32776) = true := by rw [ht, u32776]; rfl
          rw [if_pos ht] at HFT
          have HT2 := Lib.hid ht
          clear ht
          have hdd := hN2.data
          have hcc := hN2.dc
          have hmm := hN2.dm
          clear hdat hN2
          have hj1 : j ≤ 1000 := by omega
          have hF1 : F.length ≤ 800000000 := by omega
          go_wp2_with (at_builtin; refine wpList_append_lies _ rfl (.tmp 23) (.tmp 29) 24 rfl wa.heap.size 5 _ 1 Tryz.underlying24 u8info rfl _ _ _ rfl o2 _ _ n2.v.length c2 (n2.v.map bv) rfl (by simp) hdd (by intro u hu; obtain ⟨_, _, rfl⟩ := List.mem_map.1 hu; rfl) (by omega) (by unfold maxLen; omega) hb2.size ?_; intro A4 c4 w4 hown4 hgrow4 _)
          have B4 := below_own hb2 o2 hgrow4 (Nat.le_refl _) hb2.size
          have H4 := Lib.hid hown4
          clear hown4 hgrow4 o2
          go_wp2_with fail
          go_roundw
          case rel =>
            have hE : ((fil (ks.take (j + 1)) 32776).map Nd.v).flatten = F ++ n2.v := by rw [HFT.out, List.map_append, List.flatten_append, HLE.out]; simp
            refine ⟨j + 1, A4, c4, by omega, by go_num, ?_, ?_, ?_, .inr trivial, B4⟩
            · rw [hE, List.length_append]
            · rw [hE, List.length_append, List.map_append]; exact H4.out
            · rw [hE, List.length_append, Nat.succ_mul]; omega
          case measure => simp [intOf]; omega
        · have hte : ((n2.t.toNat : Int) == 32776) = false := by rw [beq_eq_false_iff_ne]; intro e; exact ht (UInt16.toNat_inj.1 (by rw [u32776]; omega))
          rw [if_neg ht, List.append_nil] at HFT
          clear ht
          go_wp2_with fail
          go_roundw
          case rel => exact ⟨j + 1, Al, cl, by omega, by go_num, by rw [HFT.out, HLE.out], by rw [HFT.out, HLE.out]; exact o2, by rw [HFT.out, HLE.out, Nat.succ_mul]; exact Nat.le_trans hsm (Nat.le_add_right _ _), .inr trivial, hb2⟩
          case measure => simp [intOf]; omega
    · obtain rfl : j = ks.length := by omega
      have hi1 : ¬ (ks.length : Int) < (ks.length : Int) := by omega
      rw [List.take_length] at hown ⊢
      have HO := Lib.hid hown
      have HIb := Lib.hid hib
      have HBr := Lib.hid hBr
      clear hown hib hBr hsm
      generalize hF : ((fil ks 32776).map Nd.v).flatten = F at *
      have HFF := Lib.hid hF
      clear hF
      go_wp2_with fail
      go_ret
      have hE : E = F := by
        rcases HIb.out with h0 | h0
        · have h1 := List.eq_nil_of_length_eq_zero h0
          rw [HZn.out h1, ← HFF.out, h1]
          rfl
        · exact HT.out h0
      subst hE
      exact ⟨Al, cl, rfl, own_base HO.out (Nat.le_of_lt hz), HBr.out⟩
theorem fil_first {ks : List Nd} {t : UInt16} {j : Nat} {n : Nd} (h : ∀ m ∈ ks.take j, m.t ≠ t) (hn : ks[j]? = some n) (ht : n.t = t) : ∃ L, fil ks t = n :: L := by
  have hlt := (List.getElem?_eq_some_iff.1 hn).1
  have e : ks = ks.take j ++ n :: ks.drop (j + 1) := by
    have h1 := List.take_append_drop j ks
    rw [List.drop_eq_getElem_cons hlt] at h1
    rw [List.getElem?_eq_getElem hlt] at hn
    rw [Option.some.inj hn] at h1
    exact h1.symm
  refine ⟨fil (ks.drop (j + 1)) t, ?_⟩
  have h2 : fil (ks.take j) t = [] := fil_nil_of h
  unfold fil at h2 ⊢
  have e2 : List.filter (fun n => decide (n.t = t)) ks = List.filter (fun n => decide (n.t = t)) (ks.take j) ++ List.filter (fun n => decide (n.t = t)) (n :: ks.drop (j + 1)) := by rw [← List.filter_append, ← e]
  rw [e2, h2, List.nil_append, List.filter_cons_of_pos (by simpa using ht)]
set_option maxRecDepth 100000 in
set_option maxHeartbeats 8000000 in
theorem rCookie_any (x : Ck) (hf : CkFine x) (A : Option Addr) (c : Nat) (K : Option Addr) (k : Nat) (w : World) (h : Chunk w w.heap.size A c K k x) :
    Calls Tryz.prog 52 #[ckV x A c K k] w fun e w' => ∃ A' c', e = .returned (.tuple #[.slice A' (ckyL x).length c', .bool (ckyB x)]) ∧ Lies w' w.heap.size A' ((ckyL x).map bv) ∧ (ckyL x).length ≤ c' ∧ c' ≤ maxLen ∧ Below w.heap.size w w' := by
  have b0 : Below w.heap.size w (w.alloc (.cells (ckCells x A c K k) 31)) := (Below.refl _ w).alloc (Nat.le_refl _) _
  have x0 := CkBox.new w x A c K k
  have hI : Hid (∀ V, Below w.heap.size w V → Calls Tryz.prog 49 #[ckV x A c K k] V fun e w' => e = .returned (.bool (isI x)) ∧ Below V.heap.size V w') := Lib.hid (fun V hV => rIs_any x hf A c K k V (h.on hV))
  have hks := hf.ks
  have HK := Lib.hid h.kids
  have HN0 : Hid (ckyB x = false → ckyL x = []) := Lib.hid (fun h => by unfold ckyL; rw [h]; rfl)
  have HB1 : Hid (x.t ≠ 2 → ckyB x = false) := Lib.hid (fun h => by unfold ckyB; rw [decide_eq_false h]; rfl)
  have HB2 : Hid (isI x = false → ckyB x = false) := Lib.hid (fun h => by unfold ckyB fndI; rw [h]; simp)
  have HB3 : Hid (fil x.ks 7 = [] → ckyB x = false) := Lib.hid (fun h => by unfold ckyB fndI; unfold fil at h; rw [h]; simp)
  have HB4 : Hid (∀ n L, x.t = 2 → isI x = true → fil x.ks 7 = n :: L → ckyB x = true ∧ ckyL x = n.v) := Lib.hid (fun n L h1 h2 h3 => by
    have e0 : fndI x 7 = n :: L := by unfold fndI; rw [if_pos h2]; exact h3
    have e : ckyB x = true := by unfold ckyB; rw [h1, e0]; rfl
    exact ⟨e, by unfold ckyL; rw [e, e0]; rfl⟩)
  have HB := Lib.hid b0
  clear hf h b0
  generalize ckyB x = bb at *
  generalize ckyL x = ll at *
  generalize isI x = ib at *
  obtain ⟨t, fl, d, ks⟩ := x
  simp only [ckV, ckCells] at *
  have hz : w.heap.size < (w.alloc (.cells #[bv t, bv fl, .slice A d.length c, .slice K ks.length k] 31)).heap.size := by simp
  generalize hwa : w.alloc (.cells #[bv t, bv fl, .slice A d.length c, .slice K ks.length k] 31) = wa at *
  have HW := Lib.hid hwa
  clear hwa
  by_cases ht : t = 2
  · subst ht
    cases ib with
    | false =>
      have e1 := HB2.out rfl
      have e2 := HN0.out e1
      subst e1
      subst e2
      have hC := hI.out wa HB.out
      obtain ⟨q0, q1, q2, q3⟩ := wh4 x0
      clear HN0 HB1 HB2 HB3 HB4
      go_enter Tryz.func52, Tryz.ntmps52
      go_upto_region 1 with fail
      rw [HW.out]
      go_wp2_with fail
      refine hC.mono ?_
      rintro e w2 ⟨rfl, b2⟩
      go_wp2_with fail
      go_ret2
      first | exact ⟨none, 0, rfl, Lies.nil, Nat.le_refl _, Nat.zero_le _, HB.out.trans (b2.mono (Nat.le_of_lt hz))⟩ | exact ⟨none, 0, rfl, Lies.nil, Nat.zero_le _, HB.out.trans (b2.mono (Nat.le_of_lt hz))⟩
    | true =>
      have hC := hI.out wa HB.out
      have HY : Hid (∀ n L, fil ks 7 = n :: L → bb = true ∧ ll = n.v) := Lib.hid (fun n L h3 => HB4.out n L rfl rfl h3)
      obtain ⟨q0, q1, q2, q3⟩ := wh4 x0
      clear HB1 HB2 HB4 hI
      go_enter Tryz.func52, Tryz.ntmps52
      go_upto_region 1 with fail
      rw [HW.out]
      go_wp2_with fail
      refine hC.mono ?_
      rintro e w2 ⟨rfl, b2⟩
      have x2 := Whole.below x0 b2 hz
      have HB2' := Lib.hid (HB.out.trans (b2.mono (Nat.le_of_lt hz)))
      clear q0 q1 q2 q3 x0 hC b2 HB HW
      obtain ⟨q0, q1, q2, q3⟩ := wh4 x2
      go_upto_region 4 with fail
      go_loopw [4] (fun i wr => ∃ j : Nat, j ≤ ks.length ∧ i = .int .i64 (j : Int) ∧ wr = w2 ∧ ∀ n ∈ ks.take j, n.t ≠ 7) (fun i _ => ks.length - (intOf i).toNat)
      case atStart => exact ⟨0, Nat.zero_le _, rfl, rfl, fun n hn => by simp at hn⟩
      case round =>
        obtain ⟨j, hj, rfl, rfl, hno⟩ := hrel
        by_cases hlt : j < ks.length
        · obtain ⟨ad, A', c', K', k', n, rfl, hadb, hn', hc0, hc1, hc2, hN9⟩ := (HK.out.bel HB2'.out).at_ hlt
          have hi1 : (j : Int) < (ks.length : Int) := by omega
          have HNO := Lib.hid hno
          have HN9 := Lib.hid hN9
          clear hN9 hno
          by_cases ht : n.t = 7
          · have hte : ((n.t.toNat : Int) == 7) = true := by rw [ht]; rfl
            obtain ⟨L, hL⟩ := fil_first HNO.out hn'.out ht
            obtain ⟨e1, e2⟩ := HY.out n L hL
            clear ht hn' hL
            go_wp2_with fail
            go_ret2
            rw [e1, e2]
            exact ⟨A', c', rfl, HN9.out.data, HN9.out.dc, HN9.out.dm, HB2'.out⟩
          · have hte : ((n.t.toNat : Int) == 7) = false := by rw [beq_eq_false_iff_ne]; intro e; exact ht (UInt16.toNat_inj.1 (by have : (7 : UInt16).toNat = 7 := rfl; omega))
            have HT := Lib.hid ht
            clear ht
            go_wp2_with fail
            go_roundw
            case rel => exact ⟨j + 1, by omega, by go_num, trivial, fun m hm => by
              rw [take_some hn'.out] at hm
              rcases List.mem_append.1 hm with h | h
              · exact HNO.out m h
              · rw [List.mem_singleton.1 h]; exact HT.out⟩
            case measure => simp [intOf]; omega
        · obtain rfl : j = ks.length := by omega
          have hi1 : ¬ (ks.length : Int) < (ks.length : Int) := by omega
          rw [List.take_length] at hno
          have e1 := HB3.out (fil_nil_of hno)
          have e2 := HN0.out e1
          subst e1
          subst e2
          clear hno
          go_wp2_with fail
          go_ret2
          first | exact ⟨none, 0, rfl, Lies.nil, Nat.le_refl _, Nat.zero_le _, HB2'.out⟩ | exact ⟨none, 0, rfl, Lies.nil, Nat.zero_le _, HB2'.out⟩
  · have e1 := HB1.out ht
    have e2 := HN0.out e1
    subst e1
    subst e2
    have e3 : ((t.toNat : Int) != 2) = true := u8_ne (n := 2) (by decide) ht
    obtain ⟨q0, q1, q2, q3⟩ := wh4 x0
    clear HN0 HB1 HB2 HB3 HB4 ht hI
    go_enter Tryz.func52, Tryz.ntmps52
    go_upto_region 1 with fail
    rw [HW.out]
    go_wp2_with fail
    go_ret2
    first | exact ⟨none, 0, rfl, Lies.nil, Nat.le_refl _, Nat.zero_le _, HB.out⟩ | exact ⟨none, 0, rfl, Lies.nil, Nat.zero_le _, HB.out⟩
set_option maxRecDepth 100000 in
set_option maxHeartbeats 8000000 in
theorem rMake_false (v : Vl) (ks : List Nd) (K : Option Addr) (k : Nat) (w : World) (hK : Nodes w w.heap.size K ks) (hkc : ks.length ≤ k) (hkm : k ≤ maxLen) :
    Calls Tryz.prog 46 #[.bool false, vlV v, .slice K ks.length k] w fun e w' => ∃ A' c', e = .returned (ckV (ckI false v ks) A' c' K k) ∧ Chunk w' w'.heap.size A' c' K k (ckI false v ks) ∧ Below w.heap.size w w' := by
  have hv4 := vlB_four v
  have HCH : Hid (∀ (V : World) (A1 : Option Addr) (c1 : Nat), Below w.heap.size w V → Lies V V.heap.size A1 ((vlB v).map bv) → 16 ≤ c1 → c1 ≤ maxLen → Chunk V V.heap.size A1 c1 K k (ckI false v ks)) := Lib.hid (fun V A1 c1 hb h1 h2 h3 => ⟨h1, by show (vlB v).length ≤ _; rw [vlB_len]; exact h2, h3, hK.on hb, hkc, hkm⟩)
  have HCV : Hid (∀ (A1 : Option Addr) (c1 : Nat), ckV (ckI false v ks) A1 c1 K k = .agg #[.int .u8 1, .int .u8 0, .slice A1 16 c1, .slice K ks.length k]) := Lib.hid (fun A1 c1 => by
    unfold ckV
    rw [show (ckI false v ks).d.length = 16 from vlB_len v]
    rfl)
  rw [← hv4] at HCH
  obtain ⟨tg, wd, ou, ii, ts⟩ := v
  simp only [vlV] at *
  generalize ckI false ⟨tg, wd, ou, ii, ts⟩ ks = x at *
  have est := est4 ou ii
  have b0 : Below w.heap.size w (((w.alloc (.cells #[uv tg, uv wd, hv ou, hv ii, uv ts] 77)).alloc (.cells #[.int .u8 0, .int .u8 0, .slice none 0 0, .slice none 0 0] 31)).alloc (.cells #[.int .u8 1, .int .u8 0, .slice none 0 0, .slice K ks.length k] 31)) := (((Below.refl _ w).alloc (Nat.le_refl _) _).alloc (by simp) _).alloc (by simp; omega) _
  have x0 := ((Whole.new w 77 #[uv tg, uv wd, hv ou, hv ii, uv ts]).alloc (.cells #[.int .u8 0, .int .u8 0, .slice none 0 0, .slice none 0 0] 31)).alloc (.cells #[.int .u8 1, .int .u8 0, .slice none 0 0, .slice K ks.length k] 31)
  have y0 := (Whole.new (w.alloc (.cells #[uv tg, uv wd, hv ou, hv ii, uv ts] 77)) 31 #[.int .u8 0, .int .u8 0, .slice none 0 0, .slice none 0 0]).alloc (.cells #[.int .u8 1, .int .u8 0, .slice none 0 0, .slice K ks.length k] 31)
  have z0 := Whole.new ((w.alloc (.cells #[uv tg, uv wd, hv ou, hv ii, uv ts] 77)).alloc (.cells #[.int .u8 0, .int .u8 0, .slice none 0 0, .slice none 0 0] 31)) 31 #[.int .u8 1, .int .u8 0, .slice none 0 0, .slice K ks.length k]
  rw [World.size_alloc] at y0
  rw [World.size_alloc, World.size_alloc] at z0
  have hz0 : w.heap.size + 2 < (((w.alloc (.cells #[uv tg, uv wd, hv ou, hv ii, uv ts] 77)).alloc (.cells #[.int .u8 0, .int .u8 0, .slice none 0 0, .slice none 0 0] 31)).alloc (.cells #[.int .u8 1, .int .u8 0, .slice none 0 0, .slice K ks.length k] 31)).heap.size := by simp
  have HB := Lib.hid b0
  clear hK b0
  go_enter Tryz.func46, Tryz.ntmps46
  go_upto_region 2 with fail
  generalize (((w.alloc (.cells #[uv tg, uv wd, hv ou, hv ii, uv ts] 77)).alloc (.cells #[.int .u8 0, .int .u8 0, .slice none 0 0, .slice none 0 0] 31)).alloc (.cells #[.int .u8 1, .int .u8 0, .slice none 0 0, .slice K ks.length k] 31)) = w1 at *
  have z1 := z0
  have x1 := x0
  have y1 := y0
  have HB1 := HB
  have hz1 := hz0
  clear x0 y0 z0 HB hz0
  obtain ⟨q0, q1, q2, q3, q4⟩ := x1.cs5
  have v3 : Below w1.heap.size w1 (w1.alloc (.cells #[uv tg, uv wd, uv (u32of ou.toNat * 65536 + u32of ii.toNat), uv ts] 22)) := (Below.refl _ _).alloc (Nat.le_refl _) _
  have hP := rput_any 4 (.inr (.inr rfl)) (some ⟨w1.heap.size, 0, none⟩) 4 [tg, wd, u32of ou.toNat * 65536 + u32of ii.toNat, ts] (w1.alloc (.cells #[uv tg, uv wd, uv (u32of ou.toNat * 65536 + u32of ii.toNat), uv ts] 22)) ((Lies.newN w1 _ _).more (by simp)) (by simp)
  have hP' : Calls Tryz.prog 73 #[.int .i64 4, .slice (some ⟨w1.heap.size, 0, none⟩) 4 4] (w1.alloc (.cells #[uv tg, uv wd, uv (u32of ou.toNat * 65536 + u32of ii.toNat), uv ts] 22)) fun e w' => ∃ A' c', e = .returned (.slice A' 16 c') ∧ w'.ownsRow (w1.alloc (.cells #[uv tg, uv wd, uv (u32of ou.toNat * 65536 + u32of ii.toNat), uv ts] 22)).heap.size 5 1 (.slice A' 16 c') 16 ((puts 4 [tg, wd, u32of ou.toNat * 65536 + u32of ii.toNat, ts]).map bv) ∧ Below (w1.alloc (.cells #[uv tg, uv wd, uv (u32of ou.toNat * 65536 + u32of ii.toNat), uv ts] 22)).heap.size (w1.alloc (.cells #[uv tg, uv wd, uv (u32of ou.toNat * 65536 + u32of ii.toNat), uv ts] 22)) w' := hP
  have hsz3 : w1.heap.size ≤ (w1.alloc (.cells #[uv tg, uv wd, uv (u32of ou.toNat * 65536 + u32of ii.toNat), uv ts] 22)).heap.size := by simp
  clear hP
  generalize puts 4 [tg, wd, u32of ou.toNat * 65536 + u32of ii.toNat, ts] = bs at *
  go_wp2_with fail
  try rw [est]
  refine hP'.mono ?_
  rintro e w4 ⟨A4, c4, rfl, o4, b4⟩
  have b14 := v3.trans (b4.mono hsz3)
  have y4 := y1.below b14 y1.lt
  have z4 := z1.below b14 z1.lt
  have HB4 := Lib.hid (HB1.out.trans (b14.mono HB1.out.size))
  have hs4 := Nat.lt_of_lt_of_le hz1 b14.size
  obtain ⟨m0, m1, m2, m3⟩ := wh4 z4
  have f2 := z4.frozen 2
  clear q0 q1 q2 q3 q4 x1 y1 z1 HB1 hz1 v3 b4 b14 hP'
  go_upto_region 5 with fail
  have z5 : Whole (w4.setCell ⟨w.heap.size + 1 + 1, 2, none⟩ (.slice A4 16 c4)) (w.heap.size + 1 + 1) 31 #[.int .u8 1, .int .u8 0, .slice A4 16 c4, .slice K ks.length k] := z4.set_ 2 _
  have y5 := y4.below (B := w.heap.size + 1 + 1) ((Below.refl _ w4).setCell (p := ⟨w.heap.size + 1 + 1, 2, none⟩) (Nat.le_refl _) (.slice A4 16 c4)) (by omega)
  have o5 := own_set13 o4 z4 (by decide) (i := 2) (u := .slice A4 16 c4)
  have HB5 := Lib.hid (HB4.out.setCell (p := ⟨w.heap.size + 1 + 1, 2, none⟩) (by show w.heap.size ≤ w.heap.size + 1 + 1; omega) (.slice A4 16 c4))
  generalize w4.setCell ⟨w.heap.size + 1 + 1, 2, none⟩ (.slice A4 16 c4) = w5 at *
  clear m0 m1 m2 m3 f2 z4 y4 o4 HB4 hs4
  obtain ⟨m0, m1, m2, m3⟩ := wh4 z5
  go_wp2_with (first | (refine wpList_store_row rfl 31 _ _ rfl (w.heap.size + 1) #[.int .u8 1, .int .u8 0, .slice A4 16 c4, .slice K ks.length k] rfl rfl _ _ y5 (by kernel_rfl) rfl (by simp [Value.oneCell']) ?_) | fail)
  (try simp only [Exit.inBlock, Exit.then])
  refine bodyPost_ret (results_row13 rfl _ _ (w.heap.size + 1) 31 _ _ rfl (y5.setRow _) Tryz.underlying31 rfl (by kernel_rfl)) rfl ?_
  have hcap := own_cap o5
  have hB6 := below_setRow HB5.out (Nat.le_succ w.heap.size) #[.int .u8 1, .int .u8 0, .slice A4 16 c4, .slice K ks.length k]
  have hsz : (w5.setRow (w.heap.size + 1) #[.int .u8 1, .int .u8 0, .slice A4 16 c4, .slice K ks.length k]).heap.size = w5.heap.size := by simp
  have hL6 : Lies (w5.setRow (w.heap.size + 1) #[.int .u8 1, .int .u8 0, .slice A4 16 c4, .slice K ks.length k]) (w5.setRow (w.heap.size + 1) #[.int .u8 1, .int .u8 0, .slice A4 16 c4, .slice K ks.length k]).heap.size A4 (bs.map bv) := by
    rw [hsz]
    exact lies_setRow13 (Lies.own o5) (whole_row_ne y5 (by decide) o5) _
  exact ⟨A4, c4, by rw [HCV.out], HCH.out _ A4 c4 hB6 hL6 hcap.2.1 hcap.2.2, hB6⟩
set_option maxRecDepth 100000 in
set_option maxHeartbeats 8000000 in
theorem rMake_true (v : Vl) (ks : List Nd) (K : Option Addr) (k : Nat) (w : World) (hK : Nodes w w.heap.size K ks) (hkc : ks.length ≤ k) (hkm : k ≤ maxLen) :
    Calls Tryz.prog 46 #[.bool true, vlV v, .slice K ks.length k] w fun e w' => ∃ A' c', e = .returned (ckV (ckI true v ks) A' c' K k) ∧ Chunk w' w'.heap.size A' c' K k (ckI true v ks) ∧ Below w.heap.size w w' := by
  have hv4 := vlB_four v
  have HCH : Hid (∀ (V : World) (A1 : Option Addr) (c1 : Nat), Below w.heap.size w V → Lies V V.heap.size A1 ((vlB v).map bv) → 16 ≤ c1 → c1 ≤ maxLen → Chunk V V.heap.size A1 c1 K k (ckI true v ks)) := Lib.hid (fun V A1 c1 hb h1 h2 h3 => ⟨h1, by show (vlB v).length ≤ _; rw [vlB_len]; exact h2, h3, hK.on hb, hkc, hkm⟩)
  have HCV : Hid (∀ (A1 : Option Addr) (c1 : Nat), ckV (ckI true v ks) A1 c1 K k = .agg #[.int .u8 2, .int .u8 0, .slice A1 16 c1, .slice K ks.length k]) := Lib.hid (fun A1 c1 => by
    unfold ckV
    rw [show (ckI true v ks).d.length = 16 from vlB_len v]
    rfl)
  rw [← hv4] at HCH
  obtain ⟨tg, wd, ou, ii, ts⟩ := v
  simp only [vlV] at *
  generalize ckI true ⟨tg, wd, ou, ii, ts⟩ ks = x at *
  have est := est4 ou ii
  have b0 : Below w.heap.size w (((w.alloc (.cells #[uv tg, uv wd, hv ou, hv ii, uv ts] 77)).alloc (.cells #[.int .u8 0, .int .u8 0, .slice none 0 0, .slice none 0 0] 31)).alloc (.cells #[.int .u8 1, .int .u8 0, .slice none 0 0, .slice K ks.length k] 31)) := (((Below.refl _ w).alloc (Nat.le_refl _) _).alloc (by simp) _).alloc (by simp; omega) _
  have x0 := ((Whole.new w 77 #[uv tg, uv wd, hv ou, hv ii, uv ts]).alloc (.cells #[.int .u8 0, .int .u8 0, .slice none 0 0, .slice none 0 0] 31)).alloc (.cells #[.int .u8 1, .int .u8 0, .slice none 0 0, .slice K ks.length k] 31)
  have y0 := (Whole.new (w.alloc (.cells #[uv tg, uv wd, hv ou, hv ii, uv ts] 77)) 31 #[.int .u8 0, .int .u8 0, .slice none 0 0, .slice none 0 0]).alloc (.cells #[.int .u8 1, .int .u8 0, .slice none 0 0, .slice K ks.length k] 31)
  have z0 := Whole.new ((w.alloc (.cells #[uv tg, uv wd, hv ou, hv ii, uv ts] 77)).alloc (.cells #[.int .u8 0, .int .u8 0, .slice none 0 0, .slice none 0 0] 31)) 31 #[.int .u8 1, .int .u8 0, .slice none 0 0, .slice K ks.length k]
  rw [World.size_alloc] at y0
  rw [World.size_alloc, World.size_alloc] at z0
  have hz0 : w.heap.size + 2 < (((w.alloc (.cells #[uv tg, uv wd, hv ou, hv ii, uv ts] 77)).alloc (.cells #[.int .u8 0, .int .u8 0, .slice none 0 0, .slice none 0 0] 31)).alloc (.cells #[.int .u8 1, .int .u8 0, .slice none 0 0, .slice K ks.length k] 31)).heap.size := by simp
  have HB := Lib.hid b0
  clear hK b0
  go_enter Tryz.func46, Tryz.ntmps46
  go_upto_region 2 with fail
  generalize (((w.alloc (.cells #[uv tg, uv wd, hv ou, hv ii, uv ts] 77)).alloc (.cells #[.int .u8 0, .int .u8 0, .slice none 0 0, .slice none 0 0] 31)).alloc (.cells #[.int .u8 1, .int .u8 0, .slice none 0 0, .slice K ks.length k] 31)) = w1 at *
  have f3 := z0.frozen 0
  obtain ⟨m0, m1, m2, m3⟩ := wh4 z0
  go_upto_region 4 with fail
  have z1 : Whole (w1.setCell ⟨w.heap.size + 1 + 1, 0, none⟩ (.int .u8 2)) (w.heap.size + 1 + 1) 31 #[.int .u8 2, .int .u8 0, .slice none 0 0, .slice K ks.length k] := z0.set_ 0 _
  have x1 := x0.below (B := w.heap.size + 1) ((Below.refl _ w1).setCell (p := ⟨w.heap.size + 1 + 1, 0, none⟩) (by show w.heap.size + 1 ≤ w.heap.size + 1 + 1; omega) (.int .u8 2)) (by omega)
  have y1 := y0.below (B := w.heap.size + 1 + 1) ((Below.refl _ w1).setCell (p := ⟨w.heap.size + 1 + 1, 0, none⟩) (Nat.le_refl _) (.int .u8 2)) (by omega)
  have HB1 := Lib.hid (HB.out.setCell (p := ⟨w.heap.size + 1 + 1, 0, none⟩) (by show w.heap.size ≤ w.heap.size + 1 + 1; omega) (.int .u8 2))
  have hz1 : w.heap.size + 2 < (w1.setCell ⟨w.heap.size + 1 + 1, 0, none⟩ (.int .u8 2)).heap.size := by rw [World.size_setCell]; exact hz0
  generalize w1.setCell ⟨w.heap.size + 1 + 1, 0, none⟩ (.int .u8 2) = w2 at *
  clear f3 m0 m1 m2 m3 x0 y0 z0 HB hz0
  obtain ⟨q0, q1, q2, q3, q4⟩ := x1.cs5
  have v3 : Below w2.heap.size w2 (w2.alloc (.cells #[uv tg, uv wd, uv (u32of ou.toNat * 65536 + u32of ii.toNat), uv ts] 22)) := (Below.refl _ _).alloc (Nat.le_refl _) _
  have hP := rput_any 4 (.inr (.inr rfl)) (some ⟨w2.heap.size, 0, none⟩) 4 [tg, wd, u32of ou.toNat * 65536 + u32of ii.toNat, ts] (w2.alloc (.cells #[uv tg, uv wd, uv (u32of ou.toNat * 65536 + u32of ii.toNat), uv ts] 22)) ((Lies.newN w2 _ _).more (by simp)) (by simp)
  have hP' : Calls Tryz.prog 73 #[.int .i64 4, .slice (some ⟨w2.heap.size, 0, none⟩) 4 4] (w2.alloc (.cells #[uv tg, uv wd, uv (u32of ou.toNat * 65536 + u32of ii.toNat), uv ts] 22)) fun e w' => ∃ A' c', e = .returned (.slice A' 16 c') ∧ w'.ownsRow (w2.alloc (.cells #[uv tg, uv wd, uv (u32of ou.toNat * 65536 + u32of ii.toNat), uv ts] 22)).heap.size 5 1 (.slice A' 16 c') 16 ((puts 4 [tg, wd, u32of ou.toNat * 65536 + u32of ii.toNat, ts]).map bv) ∧ Below (w2.alloc (.cells #[uv tg, uv wd, uv (u32of ou.toNat * 65536 + u32of ii.toNat), uv ts] 22)).heap.size (w2.alloc (.cells #[uv tg, uv wd, uv (u32of ou.toNat * 65536 + u32of ii.toNat), uv ts] 22)) w' := hP
  have hsz3 : w2.heap.size ≤ (w2.alloc (.cells #[uv tg, uv wd, uv (u32of ou.toNat * 65536 + u32of ii.toNat), uv ts] 22)).heap.size := by simp
  clear hP
  generalize puts 4 [tg, wd, u32of ou.toNat * 65536 + u32of ii.toNat, ts] = bs at *
  go_wp2_with fail
  try rw [est]
  refine hP'.mono ?_
  rintro e w4 ⟨A4, c4, rfl, o4, b4⟩
  have b14 := v3.trans (b4.mono hsz3)
  have y4 := y1.below b14 y1.lt
  have z4 := z1.below b14 z1.lt
  have HB4 := Lib.hid (HB1.out.trans (b14.mono HB1.out.size))
  have hs4 := Nat.lt_of_lt_of_le hz1 b14.size
  obtain ⟨m0, m1, m2, m3⟩ := wh4 z4
  have f2 := z4.frozen 2
  clear q0 q1 q2 q3 q4 x1 y1 z1 HB1 hz1 v3 b4 b14 hP'
  go_upto_region 5 with fail
  have z5 : Whole (w4.setCell ⟨w.heap.size + 1 + 1, 2, none⟩ (.slice A4 16 c4)) (w.heap.size + 1 + 1) 31 #[.int .u8 2, .int .u8 0, .slice A4 16 c4, .slice K ks.length k] := z4.set_ 2 _
  have y5 := y4.below (B := w.heap.size + 1 + 1) ((Below.refl _ w4).setCell (p := ⟨w.heap.size + 1 + 1, 2, none⟩) (Nat.le_refl _) (.slice A4 16 c4)) (by omega)
  have o5 := own_set13 o4 z4 (by decide) (i := 2) (u := .slice A4 16 c4)
  have HB5 := Lib.hid (HB4.out.setCell (p := ⟨w.heap.size + 1 + 1, 2, none⟩) (by show w.heap.size ≤ w.heap.size + 1 + 1; omega) (.slice A4 16 c4))
  generalize w4.setCell ⟨w.heap.size + 1 + 1, 2, none⟩ (.slice A4 16 c4) = w5 at *
  clear m0 m1 m2 m3 f2 z4 y4 o4 HB4 hs4
  obtain ⟨m0, m1, m2, m3⟩ := wh4 z5
  go_wp2_with (first | (refine wpList_store_row rfl 31 _ _ rfl (w.heap.size + 1) #[.int .u8 2, .int .u8 0, .slice A4 16 c4, .slice K ks.length k] rfl rfl _ _ y5 (by kernel_rfl) rfl (by simp [Value.oneCell']) ?_) | fail)
  (try simp only [Exit.inBlock, Exit.then])
  refine bodyPost_ret (results_row13 rfl _ _ (w.heap.size + 1) 31 _ _ rfl (y5.setRow _) Tryz.underlying31 rfl (by kernel_rfl)) rfl ?_
  have hcap := own_cap o5
  have hB6 := below_setRow HB5.out (Nat.le_succ w.heap.size) #[.int .u8 2, .int .u8 0, .slice A4 16 c4, .slice K ks.length k]
  have hsz : (w5.setRow (w.heap.size + 1) #[.int .u8 2, .int .u8 0, .slice A4 16 c4, .slice K ks.length k]).heap.size = w5.heap.size := by simp
  have hL6 : Lies (w5.setRow (w.heap.size + 1) #[.int .u8 2, .int .u8 0, .slice A4 16 c4, .slice K ks.length k]) (w5.setRow (w.heap.size + 1) #[.int .u8 2, .int .u8 0, .slice A4 16 c4, .slice K ks.length k]).heap.size A4 (bs.map bv) := by
    rw [hsz]
    exact lies_setRow13 (Lies.own o5) (whole_row_ne y5 (by decide) o5) _
  exact ⟨A4, c4, by rw [HCV.out], HCH.out _ A4 c4 hB6 hL6 hcap.2.1 hcap.2.2, hB6⟩
theorem rMake_any (an : Bool) (v : Vl) (ks : List Nd) (K : Option Addr) (k : Nat) (w : World) (hK : Nodes w w.heap.size K ks) (hkc : ks.length ≤ k) (hkm : k ≤ maxLen) :
    Calls Tryz.prog 46 #[.bool an, vlV v, .slice K ks.length k] w fun e w' => ∃ A' c', e = .returned (ckV (ckI an v ks) A' c' K k) ∧ Chunk w' w'.heap.size A' c' K k (ckI an v ks) ∧ Below w.heap.size w w' := by
  cases an
  · exact rMake_false v ks K k w hK hkc hkm
  · exact rMake_true v ks K k w hK hkc hkm
end Go.Proofs.YtdcppcoldaaldaaGreatDoor


