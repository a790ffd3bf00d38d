/- Layer 12: the first check that a chunk does not pass: Check's seven, Parse's four. It writes nothing that was there. -/
import Derived.Test.YtmohbkniekeafaaGreatDoorTCA
import Derived.Test.YtmohbkniekeafaaGreatDoorTChunkDK



namespace Go.Proofs.YtmohbkniekeafaaGreatDoor
open Go.RowKit

set_option linter.unusedSimpArgs false
theorem da_fits {x : Ck} (h : daB x = false) (hk : kn x.t = true) : kfitsB (kdOf x.t) (x.d.length : Int) = true := by
  unfold daB at h
  rw [hk, Bool.true_and] at h
  simpa using h
theorem kfits_of {f : Kd} {n : Int} (h : kfitsB f n = true) : f.lo ≤ n ∧ n ≤ f.hi ∧ (n - f.lo) % f.un = 0 := by
  unfold kfitsB at h
  simp only [Bool.and_eq_true, decide_eq_true_eq, beq_iff_eq] at h
  exact ⟨h.1.1, h.1.2, h.2⟩
theorem da_sack {x : Ck} (h : daB x = false) (ht : x.t = 3) : 12 ≤ x.d.length ∧ (x.d.length - 12) % 4 = 0 := by
  obtain ⟨h1, _, h3⟩ := kfits_of (da_fits h (by rw [ht]; decide))
  rw [ht] at h1 h3
  rw [show (kdOf 3).lo = 12 by decide] at h1 h3
  rw [show (kdOf 3).un = 4 by decide] at h3
  omega
theorem da_idata {x : Ck} (h : daB x = false) (ht : x.t = 64) : 17 ≤ x.d.length := by
  obtain ⟨h1, _, _⟩ := kfits_of (da_fits h (by rw [ht]; decide))
  rw [ht] at h1
  rw [show (kdOf 64).lo = 17 by decide] at h1
  omega
theorem da_ifwd {x : Ck} (h : daB x = false) (ht : x.t = 194) : 4 ≤ x.d.length ∧ (x.d.length - 4) % 8 = 0 := by
  obtain ⟨h1, _, h3⟩ := kfits_of (da_fits h (by rw [ht]; decide))
  rw [ht] at h1 h3
  rw [show (kdOf 194).lo = 4 by decide] at h1 h3
  rw [show (kdOf 194).un = 8 by decide] at h3
  omega
/-- the error of the first check that a chunk does not pass, of 7 -/
def ckE7 (x : Ck) : Value := if flB x = true then faultV 6 1 else (if daB x = true then faultV 7 0 else (if kidB x = true then faultV 7 0 else (if cntC x = true then faultV 8 12 else (match cvalO x with | some a => faultV 11 (a : Int) | none => (if chkL (kc x.t) x.ks ≠ 0 then codeV ((chkL (kc x.t) x.ks : Nat) : Int) else (if 65535 < csz x then codeV 4 else (.nilIface)))))))
def ckFs7 : List Value := [.func (.func 79) #[] #[], .func (.func 80) #[] #[], .func (.func 81) #[] #[], .func (.func 82) #[] #[], .func (.func 83) #[] #[], .func (.func 84) #[] #[], .func (.func 85) #[] #[]]
structure Pas7 (x : Ck) (i : Nat) : Prop where
  p0 : 0 < i → flB x = false
  p1 : 1 < i → daB x = false
  p2 : 2 < i → kidB x = false
  p3 : 3 < i → cntC x = false
  p4 : 4 < i → cvalO x = none
  p5 : 5 < i → chkL (kc x.t) x.ks = 0
  p6 : 6 < i → ¬ 65535 < csz x
set_option maxRecDepth 100000 in
set_option maxHeartbeats 8000000 in
theorem first7_any (x : Ck) (hf : CkFine x) (A : Option Addr) (c : Nat) (K : Option Addr) (k : Nat) (g : Nat) (w : World) (h : Chunk w w.heap.size A c K k x) (hg : g < w.heap.size) (hc : ∀ (j : Nat) (u : Value), ckFs7[j]? = some u → w.cell? ⟨g, j, none⟩ = some u) :
    Calls Tryz.prog 78 #[ckV x A c K k, .slice (some ⟨g, 0, none⟩) 7 7] w fun e w' => e = .returned (ckE7 x) ∧ Below w.heap.size w w' := by
  have b0 : Below w.heap.size w (w.alloc (.cells (ckCells x A c K k) 44)) := (Below.refl _ w).alloc (Nat.le_refl _) _
  have x0 := CkBox.new w x A c K k
  have HF : Hid (∀ W, Below w.heap.size w W → ∀ (j : Nat) (u : Value), ckFs7[j]? = some u → W.cell? ⟨g, j, none⟩ = some u) := fun W hW j u hu => (hW.cell (p := ⟨g, j, none⟩) hg).trans (hc j u hu)
  have H0 : Hid (∀ W, Below w.heap.size w W → Calls Tryz.prog 79 #[ckV x A c K k] W fun e w' => e = .returned (errV (flB x) 6 1) ∧ Below W.heap.size W w') := fun W hW => checkFlags_any x A c K k W
  have H1 : Hid (∀ W, Below w.heap.size w W → Calls Tryz.prog 80 #[ckV x A c K k] W fun e w' => e = .returned (errV (daB x) 7 0) ∧ Below W.heap.size W w') := fun W hW => checkData_any x A c K k W
  have H2 : Hid (∀ W, Below w.heap.size w W → Calls Tryz.prog 81 #[ckV x A c K k] W fun e w' => e = .returned (errV (kidB x) 7 0) ∧ Below W.heap.size W w') := fun W hW => checkKids_any x (Nat.le_trans hf.ks (by decide)) A c K k W (h.on hW).kids
  have H3 : Hid (daB x = false → ∀ W, Below w.heap.size w W → Calls Tryz.prog 82 #[ckV x A c K k] W fun e w' => e = .returned (errV (cntC x) 8 12) ∧ Below W.heap.size W w') := fun hda W hW => checkCount_any x hf.d (fun ht => (da_sack hda ht).1) A c K k W (h.on hW)
  have H4 : Hid (daB x = false → ∀ W, Below w.heap.size w W → Calls Tryz.prog 83 #[ckV x A c K k] W fun e w' => e = .returned (cvalV (cvalO x)) ∧ Below W.heap.size W w') := fun hda W hW => checkValue_any x hf.d (fun ht => da_idata hda ht) (fun ht => da_ifwd hda ht) A c K k W (h.on hW)
  have H5 : Hid (∀ W, Below w.heap.size w W → Calls Tryz.prog 84 #[ckV x A c K k] W fun e w' => e = .returned (codeE (chkL (kc x.t) x.ks)) ∧ Below W.heap.size W w') := fun W hW => checkInside_any x hf A c K k W (h.on hW)
  have H6 : Hid (∀ W, Below w.heap.size w W → Calls Tryz.prog 85 #[ckV x A c K k] W fun e w' => e = .returned (if 65535 < csz x then codeV 4 else .nilIface) ∧ Below W.heap.size W w') := fun W hW => checkSize_any x hf A c K k W (h.on hW)
  clear hc hf h
  go_enter Tryz.func78, Tryz.ntmps78
  go_wp2_with fail
  generalize w.alloc (.cells (ckCells x A c K k) 44) = w0 at *
  go_loopw [10] (fun i wr => ∃ q : Nat, q ≤ 7 ∧ i = .int .i64 (q : Int) ∧ Hid (Pas7 x q) ∧ Below w0.heap.size w0 wr) (fun i _ => 7 - (intOf i).toNat)
  case atStart => exact ⟨0, Nat.zero_le _, rfl, ⟨fun h => absurd h (by omega), fun h => absurd h (by omega), fun h => absurd h (by omega), fun h => absurd h (by omega), fun h => absurd h (by omega), fun h => absurd h (by omega), fun h => absurd h (by omega)⟩, Below.refl _ _⟩
  case round =>
    obtain ⟨q, hq, rfl, hp, hbel⟩ := hrel
    have hbw := b0.trans (hbel.mono b0.size)
    have x1 := x0.below hbel
    obtain ⟨s0, s1, s2, s3⟩ := x1.cs
    by_cases hq0 : q = 0
    · subst hq0
      have hfn := HF.out wr hbw 0 _ rfl
      have hC := H0.out wr hbw
      have HE := Lib.hid (show flB x = false → Pas7 x 1 from fun hz => ⟨fun _ => hz, fun h => absurd h (by omega), fun h => absurd h (by omega), fun h => absurd h (by omega), fun h => absurd h (by omega), fun h => absurd h (by omega), fun h => absurd h (by omega)⟩)
      cases hz : flB x with
      | false =>
        have HN := Lib.hid (HE.out hz)
        rw [hz] at hC; unfold errV at hC; simp only [Bool.false_eq_true, if_false] at hC
        clear HE hp
        go_wp2_with fail
        refine hC.mono ?_
        rintro e w5 ⟨rfl, b5⟩
        go_wp2_with fail
        go_roundw
        case rel => exact ⟨1, by omega, rfl, HN, hbel.trans (b5.mono hbel.size)⟩
        case measure => simp [intOf]
      | true =>
        have HR : Hid (ckE7 x = faultV 6 1) := by
          unfold Hid ckE7
          rw [if_pos hz]
        rw [hz] at hC; unfold errV faultV at hC; simp only [if_true] at hC
        clear HE hp
        go_wp2_with fail
        refine hC.mono ?_
        rintro e w5 ⟨rfl, b5⟩
        go_wp2_with fail
        go_ret
        exact ⟨by rw [HR.out]; rfl, hbw.trans (b5.mono hbw.size)⟩
    by_cases hq1 : q = 1
    · subst hq1
      have hfn := HF.out wr hbw 1 _ rfl
      have hC := H1.out wr hbw
      have HE := Lib.hid (show daB x = false → Pas7 x 2 from fun hz => ⟨fun _ => hp.out.p0 (by omega), fun _ => hz, fun h => absurd h (by omega), fun h => absurd h (by omega), fun h => absurd h (by omega), fun h => absurd h (by omega), fun h => absurd h (by omega)⟩)
      cases hz : daB x with
      | false =>
        have HN := Lib.hid (HE.out hz)
        rw [hz] at hC; unfold errV at hC; simp only [Bool.false_eq_true, if_false] at hC
        clear HE hp
        go_wp2_with fail
        refine hC.mono ?_
        rintro e w5 ⟨rfl, b5⟩
        go_wp2_with fail
        go_roundw
        case rel => exact ⟨2, by omega, rfl, HN, hbel.trans (b5.mono hbel.size)⟩
        case measure => simp [intOf]
      | true =>
        have HR : Hid (ckE7 x = faultV 7 0) := by
          unfold Hid ckE7
          rw [if_neg (by rw [(hp.out.p0 (by omega))]; decide)]
          rw [if_pos hz]
        rw [hz] at hC; unfold errV faultV at hC; simp only [if_true] at hC
        clear HE hp
        go_wp2_with fail
        refine hC.mono ?_
        rintro e w5 ⟨rfl, b5⟩
        go_wp2_with fail
        go_ret
        exact ⟨by rw [HR.out]; rfl, hbw.trans (b5.mono hbw.size)⟩
    by_cases hq2 : q = 2
    · subst hq2
      have hfn := HF.out wr hbw 2 _ rfl
      have hC := H2.out wr hbw
      have HE := Lib.hid (show kidB x = false → Pas7 x 3 from fun hz => ⟨fun _ => hp.out.p0 (by omega), fun _ => hp.out.p1 (by omega), fun _ => hz, fun h => absurd h (by omega), fun h => absurd h (by omega), fun h => absurd h (by omega), fun h => absurd h (by omega)⟩)
      cases hz : kidB x with
      | false =>
        have HN := Lib.hid (HE.out hz)
        rw [hz] at hC; unfold errV at hC; simp only [Bool.false_eq_true, if_false] at hC
        clear HE hp
        go_wp2_with fail
        refine hC.mono ?_
        rintro e w5 ⟨rfl, b5⟩
        go_wp2_with fail
        go_roundw
        case rel => exact ⟨3, by omega, rfl, HN, hbel.trans (b5.mono hbel.size)⟩
        case measure => simp [intOf]
      | true =>
        have HR : Hid (ckE7 x = faultV 7 0) := by
          unfold Hid ckE7
          rw [if_neg (by rw [(hp.out.p0 (by omega))]; decide)]
          rw [if_neg (by rw [(hp.out.p1 (by omega))]; decide)]
          rw [if_pos hz]
        rw [hz] at hC; unfold errV faultV at hC; simp only [if_true] at hC
        clear HE hp
        go_wp2_with fail
        refine hC.mono ?_
        rintro e w5 ⟨rfl, b5⟩
        go_wp2_with fail
        go_ret
        exact ⟨by rw [HR.out]; rfl, hbw.trans (b5.mono hbw.size)⟩
    by_cases hq3 : q = 3
    · subst hq3
      have hfn := HF.out wr hbw 3 _ rfl
      have hC := H3.out (hp.out.p1 (by omega)) wr hbw
      have HE := Lib.hid (show cntC x = false → Pas7 x 4 from fun hz => ⟨fun _ => hp.out.p0 (by omega), fun _ => hp.out.p1 (by omega), fun _ => hp.out.p2 (by omega), fun _ => hz, fun h => absurd h (by omega), fun h => absurd h (by omega), fun h => absurd h (by omega)⟩)
      cases hz : cntC x with
      | false =>
        have HN := Lib.hid (HE.out hz)
        rw [hz] at hC; unfold errV at hC; simp only [Bool.false_eq_true, if_false] at hC
        clear HE hp
        go_wp2_with fail
        refine hC.mono ?_
        rintro e w5 ⟨rfl, b5⟩
        go_wp2_with fail
        go_roundw
        case rel => exact ⟨4, by omega, rfl, HN, hbel.trans (b5.mono hbel.size)⟩
        case measure => simp [intOf]
      | true =>
        have HR : Hid (ckE7 x = faultV 8 12) := by
          unfold Hid ckE7
          rw [if_neg (by rw [(hp.out.p0 (by omega))]; decide)]
          rw [if_neg (by rw [(hp.out.p1 (by omega))]; decide)]
          rw [if_neg (by rw [(hp.out.p2 (by omega))]; decide)]
          rw [if_pos hz]
        rw [hz] at hC; unfold errV faultV at hC; simp only [if_true] at hC
        clear HE hp
        go_wp2_with fail
        refine hC.mono ?_
        rintro e w5 ⟨rfl, b5⟩
        go_wp2_with fail
        go_ret
        exact ⟨by rw [HR.out]; rfl, hbw.trans (b5.mono hbw.size)⟩
    by_cases hq4 : q = 4
    · subst hq4
      have hfn := HF.out wr hbw 4 _ rfl
      have hC := H4.out (hp.out.p1 (by omega)) wr hbw
      have HE := Lib.hid (show cvalO x = none → Pas7 x 5 from fun hz => ⟨fun _ => hp.out.p0 (by omega), fun _ => hp.out.p1 (by omega), fun _ => hp.out.p2 (by omega), fun _ => hp.out.p3 (by omega), fun _ => hz, fun h => absurd h (by omega), fun h => absurd h (by omega)⟩)
      cases hz : cvalO x with
      | none =>
        have HN := Lib.hid (HE.out hz)
        rw [hz] at hC; unfold cvalV at hC; simp only [] at hC
        clear HE hp
        go_wp2_with fail
        refine hC.mono ?_
        rintro e w5 ⟨rfl, b5⟩
        go_wp2_with fail
        go_roundw
        case rel => exact ⟨5, by omega, rfl, HN, hbel.trans (b5.mono hbel.size)⟩
        case measure => simp [intOf]
      | some av =>
        have HR : Hid (ckE7 x = faultV 11 (av : Int)) := by
          unfold Hid ckE7
          rw [if_neg (by rw [(hp.out.p0 (by omega))]; decide)]
          rw [if_neg (by rw [(hp.out.p1 (by omega))]; decide)]
          rw [if_neg (by rw [(hp.out.p2 (by omega))]; decide)]
          rw [if_neg (by rw [(hp.out.p3 (by omega))]; decide)]
          rw [hz]
        rw [hz] at hC; unfold cvalV faultV at hC; simp only [] at hC
        clear HE hp
        go_wp2_with fail
        refine hC.mono ?_
        rintro e w5 ⟨rfl, b5⟩
        go_wp2_with fail
        go_ret
        exact ⟨by rw [HR.out]; rfl, hbw.trans (b5.mono hbw.size)⟩
    by_cases hq5 : q = 5
    · subst hq5
      have hfn := HF.out wr hbw 5 _ rfl
      have hC := H5.out wr hbw
      have HE := Lib.hid (show chkL (kc x.t) x.ks = 0 → Pas7 x 6 from fun hz => ⟨fun _ => hp.out.p0 (by omega), fun _ => hp.out.p1 (by omega), fun _ => hp.out.p2 (by omega), fun _ => hp.out.p3 (by omega), fun _ => hp.out.p4 (by omega), fun _ => hz, fun h => absurd h (by omega)⟩)
      by_cases hz : chkL (kc x.t) x.ks = 0
      · have HN := Lib.hid (HE.out hz)
        rw [hz] at hC; unfold codeE at hC; simp only [if_true] at hC
        clear HE hp
        go_wp2_with fail
        refine hC.mono ?_
        rintro e w5 ⟨rfl, b5⟩
        go_wp2_with fail
        go_roundw
        case rel => exact ⟨6, by omega, rfl, HN, hbel.trans (b5.mono hbel.size)⟩
        case measure => simp [intOf]
      · have HR : Hid (ckE7 x = codeV ((chkL (kc x.t) x.ks : Nat) : Int)) := by
          unfold Hid ckE7
          rw [if_neg (by rw [(hp.out.p0 (by omega))]; decide)]
          rw [if_neg (by rw [(hp.out.p1 (by omega))]; decide)]
          rw [if_neg (by rw [(hp.out.p2 (by omega))]; decide)]
          rw [if_neg (by rw [(hp.out.p3 (by omega))]; decide)]
          rw [(hp.out.p4 (by omega))]
          rw [if_pos hz]
        unfold codeE codeV at hC; rw [if_neg hz] at hC
        clear HE hp
        go_wp2_with fail
        refine hC.mono ?_
        rintro e w5 ⟨rfl, b5⟩
        go_wp2_with fail
        go_ret
        exact ⟨by rw [HR.out]; rfl, hbw.trans (b5.mono hbw.size)⟩
    by_cases hq6 : q = 6
    · subst hq6
      have hfn := HF.out wr hbw 6 _ rfl
      have hC := H6.out wr hbw
      have HE := Lib.hid (show ¬ 65535 < csz x → Pas7 x 7 from fun hz => ⟨fun _ => hp.out.p0 (by omega), fun _ => hp.out.p1 (by omega), fun _ => hp.out.p2 (by omega), fun _ => hp.out.p3 (by omega), fun _ => hp.out.p4 (by omega), fun _ => hp.out.p5 (by omega), fun _ => hz⟩)
      by_cases hz : 65535 < csz x
      · have HR : Hid (ckE7 x = codeV 4) := by
          unfold Hid ckE7
          rw [if_neg (by rw [(hp.out.p0 (by omega))]; decide)]
          rw [if_neg (by rw [(hp.out.p1 (by omega))]; decide)]
          rw [if_neg (by rw [(hp.out.p2 (by omega))]; decide)]
          rw [if_neg (by rw [(hp.out.p3 (by omega))]; decide)]
          rw [(hp.out.p4 (by omega))]
          rw [if_neg (by rw [(hp.out.p5 (by omega))]; decide)]
          rw [if_pos hz]
        rw [if_pos hz] at hC; unfold codeV at hC
        clear HE hp
        go_wp2_with fail
        refine hC.mono ?_
        rintro e w5 ⟨rfl, b5⟩
        go_wp2_with fail
        go_ret
        exact ⟨by rw [HR.out]; rfl, hbw.trans (b5.mono hbw.size)⟩
      · have HN := Lib.hid (HE.out hz)
        rw [if_neg hz] at hC
        clear HE hp
        go_wp2_with fail
        refine hC.mono ?_
        rintro e w5 ⟨rfl, b5⟩
        go_wp2_with fail
        go_roundw
        case rel => exact ⟨7, by omega, rfl, HN, hbel.trans (b5.mono hbel.size)⟩
        case measure => simp [intOf]
    obtain rfl : q = 7 := by omega
    have HR : Hid (ckE7 x = .nilIface) := by
      unfold Hid ckE7
      rw [if_neg (by rw [(hp.out.p0 (by omega))]; decide)]
      rw [if_neg (by rw [(hp.out.p1 (by omega))]; decide)]
      rw [if_neg (by rw [(hp.out.p2 (by omega))]; decide)]
      rw [if_neg (by rw [(hp.out.p3 (by omega))]; decide)]
      rw [(hp.out.p4 (by omega))]
      rw [if_neg (by rw [(hp.out.p5 (by omega))]; decide)]
      rw [if_neg (hp.out.p6 (by omega))]
    clear hp
    go_wp2_with fail
    go_ret
    exact ⟨by rw [HR.out]; rfl, hbw⟩
end Go.Proofs.YtmohbkniekeafaaGreatDoor


