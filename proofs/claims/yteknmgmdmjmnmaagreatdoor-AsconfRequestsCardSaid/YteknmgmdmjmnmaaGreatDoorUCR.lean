/- Layer 12: the reference's Class, and All. They write nothing that was there. -/
/- Layer 12: the reference's Check. It writes nothing that was there. -/
import Derived.Test.YteknmgmdmjmnmaaGreatDoorUChunkQ
import Derived.Test.YteknmgmdmjmnmaaGreatDoorUCE
import Derived.Test.YteknmgmdmjmnmaaGreatDoorUNodeRAC
import Derived.Test.YteknmgmdmjmnmaaGreatDoorUK
import Derived.BigGuard





namespace Go.Proofs.YteknmgmdmjmnmaaGreatDoor
open Go.RowKit

set_option linter.unusedSimpArgs false
def rcl (ki : Int) : Int := if ki = 3 ∨ ki = 4 then 2 else if 1 ≤ ki ∧ ki ≤ 6 then 1 else 0
set_option maxHeartbeats 1000000 in
theorem rclass12 (ki : Int) (hki : 0 ≤ ki ∧ ki ≤ 6) (w : World) : Calls Tryz.prog 120 #[.int .i64 ki] w fun e w' => e = .returned (.int .i64 (rcl ki)) ∧ w' = w := by
  have hkk : ki = 0 ∨ ki = 1 ∨ ki = 2 ∨ ki = 3 ∨ ki = 4 ∨ ki = 5 ∨ ki = 6 := by omega
  clear hki
  rcases hkk with rfl | rfl | rfl | rfl | rfl | rfl | rfl
  all_goals
    go_enter Tryz.func120, Tryz.ntmps120
    go_wp2_with fail
    go_ret
    exact ⟨rfl, rfl⟩
set_option maxHeartbeats 1000000 in
theorem rall0 (c : Int) (A : Option Addr) (cc : Nat) (w : World) :
    Calls Tryz.prog 119 #[.int .i64 c, .slice A 0 cc] w fun e w' => e = .returned (.int .i64 0) ∧ Below w.heap.size w w' := by
  go_enter Tryz.func119, Tryz.ntmps119
  go_wp2_with fail
  go_loopw [5] (fun i wr => i = .int .i64 0 ∧ Below w.heap.size w wr) (fun _ _ => 0)
  case atStart => exact ⟨rfl, Below.refl _ _⟩
  case round =>
    obtain ⟨rfl, hbel⟩ := hrel
    go_wp2_with fail
    go_ret
    exact ⟨rfl, hbel⟩
theorem rcl_kc {t : UInt8} (h : (kdOf t).ki ≠ 0) : rcl (kdOf t).ki = kc t := by
  unfold kc
  have hk := kdOf_ki t
  generalize (kdOf t).ki = i at *
  have h7 : i = 1 ∨ i = 2 ∨ i = 3 ∨ i = 4 ∨ i = 5 ∨ i = 6 := by omega
  rcases h7 with rfl | rfl | rfl | rfl | rfl | rfl <;> decide
theorem kidP_zero {ks : List Nd} (h : kidP 0 ks = false) : ks = [] := by
  cases ks with
  | nil => rfl
  | cons a b => simp [kidP, kins] at h
/-- All at the class of a chunk's form, where its kids are as the form wants them -/
theorem rall12 (x : Ck) (hf : CkFine x) (hp : kidP (kdOf x.t).ki x.ks = false) (K : Option Addr) (k : Nat) (w : World) (h : Nodes w w.heap.size K x.ks) :
    Calls Tryz.prog 119 #[.int .i64 (rcl (kdOf x.t).ki), .slice K x.ks.length k] w fun e w' => e = .returned (.int .i64 ((chkL (kc x.t) x.ks : Nat) : Int)) ∧ Below w.heap.size w w' := by
  by_cases h0 : (kdOf x.t).ki = 0
  · rw [h0] at hp ⊢
    rw [kidP_zero hp]
    exact rall0 _ K k w
  · rw [rcl_kc h0]
    exact rall_any _ (kc_or x.t) K k x.ks w h hf.ks hf.each
theorem fine_sizes9 {x : Ck} (h : CkFine x) : sizes (lens x.ks) ≤ 900000000 := by
  have h1 := sizes_leC (lens x.ks) 800004 (fun y hy => by
    rw [lens_map] at hy
    obtain ⟨n, hn, rfl⟩ := List.mem_map.1 hy
    have := (h.each n hn).vl
    omega)
  rw [lens_len] at h1
  have h2 := Nat.mul_le_mul_right 800007 h.ks
  omega
end Go.Proofs.YteknmgmdmjmnmaaGreatDoor



namespace Go.Proofs.YteknmgmdmjmnmaaGreatDoor
open Go.RowKit

set_option linter.unusedSimpArgs false
set_option maxRecDepth 100000 in
set_option maxHeartbeats 8000000 in
theorem rcheck12 (x : Ck) (hf : CkFine x) (A : Option Addr) (c : Nat) (K : Option Addr) (k : Nat) (w : World) (h : Chunk w w.heap.size A c K k x) :
    Calls Tryz.prog 75 #[ckV x A c K k] w fun e w' => e = .returned (.int .i64 ((chkC x : Nat) : Int)) ∧ Below w.heap.size w w' := by
  have b0 : Below w.heap.size w (w.alloc (.cells (ckCells x A c K k) 62)) := (Below.refl _ w).alloc (Nat.le_refl _) _
  have x0 := CkBox.new w x A c K k
  have hx0 := h.on b0
  have hO := rkof_any x.t
  rw [kV_of] at hO
  have HC : Hid (chkC x = if (kn x.t && mskB x.fl.toNat (kdOf x.t).ms.toNat) = true then 6 else if (kn x.t && !kfitsB (kdOf x.t) (x.d.length : Int)) = true then 7 else if kidP (kdOf x.t).ki x.ks = true then 7 else if cntC x = true then 8 else match cvalO x with
    | some _ => 11
    | none => if chkL (kc x.t) x.ks ≠ 0 then chkL (kc x.t) x.ks else if 65535 < csz x then 4 else 0) := rfl
  have hM := fun h : kn x.t = true => and_all _ (ms_cases h) x.fl.toNat x.fl.toNat_lt
  have hD : ∀ h : kn x.t = true, kfitsB (kdOf x.t) (x.d.length : Int) = true → daB x = false := fun h1 h2 => by unfold daB; rw [h1, h2]; rfl
  have HFT := Lib.hid (fun h : kn x.t = true => fun W => rkfits_any (kdOf x.t) (kdOf_tame h) (x.d.length : Int) W)
  have HWA := Lib.hid (fun (W : World) (hN : Nodes W W.heap.size K x.ks) => rwanted12 (kdOf x.t) (kdOf_ki x.t) x.ks (by have := hf.ks; omega) K k W hN)
  have HCO := Lib.hid (fun (hk : kn x.t = true) (hfit : kfitsB (kdOf x.t) (x.d.length : Int) = true) (W : World) (hN : Lies W W.heap.size A (x.d.map bv)) => rcounted12 x hf.d (fun ht => da_sack (hD hk hfit) ht) A c W hN)
  have HOD := Lib.hid (fun (hk : kn x.t = true) (hfit : kfitsB (kdOf x.t) (x.d.length : Int) = true) (W : World) (hN : Lies W W.heap.size A (x.d.map bv)) => rodd12 x hf.d (fun ht => da_idata (hD hk hfit) ht) (fun ht => da_ifwd (hD hk hfit) ht) A c W hN)
  have HCL := Lib.hid (fun W => rclass12 (kdOf x.t).ki (kdOf_ki x.t) W)
  have HAL := Lib.hid (fun (hp : kidP (kdOf x.t).ki x.ks = false) (W : World) (hN : Nodes W W.heap.size K x.ks) => rall12 x hf hp K k W hN)
  have HSZ := Lib.hid (fun (W : World) (hN : Chunk W W.heap.size A c K k x) => rsize12 x hf (fine_sizes9 hf) A c K k W hN)
  have HKU : Hid (kn x.t = false → (kdOf x.t).ki = 0 ∧ cntC x = false ∧ cvalO x = none) := fun h => by
    refine ⟨by rw [kdOf_zero h]; rfl, ?_, ?_⟩
    · unfold cntC
      rw [decide_eq_false (fun e => by rw [e] at h; exact absurd h (by decide)), Bool.false_and]
    · unfold cvalO
      rw [if_neg (fun e => by rw [e] at h; exact absurd h (by decide)), if_neg (fun e => by rw [e] at h; exact absurd h (by decide))]
  have HOI : Hid (∀ a, cvalO x = some a → 0 ≤ oddI x) := fun a ha => by
    unfold oddI
    rw [ha]
    unfold cvalO at ha
    simp only []
    split at ha
    · split at ha
      · cases ha; omega
      · cases ha
    · split at ha
      · split at ha
        · cases ha; omega
        · cases ha
      · cases ha
  have HON : Hid (cvalO x = none → oddI x = -1) := fun ha => by unfold oddI; rw [ha]
  clear hD
  have hfd := hf.d
  have hfk := hf.ks
  clear hf
  generalize kdOf x.t = f at *
  generalize kn x.t = kb at *
  generalize cntC x = cb at *
  generalize cvalO x = ov at *
  generalize oddI x = oi at *
  generalize chkL (kc x.t) x.ks = ca at *
  generalize csz x = sz at *
  generalize chkC x = res at *
  obtain ⟨ty, nm, mk, lo, hi, un, ki⟩ := f
  unfold Kd.val at hO HFT HWA
  simp only [] at hO hM HFT HWA HCL HAL HC HKU
  generalize kfitsB ⟨ty, nm, mk, lo, hi, un, ki⟩ (x.d.length : Int) = fb at *
  generalize hkp : kidP ki x.ks = kp at *
  obtain ⟨q0, q1, q2, q3⟩ := x0.cs
  have HK0 : Hid (ki = 0 → (0 < x.ks.length → kp = true) ∧ (x.ks.length = 0 → kp = false)) := fun h => by
    subst h
    rw [← hkp]
    cases hks : x.ks with
    | nil => exact ⟨fun h => absurd h (by simp), fun _ => by decide⟩
    | cons a b => exact ⟨fun _ => by simp [kidP, kins], fun h => by simp at h⟩
  clear hkp
  cases kb with
  | false =>
    obtain ⟨rfl, rfl, rfl⟩ := HKU.out rfl
    clear hM HFT HCO HOD HKU HOI HON
    by_cases hl : 0 < x.ks.length
    · have e := (HK0.out rfl).1 hl
      subst e
      have HR : Hid (res = 7) := HC.out
      have hl' : (0 : Int) < (x.ks.length : Int) := by omega
      clear HC HK0 HAL
      have hl3 : ¬ x.ks = [] := fun e => by rw [e] at hl; simp at hl
      go_enter Tryz.func75, Tryz.ntmps75
      go_wp2_with fail
      generalize w.alloc (.cells (ckCells x A c K k) 62) = w0 at *
      refine (hO _).mono ?_
      rintro e w1 ⟨rfl, b1⟩
      have hW1 := Whole.new w1 177 #[bv ty, .string nm, bv mk, .int .i64 lo, .int .i64 hi, .int .i64 un, .int .i64 0]
      have b2 := b1.alloc b1.size (.cells #[bv ty, .string nm, bv mk, .int .i64 lo, .int .i64 hi, .int .i64 un, .int .i64 0] 177)
      have hb2 := b0.trans (b2.mono b0.size)
      have x2 := x0.below b2
      have y2 := hx0.on b2
      clear q0 q1 q2 q3
      obtain ⟨q0, q1, q2, q3⟩ := x2.cs
      obtain ⟨d0, d1, d2, d3, d4, d5, d6⟩ := hW1.kd7
      have hs2 : w1.heap.size < (w1.alloc (.cells #[bv ty, .string nm, bv mk, .int .i64 lo, .int .i64 hi, .int .i64 un, .int .i64 0] 177)).heap.size := by simp
      go_wp2_with fail
      try generalize w1.alloc (.cells #[bv ty, .string nm, bv mk, .int .i64 lo, .int .i64 hi, .int .i64 un, .int .i64 0] 177) = w2 at *
      go_ret
      exact ⟨by rw [HR.out]; rfl, hb2⟩
    · have e := (HK0.out rfl).2 (by omega)
      subst e
      have hl' : ¬ (0 : Int) < (x.ks.length : Int) := by omega
      have hl3 : (x.ks = []) = True := eq_true (List.eq_nil_of_length_eq_zero (by omega))
      have HL9 : Hid (x.ks.length = 0) := by unfold Hid; omega
      clear HK0 hl hl'
      go_enter Tryz.func75, Tryz.ntmps75
      go_wp2_with fail
      generalize w.alloc (.cells (ckCells x A c K k) 62) = w0 at *
      refine (hO _).mono ?_
      rintro e w1 ⟨rfl, b1⟩
      have hW1 := Whole.new w1 177 #[bv ty, .string nm, bv mk, .int .i64 lo, .int .i64 hi, .int .i64 un, .int .i64 0]
      have b2 := b1.alloc b1.size (.cells #[bv ty, .string nm, bv mk, .int .i64 lo, .int .i64 hi, .int .i64 un, .int .i64 0] 177)
      have hb2 := b0.trans (b2.mono b0.size)
      have x2 := x0.below b2
      have y2 := hx0.on b2
      clear q0 q1 q2 q3
      obtain ⟨q0, q1, q2, q3⟩ := x2.cs
      obtain ⟨d0, d1, d2, d3, d4, d5, d6⟩ := hW1.kd7
      have hs2 : w1.heap.size < (w1.alloc (.cells #[bv ty, .string nm, bv mk, .int .i64 lo, .int .i64 hi, .int .i64 un, .int .i64 0] 177)).heap.size := by simp
      go_wp2_with fail
      · exact absurd (by assumption) (by have := HL9.out; omega)
      try generalize w1.alloc (.cells #[bv ty, .string nm, bv mk, .int .i64 lo, .int .i64 hi, .int .i64 un, .int .i64 0] 177) = w2 at *
      have KS : Hid (∀ W, Below w2.heap.size w2 W → W.cell? ⟨w1.heap.size, 6, none⟩ = some (.int .i64 0) ∧ W.cell? ⟨w.heap.size, 3, none⟩ = some (.slice K x.ks.length k)) := fun W hW => ⟨(Whole.below hW1 hW (Whole.lt hW1)).kd7.2.2.2.2.2.2, (x2.below hW).c3⟩
      have HAW : Hid (∀ W, Below w2.heap.size w2 W → Calls Tryz.prog 119 #[.int .i64 (rcl 0), .slice K x.ks.length k] W fun e w' => e = .returned (.int .i64 (ca : Int)) ∧ Below w2.heap.size w2 w') := fun W hW => (HAL.out (by first | exact rfl | trivial) W (y2.kids.on hW)).mono fun e w' h => ⟨h.1, hW.trans (h.2.mono hW.size)⟩
      go_region_held3 (fun W => W.cell? ⟨w1.heap.size, 6, none⟩ = some (.int .i64 0) ∧ W.cell? ⟨w.heap.size, 3, none⟩ = some (.slice K x.ks.length k))
        (first | exact KS.out _ (below_drew (Below.refl _ _)) | exact KS.out _ b3 | go_keep | fail)
        (first
        | (go_at_call 120; (with_reducible refine (HCL.out _).mono ?_); rintro e w9 ⟨rfl, rfl⟩)
        | (go_at_call 119; (with_reducible refine (HAW.out _ (below_drew (Below.refl _ _))).mono ?_); rintro e w3 ⟨rfl, b3⟩)
        | fail)
      have hb3 := hb2.trans (b3.mono hb2.size)
      have hW2 := Whole.below hW1 b3 (Whole.lt hW1)
      have x3 := x2.below b3
      have y3 := y2.on b3
      clear q0 q1 q2 q3 d0 d1 d2 d3 d4 d5 d6
      obtain ⟨q0, q1, q2, q3⟩ := x3.cs
      obtain ⟨d0, d1, d2, d3, d4, d5, d6⟩ := hW2.kd7
      by_cases hca : ca = 0
      · subst hca
        go_wp2_with fail
        refine (HSZ.out _ y3).mono ?_
        rintro e w4 ⟨rfl, b4⟩
        have hb4 := hb3.trans (b4.mono hb3.size)
        have hW3 := Whole.below hW2 b4 (Whole.lt hW2)
        have x4 := x3.below b4
        have y4 := y3.on b4
        clear q0 q1 q2 q3 d0 d1 d2 d3 d4 d5 d6
        obtain ⟨q0, q1, q2, q3⟩ := x4.cs
        obtain ⟨d0, d1, d2, d3, d4, d5, d6⟩ := hW3.kd7
        by_cases hsz : 65535 < sz
        · skip
          have HR : Hid (res = 4) := by unfold Hid; rw [HC.out]; simp [hsz]
          have g1 : (65535 : Int) < (sz : Int) := by omega
          clear hsz
          clear HC
          go_wp2_with fail
          go_ret
          exact ⟨by rw [HR.out]; rfl, hb4⟩
        · skip
          have HR : Hid (res = 0) := by unfold Hid; rw [HC.out]; simp [hsz]
          have g1 : ¬ (65535 : Int) < (sz : Int) := by omega
          clear hsz
          clear HC
          go_wp2_with fail
          go_ret
          exact ⟨by rw [HR.out]; rfl, hb4⟩
      · skip
        have HR : Hid (res = ca) := by unfold Hid; rw [HC.out]; simp [hca]
        have g1 : ((ca : Int) != 0) = true := by rw [bne_iff_ne]; omega
        clear hca
        clear HC
        go_wp2_with fail
        go_ret
        exact ⟨by rw [HR.out]; rfl, hb3⟩
  | true =>
    have hm0 := hM rfl
    have w5 : wrap64 (x.fl.toNat : Int) = (x.fl.toNat : Int) := by have := x.fl.toNat_lt; unfold wrap64; omega
    have w6 : wrap64 (mk.toNat : Int) = (mk.toNat : Int) := by have := mk.toNat_lt; unfold wrap64; omega
    have w7 : wrap64 (255 - (mk.toNat : Int)) = 255 - (mk.toNat : Int) := by have := mk.toNat_lt; unfold wrap64; omega
    have hm : (bits BinOp.and IntKind.i64 (wrap64 (x.fl.toNat : Int)) (wrap64 (255 - wrap64 (mk.toNat : Int))) != 0) = mskB x.fl.toNat mk.toNat := by rw [w6, w7, w5]; exact hm0
    clear w5 w6 w7 hm0
    generalize mskB x.fl.toNat mk.toNat = mb at *
    clear hM HKU HK0
    cases mb with
    | true =>
      have HR : Hid (res = 6) := HC.out
      clear HC HOI HON
      go_enter Tryz.func75, Tryz.ntmps75
      go_wp2_with fail
      generalize w.alloc (.cells (ckCells x A c K k) 62) = w0 at *
      refine (hO _).mono ?_
      rintro e w1 ⟨rfl, b1⟩
      have hW1 := Whole.new w1 177 #[bv ty, .string nm, bv mk, .int .i64 lo, .int .i64 hi, .int .i64 un, .int .i64 ki]
      have b2 := b1.alloc b1.size (.cells #[bv ty, .string nm, bv mk, .int .i64 lo, .int .i64 hi, .int .i64 un, .int .i64 ki] 177)
      have hb2 := b0.trans (b2.mono b0.size)
      have x2 := x0.below b2
      have y2 := hx0.on b2
      clear q0 q1 q2 q3
      obtain ⟨q0, q1, q2, q3⟩ := x2.cs
      obtain ⟨d0, d1, d2, d3, d4, d5, d6⟩ := hW1.kd7
      have hs2 : w1.heap.size < (w1.alloc (.cells #[bv ty, .string nm, bv mk, .int .i64 lo, .int .i64 hi, .int .i64 un, .int .i64 ki] 177)).heap.size := by simp
      go_wp2_with fail
      try generalize w1.alloc (.cells #[bv ty, .string nm, bv mk, .int .i64 lo, .int .i64 hi, .int .i64 un, .int .i64 ki] 177) = w2 at *
      go_ret
      exact ⟨by rw [HR.out]; rfl, hb2⟩
    | false =>
      go_enter Tryz.func75, Tryz.ntmps75
      go_wp2_with fail
      generalize w.alloc (.cells (ckCells x A c K k) 62) = w0 at *
      refine (hO _).mono ?_
      rintro e w1 ⟨rfl, b1⟩
      have hW1 := Whole.new w1 177 #[bv ty, .string nm, bv mk, .int .i64 lo, .int .i64 hi, .int .i64 un, .int .i64 ki]
      have b2 := b1.alloc b1.size (.cells #[bv ty, .string nm, bv mk, .int .i64 lo, .int .i64 hi, .int .i64 un, .int .i64 ki] 177)
      have hb2 := b0.trans (b2.mono b0.size)
      have x2 := x0.below b2
      have y2 := hx0.on b2
      clear q0 q1 q2 q3
      obtain ⟨q0, q1, q2, q3⟩ := x2.cs
      obtain ⟨d0, d1, d2, d3, d4, d5, d6⟩ := hW1.kd7
      have hs2 : w1.heap.size < (w1.alloc (.cells #[bv ty, .string nm, bv mk, .int .i64 lo, .int .i64 hi, .int .i64 un, .int .i64 ki] 177)).heap.size := by simp
      go_wp2_with fail
      try generalize w1.alloc (.cells #[bv ty, .string nm, bv mk, .int .i64 lo, .int .i64 hi, .int .i64 un, .int .i64 ki] 177) = w2 at *
      refine (HFT.out (by first | exact rfl | trivial) _).mono ?_
      rintro e w3 ⟨rfl, b3⟩
      have hb3 := hb2.trans (b3.mono hb2.size)
      have hW2 := Whole.below hW1 b3 (Whole.lt hW1)
      have x3 := x2.below b3
      have y3 := y2.on b3
      clear q0 q1 q2 q3 d0 d1 d2 d3 d4 d5 d6
      obtain ⟨q0, q1, q2, q3⟩ := x3.cs
      obtain ⟨d0, d1, d2, d3, d4, d5, d6⟩ := hW2.kd7
      clear hm
      cases fb with
      | false =>
        have HR : Hid (res = 7) := HC.out
        clear HC
        go_wp2_with fail
        go_ret
        exact ⟨by rw [HR.out]; rfl, hb3⟩
      | true =>
        go_wp2_with fail
        refine (HWA.out _ y3.kids).mono ?_
        rintro e w4 ⟨rfl, b4⟩
        have hb4 := hb3.trans (b4.mono hb3.size)
        have hW3 := Whole.below hW2 b4 (Whole.lt hW2)
        have x4 := x3.below b4
        have y4 := y3.on b4
        clear q0 q1 q2 q3 d0 d1 d2 d3 d4 d5 d6
        obtain ⟨q0, q1, q2, q3⟩ := x4.cs
        obtain ⟨d0, d1, d2, d3, d4, d5, d6⟩ := hW3.kd7
        cases kp with
        | true =>
          have HR : Hid (res = 7) := HC.out
          clear HC
          go_wp2_with fail
          go_ret
          exact ⟨by rw [HR.out]; rfl, hb4⟩
        | false =>
          go_wp2_with fail
          refine (HCO.out (by first | exact rfl | trivial) (by first | exact rfl | trivial) _ y4.data).mono ?_
          rintro e w5 ⟨rfl, b5⟩
          have hb5 := hb4.trans (b5.mono hb4.size)
          have hW4 := Whole.below hW3 b5 (Whole.lt hW3)
          have x5 := x4.below b5
          have y5 := y4.on b5
          clear q0 q1 q2 q3 d0 d1 d2 d3 d4 d5 d6
          obtain ⟨q0, q1, q2, q3⟩ := x5.cs
          obtain ⟨d0, d1, d2, d3, d4, d5, d6⟩ := hW4.kd7
          cases cb with
          | true =>
            have HR : Hid (res = 8) := HC.out
            clear HC
            go_wp2_with fail
            go_ret
            exact ⟨by rw [HR.out]; rfl, hb5⟩
          | false =>
            go_wp2_with fail
            refine (HOD.out (by first | exact rfl | trivial) (by first | exact rfl | trivial) _ y5.data).mono ?_
            rintro e w6 ⟨rfl, b6⟩
            have hb6 := hb5.trans (b6.mono hb5.size)
            have hW5 := Whole.below hW4 b6 (Whole.lt hW4)
            have x6 := x5.below b6
            have y6 := y5.on b6
            clear q0 q1 q2 q3 d0 d1 d2 d3 d4 d5 d6
            obtain ⟨q0, q1, q2, q3⟩ := x6.cs
            obtain ⟨d0, d1, d2, d3, d4, d5, d6⟩ := hW5.kd7
            cases ov with
            | some a =>
              have HR : Hid (res = 11) := HC.out
              have g0 := HOI.out _ rfl
              clear HC
              go_wp2_with fail
              go_ret
              exact ⟨by rw [HR.out]; rfl, hb6⟩
            | none =>
              have g0 := HON.out rfl
              subst g0
              go_wp2_with fail
              have KS : Hid (∀ W, Below w6.heap.size w6 W → W.cell? ⟨w1.heap.size, 6, none⟩ = some (.int .i64 ki) ∧ W.cell? ⟨w.heap.size, 3, none⟩ = some (.slice K x.ks.length k)) := fun W hW => ⟨(Whole.below hW5 hW (Whole.lt hW5)).kd7.2.2.2.2.2.2, (x6.below hW).c3⟩
              have HAW : Hid (∀ W, Below w6.heap.size w6 W → Calls Tryz.prog 119 #[.int .i64 (rcl ki), .slice K x.ks.length k] W fun e w' => e = .returned (.int .i64 (ca : Int)) ∧ Below w6.heap.size w6 w') := fun W hW => (HAL.out (by first | exact rfl | trivial) W (y6.kids.on hW)).mono fun e w' h => ⟨h.1, hW.trans (h.2.mono hW.size)⟩
              go_region_held3 (fun W => W.cell? ⟨w1.heap.size, 6, none⟩ = some (.int .i64 ki) ∧ W.cell? ⟨w.heap.size, 3, none⟩ = some (.slice K x.ks.length k))
                (first | exact KS.out _ (below_drew (Below.refl _ _)) | exact KS.out _ b7 | go_keep | fail)
                (first
                | (go_at_call 120; (with_reducible refine (HCL.out _).mono ?_); rintro e w9 ⟨rfl, rfl⟩)
                | (go_at_call 119; (with_reducible refine (HAW.out _ (below_drew (Below.refl _ _))).mono ?_); rintro e w7 ⟨rfl, b7⟩)
                | fail)
              have hb7 := hb6.trans (b7.mono hb6.size)
              have hW6 := Whole.below hW5 b7 (Whole.lt hW5)
              have x7 := x6.below b7
              have y7 := y6.on b7
              clear q0 q1 q2 q3 d0 d1 d2 d3 d4 d5 d6
              obtain ⟨q0, q1, q2, q3⟩ := x7.cs
              obtain ⟨d0, d1, d2, d3, d4, d5, d6⟩ := hW6.kd7
              by_cases hca : ca = 0
              · subst hca
                go_wp2_with fail
                refine (HSZ.out _ y7).mono ?_
                rintro e w8 ⟨rfl, b8⟩
                have hb8 := hb7.trans (b8.mono hb7.size)
                have hW7 := Whole.below hW6 b8 (Whole.lt hW6)
                have x8 := x7.below b8
                have y8 := y7.on b8
                clear q0 q1 q2 q3 d0 d1 d2 d3 d4 d5 d6
                obtain ⟨q0, q1, q2, q3⟩ := x8.cs
                obtain ⟨d0, d1, d2, d3, d4, d5, d6⟩ := hW7.kd7
                by_cases hsz : 65535 < sz
                · skip
                  have HR : Hid (res = 4) := by unfold Hid; rw [HC.out]; simp [hsz]
                  have g1 : (65535 : Int) < (sz : Int) := by omega
                  clear hsz
                  clear HC
                  go_wp2_with fail
                  go_ret
                  exact ⟨by rw [HR.out]; rfl, hb8⟩
                · skip
                  have HR : Hid (res = 0) := by unfold Hid; rw [HC.out]; simp [hsz]
                  have g1 : ¬ (65535 : Int) < (sz : Int) := by omega
                  clear hsz
                  clear HC
                  go_wp2_with fail
                  go_ret
                  exact ⟨by rw [HR.out]; rfl, hb8⟩
              · skip
                have HR : Hid (res = ca) := by unfold Hid; rw [HC.out]; simp [hca]
                have g1 : ((ca : Int) != 0) = true := by rw [bne_iff_ne]; omega
                clear hca
                clear HC
                go_wp2_with fail
                go_ret
                exact ⟨by rw [HR.out]; rfl, hb7⟩
end Go.Proofs.YteknmgmdmjmnmaaGreatDoor


