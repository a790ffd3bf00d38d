/- Layer 15: bytesOf (written by tools/gen_init_c.py). It writes nothing that was there. -/
import Derived.Test.YtdcppcoldaaldaaGreatDoorQInitA
import Derived.Test.YtdcppcoldaaldaaGreatDoorQDJ
import Derived.Test.YtdcppcoldaaldaaGreatDoorQNF
import Derived.Deep.RegionHeld3
import Derived.Deep.Cut





namespace Go.Proofs.YtdcppcoldaaldaaGreatDoor
open Go.RowKit

set_option linter.unusedSimpArgs false
theorem parts3 {w : World} (v1 v2 v3 : Value) (p1 p2 p3 : List UInt8) (h1 : IsB w w.heap.size v1 p1) (h2 : IsB w w.heap.size v2 p2) (h3 : IsB w w.heap.size v3 p3) :
    Parts (w.alloc (.cells #[v1, v2, v3] 24)) (w.alloc (.cells #[v1, v2, v3] 24)).heap.size (some ⟨w.heap.size, 0, none⟩) [v1, v2, v3] [p1, p2, p3] := by
  have hb : Below w.heap.size w (w.alloc (.cells #[v1, v2, v3] 24)) := (Below.refl _ w).alloc (Nat.le_refl _) _
  refine ⟨(Lies.newN w [v1, v2, v3] _).more (by simp), rfl, fun i p hp => ?_⟩
  match i, hp with
  | 0, hp => simp only [List.getElem?_cons_zero, Option.some.injEq] at hp; subst hp; exact ⟨_, rfl, h1.up13 hb⟩
  | 1, hp => simp only [List.getElem?_cons_succ, List.getElem?_cons_zero, Option.some.injEq] at hp; subst hp; exact ⟨_, rfl, h2.up13 hb⟩
  | 2, hp => simp only [List.getElem?_cons_succ, List.getElem?_cons_zero, Option.some.injEq] at hp; subst hp; exact ⟨_, rfl, h3.up13 hb⟩
  | i + 3, hp => simp at hp
/-- three parts in a new row, joined -/
theorem djoin3_any (v1 v2 v3 : Value) (p1 p2 p3 : List UInt8) (w : World) (h1 : IsB w w.heap.size v1 p1) (h2 : IsB w w.heap.size v2 p2) (h3 : IsB w w.heap.size v3 p3) (n : Nat) (hn : p1.length + p2.length + p3.length = n) (hm : n ≤ 100000) :
    Calls Tryz.prog 83 #[.slice (some ⟨w.heap.size, 0, none⟩) 3 3] (w.alloc (.cells #[v1, v2, v3] 24)) fun e w' =>
      ∃ A' c', e = .returned (.slice A' n c') ∧ w'.ownsRow w.heap.size 5 1 (.slice A' n c') n ((p1 ++ p2 ++ p3).map bv) ∧ Below w.heap.size w w' := by
  have hP := parts3 _ _ _ _ _ _ h1 h2 h3
  have ht : tot [p1, p2, p3] = n := by unfold tot; simp; omega
  refine (join_any _ 3 _ _ _ hP (by simp [maxLen]) (by rw [ht]; omega)).mono ?_
  rintro e w' ⟨A', c', rfl, hown, hb⟩
  rw [ht] at hown ⊢
  have e3 : [p1, p2, p3].flatten = p1 ++ p2 ++ p3 := by simp
  rw [e3] at hown
  exact ⟨A', c', rfl, own_base hown (by simp), ((Below.refl _ w).alloc (Nat.le_refl _) _).trans (hb.mono (by simp))⟩
set_option maxRecDepth 100000 in
set_option maxHeartbeats 16000000 in
theorem ibytes_any (v : Vl) (w : World) : Calls Tryz.prog 108 #[vlV v] w fun e w' => ∃ A' c', e = .returned (.slice A' 16 c') ∧ w'.ownsRow w.heap.size 5 1 (.slice A' 16 c') 16 ((vlB v).map bv) ∧ Below w.heap.size w w' := by
  obtain ⟨tg, wd, ou, ii, ts⟩ := v
  have b0 : Below w.heap.size w (w.alloc (.cells #[uv tg, uv wd, hv ou, hv ii, uv ts] 80)) := (Below.refl _ w).alloc (Nat.le_refl _) _
  have x0 := Whole.new w 80 #[uv tg, uv wd, hv ou, hv ii, uv ts]
  have hz : w.heap.size < (w.alloc (.cells #[uv tg, uv wd, hv ou, hv ii, uv ts] 80)).heap.size := by simp
  have est : ∀ s : UInt16, Value.int .u32 (IntKind.u32.wrap (s.toNat : Int)) = uv (u32of s.toNat) := fun s => by
    have := s.toNat_lt
    rw [uv, u32of_toNat (by omega), IntKind.wrap_u32]
    congr 1
    omega
  have est2 := est ii
  have est1 := est ou
  have hvl : vlB ⟨tg, wd, ou, ii, ts⟩ = puts 4 [tg, wd] ++ puts 2 [u32of ou.toNat, u32of ii.toNat] ++ puts 4 [ts] := rfl
  have HV := Lib.hid hvl
  clear est hvl
  go_enter Tryz.func108, Tryz.ntmps108
  go_upto_region 1 with fail
  generalize w.alloc (.cells #[uv tg, uv wd, hv ou, hv ii, uv ts] 80) = wa at *
  have HB := Lib.hid b0
  have KS : Hid (∀ W, Below (w.heap.size + 1) wa W → W.cell? ⟨w.heap.size, 0, none⟩ = some (uv tg) ∧ W.cell? ⟨w.heap.size, 1, none⟩ = some (uv wd) ∧ W.cell? ⟨w.heap.size, 2, none⟩ = some (hv ou) ∧ W.cell? ⟨w.heap.size, 3, none⟩ = some (hv ii) ∧ W.cell? ⟨w.heap.size, 4, none⟩ = some (uv ts)) := fun W hW => (x0.below hW (by omega)).cs5
  have hs0 : w.heap.size + 1 ≤ wa.heap.size := hz
  clear x0 b0 hz
  refine wp_region_held_drew (S := (fun W => W.cell? ⟨w.heap.size, 0, none⟩ = some (uv tg) ∧ W.cell? ⟨w.heap.size, 1, none⟩ = some (uv wd) ∧ W.cell? ⟨w.heap.size, 2, none⟩ = some (hv ou) ∧ W.cell? ⟨w.heap.size, 3, none⟩ = some (hv ii) ∧ W.cell? ⟨w.heap.size, 4, none⟩ = some (uv ts))) (by kernel_rfl) (KS.out _ (below_drew (Below.refl _ _))) (fun hHeld => ?_)
  refine take_at (i := 0) (v := ?_) (some 3) rfl (by kernel_rfl) (by kernel_rfl) (by kernel_rfl) (fun _ _ _ h => h) (by kernel_rfl) (Or.inl ⟨by kernel_rfl, ?_⟩) (by assumption) ?_
  rotate_left
  · (intro w hSw; (try dsimp only at hSw); go_simp <;> with_reducible rfl)
  simp only [Act.put, List.setIfInBounds_toArray, List.set_cons_zero, List.set_cons_succ]
  refine take_at (i := 1) (v := ?_) (some 4) rfl (by kernel_rfl) (by kernel_rfl) (by kernel_rfl) (fun _ _ _ h => h) (by kernel_rfl) (Or.inl ⟨by kernel_rfl, ?_⟩) (by assumption) ?_
  rotate_left
  · (intro w hSw; (try dsimp only at hSw); go_simp <;> with_reducible rfl)
  simp only [Act.put, List.setIfInBounds_toArray, List.set_cons_zero, List.set_cons_succ]
  refine take_at (i := 2) (v := ?_) (some 5) rfl (by kernel_rfl) (by kernel_rfl) (by kernel_rfl) (fun _ _ _ h => h) (by kernel_rfl) (Or.inl ⟨by kernel_rfl, ?_⟩) (by assumption) ?_
  rotate_left
  · (intro w hSw; (try dsimp only at hSw); go_simp <;> with_reducible rfl)
  simp only [Act.put, List.setIfInBounds_toArray, List.set_cons_zero, List.set_cons_succ]
  refine take_at (i := 3) (v := ?_) (some 6) rfl (by kernel_rfl) (by kernel_rfl) (by kernel_rfl) (fun _ _ _ h => h) (by kernel_rfl) (Or.inl ⟨by kernel_rfl, ?_⟩) (by assumption) ?_
  rotate_left
  · (intro w hSw; (try dsimp only at hSw); go_simp <;> with_reducible rfl)
  simp only [Act.put, List.setIfInBounds_toArray, List.set_cons_zero, List.set_cons_succ]
  refine take_at (i := 6) (v := ?_) (some 9) rfl (by kernel_rfl) (by kernel_rfl) (by kernel_rfl) (fun _ _ _ h => h) (by kernel_rfl) (Or.inl ⟨by kernel_rfl, ?_⟩) (by assumption) ?_
  rotate_left
  · (intro w hSw; (try dsimp only at hSw); go_simp <;> with_reducible rfl)
  simp only [Act.put, List.setIfInBounds_toArray, List.set_cons_zero, List.set_cons_succ]
  refine take_at (i := 7) (v := ?_) (some 10) rfl (by kernel_rfl) (by kernel_rfl) (by kernel_rfl) (fun _ _ _ h => h) (by kernel_rfl) (Or.inl ⟨by kernel_rfl, ?_⟩) (by assumption) ?_
  rotate_left
  · (intro w hSw; (try dsimp only at hSw); go_simp <;> with_reducible rfl)
  simp only [Act.put, List.setIfInBounds_toArray, List.set_cons_zero, List.set_cons_succ]
  refine take_at (i := 8) (v := ?_) (some 11) rfl (by kernel_rfl) (by kernel_rfl) (by kernel_rfl) (fun _ _ _ h => h) (by kernel_rfl) (Or.inl ⟨by kernel_rfl, ?_⟩) (by assumption) ?_
  rotate_left
  · (intro w hSw; (try dsimp only at hSw); go_simp <;> with_reducible rfl)
  simp only [Act.put, List.setIfInBounds_toArray, List.set_cons_zero, List.set_cons_succ]
  refine take_at (i := 9) (v := ?_) (some 12) rfl (by kernel_rfl) (by kernel_rfl) (by kernel_rfl) (fun _ _ _ h => h) (by kernel_rfl) (Or.inl ⟨by kernel_rfl, ?_⟩) (by assumption) ?_
  rotate_left
  · (intro w hSw; (try dsimp only at hSw); go_simp <;> with_reducible rfl)
  simp only [Act.put, List.setIfInBounds_toArray, List.set_cons_zero, List.set_cons_succ]
  refine take_at (i := 10) (v := ?_) (some 13) rfl (by kernel_rfl) (by kernel_rfl) (by kernel_rfl) (fun _ _ _ h => h) (by kernel_rfl) (Or.inl ⟨by kernel_rfl, ?_⟩) (by assumption) ?_
  rotate_left
  · (intro w hSw; (try dsimp only at hSw); go_simp <;> with_reducible rfl)
  simp only [Act.put, List.setIfInBounds_toArray, List.set_cons_zero, List.set_cons_succ]
  refine take_at (i := 11) (v := ?_) (some 14) rfl (by kernel_rfl) (by kernel_rfl) (by kernel_rfl) (fun _ _ _ h => h) (by kernel_rfl) (Or.inl ⟨by kernel_rfl, ?_⟩) (by assumption) ?_
  rotate_left
  · (intro w hSw; (try dsimp only at hSw); go_simp <;> with_reducible rfl)
  simp only [Act.put, List.setIfInBounds_toArray, List.set_cons_zero, List.set_cons_succ]
  refine take_at (i := 14) (v := ?_) (some 17) rfl (by kernel_rfl) (by kernel_rfl) (by kernel_rfl) (fun _ _ _ h => h) (by kernel_rfl) (Or.inl ⟨by kernel_rfl, ?_⟩) (by assumption) ?_
  rotate_left
  · (intro w hSw; (try dsimp only at hSw); go_simp <;> with_reducible rfl)
  simp only [Act.put, List.setIfInBounds_toArray, List.set_cons_zero, List.set_cons_succ]
  refine take_at (i := 15) (v := ?_) (some 18) rfl (by kernel_rfl) (by kernel_rfl) (by kernel_rfl) (fun _ _ _ h => h) (by kernel_rfl) (Or.inl ⟨by kernel_rfl, ?_⟩) (by assumption) ?_
  rotate_left
  · (intro w hSw; (try dsimp only at hSw); go_simp <;> with_reducible rfl)
  simp only [Act.put, List.setIfInBounds_toArray, List.set_cons_zero, List.set_cons_succ]
  refine wpAnyH_ready (rs := [4, 12, 16]) (by kernel_rfl) (by simp) ?_
  refine AllReadyH.cons rfl (fun K hK => ?_) (AllReadyH.cons rfl (fun K hK => ?_) (AllReadyH.cons rfl (fun K hK => ?_) AllReadyH.nil))
  · go_simp
    have b4 : Below wa.heap.size wa (wa.alloc (.cells #[uv tg, uv wd] 22)).drew := below_drew ((Below.refl _ _).alloc (Nat.le_refl _) _)
    have L1_4 : Lies (wa.alloc (.cells #[uv tg, uv wd] 22)).drew (wa.alloc (.cells #[uv tg, uv wd] 22)).drew.heap.size (some ⟨wa.heap.size, 0, none⟩) ([tg, wd].map uv) := ((lies_new wa [tg, wd]).below (below_drew (Below.refl _ _))).more (by show _ ≤ (wa.alloc _).heap.size; simp)
    have R4 : Below (w.heap.size + 1) wa (wa.alloc (.cells #[uv tg, uv wd] 22)).drew := (Below.refl _ _).trans (b4.mono hs0)
    have hs4 : w.heap.size + 1 ≤ (wa.alloc (.cells #[uv tg, uv wd] 22)).drew.heap.size := Nat.le_trans hs0 b4.size
    generalize (wa.alloc (.cells #[uv tg, uv wd] 22)).drew = w4 at *
    clear hHeld
    refine hK.out _ _ (KS.out _ R4) (fun hHeld => ?_)
    clear hK K
    try simp only [Act.put, List.setIfInBounds_toArray, List.set_cons_zero, List.set_cons_succ]
    refine wpAnyH_ready (rs := [5, 12, 16]) (by kernel_rfl) (by simp) ?_
    refine AllReadyH.cons rfl (fun K hK => ?_) (AllReadyH.cons rfl (fun K hK => ?_) (AllReadyH.cons rfl (fun K hK => ?_) AllReadyH.nil))
    · have hP4_5 : Calls Tryz.prog 86 #[.int .i64 4, .slice (some ⟨wa.heap.size, 0, none⟩) 2 2] w4 fun e w' => ∃ A' c', e = .returned (.slice A' 8 c') ∧ IsB w' w'.heap.size (.slice A' 8 c') (puts 4 [tg, wd]) ∧ Below w4.heap.size w4 w' := dput_lies 4 (.inr (.inr rfl)) _ [tg, wd] (by simp) w4 L1_4
      go_simp
      go_at_call 86; (with_reducible refine hP4_5.mono ?_); rintro e w4_5 ⟨A1_4_5, c1_4_5, rfl, I1_4_5, b4_5⟩
      go_wp2_with fail
      have R4_5 : Below (w.heap.size + 1) wa w4_5 := R4.trans (b4_5.mono hs4)
      have hs4_5 : w.heap.size + 1 ≤ w4_5.heap.size := Nat.le_trans hs4 b4_5.size
      clear hP4_5
      clear hHeld
      refine hK.out _ _ (KS.out _ R4_5) (fun hHeld => ?_)
      clear hK K
      try simp only [Act.put, List.setIfInBounds_toArray, List.set_cons_zero, List.set_cons_succ]
      refine wpAnyH_ready (rs := [12, 16]) (by kernel_rfl) (by simp) ?_
      refine AllReadyH.cons rfl (fun K hK => ?_) (AllReadyH.cons rfl (fun K hK => ?_) AllReadyH.nil)
      · go_simp
        try rw [est1, est2]
        have b4_5_12 : Below w4_5.heap.size w4_5 (w4_5.alloc (.cells #[uv (u32of ou.toNat), uv (u32of ii.toNat)] 22)) := (Below.refl _ _).alloc (Nat.le_refl _) _
        have L2_4_5_12 : Lies (w4_5.alloc (.cells #[uv (u32of ou.toNat), uv (u32of ii.toNat)] 22)) (w4_5.alloc (.cells #[uv (u32of ou.toNat), uv (u32of ii.toNat)] 22)).heap.size (some ⟨w4_5.heap.size, 0, none⟩) ([u32of ou.toNat, u32of ii.toNat].map uv) := (lies_new w4_5 [u32of ou.toNat, u32of ii.toNat]).more (by simp)
        have I1_4_5_12 := I1_4_5.up13 b4_5_12
        have R4_5_12 : Below (w.heap.size + 1) wa (w4_5.alloc (.cells #[uv (u32of ou.toNat), uv (u32of ii.toNat)] 22)) := R4_5.trans (b4_5_12.mono hs4_5)
        have hs4_5_12 : w.heap.size + 1 ≤ (w4_5.alloc (.cells #[uv (u32of ou.toNat), uv (u32of ii.toNat)] 22)).heap.size := Nat.le_trans hs4_5 b4_5_12.size
        generalize (w4_5.alloc (.cells #[uv (u32of ou.toNat), uv (u32of ii.toNat)] 22)) = w4_5_12 at *
        clear hHeld
        refine hK.out _ _ (KS.out _ R4_5_12) (fun hHeld => ?_)
        clear hK K
        try simp only [Act.put, List.setIfInBounds_toArray, List.set_cons_zero, List.set_cons_succ]
        refine wpAnyH_ready (rs := [13, 16]) (by kernel_rfl) (by simp) ?_
        refine AllReadyH.cons rfl (fun K hK => ?_) (AllReadyH.cons rfl (fun K hK => ?_) AllReadyH.nil)
        · have hP4_5_12_13 : Calls Tryz.prog 86 #[.int .i64 2, .slice (some ⟨w4_5.heap.size, 0, none⟩) 2 2] w4_5_12 fun e w' => ∃ A' c', e = .returned (.slice A' 4 c') ∧ IsB w' w'.heap.size (.slice A' 4 c') (puts 2 [u32of ou.toNat, u32of ii.toNat]) ∧ Below w4_5_12.heap.size w4_5_12 w' := dput_lies 2 (.inr (.inl rfl)) _ [u32of ou.toNat, u32of ii.toNat] (by simp) w4_5_12 L2_4_5_12
          go_simp
          go_at_call 86; (with_reducible refine hP4_5_12_13.mono ?_); rintro e w4_5_12_13 ⟨A2_4_5_12_13, c2_4_5_12_13, rfl, I2_4_5_12_13, b4_5_12_13⟩
          go_wp2_with fail
          have I1_4_5_12_13 := I1_4_5_12.up13 b4_5_12_13
          have R4_5_12_13 : Below (w.heap.size + 1) wa w4_5_12_13 := R4_5_12.trans (b4_5_12_13.mono hs4_5_12)
          have hs4_5_12_13 : w.heap.size + 1 ≤ w4_5_12_13.heap.size := Nat.le_trans hs4_5_12 b4_5_12_13.size
          clear hP4_5_12_13
          clear hHeld
          refine hK.out _ _ (KS.out _ R4_5_12_13) (fun hHeld => ?_)
          clear hK K
          try simp only [Act.put, List.setIfInBounds_toArray, List.set_cons_zero, List.set_cons_succ]
          refine wpAnyH_ready (rs := [16]) (by kernel_rfl) (by simp) ?_
          refine AllReadyH.cons rfl (fun K hK => ?_) AllReadyH.nil
          go_simp
          have b4_5_12_13_16 : Below w4_5_12_13.heap.size w4_5_12_13 (w4_5_12_13.alloc (.cells #[uv ts] 22)) := (Below.refl _ _).alloc (Nat.le_refl _) _
          have L3_4_5_12_13_16 : Lies (w4_5_12_13.alloc (.cells #[uv ts] 22)) (w4_5_12_13.alloc (.cells #[uv ts] 22)).heap.size (some ⟨w4_5_12_13.heap.size, 0, none⟩) ([ts].map uv) := (lies_new w4_5_12_13 [ts]).more (by simp)
          have I1_4_5_12_13_16 := I1_4_5_12_13.up13 b4_5_12_13_16
          have I2_4_5_12_13_16 := I2_4_5_12_13.up13 b4_5_12_13_16
          have R4_5_12_13_16 : Below (w.heap.size + 1) wa (w4_5_12_13.alloc (.cells #[uv ts] 22)) := R4_5_12_13.trans (b4_5_12_13_16.mono hs4_5_12_13)
          have hs4_5_12_13_16 : w.heap.size + 1 ≤ (w4_5_12_13.alloc (.cells #[uv ts] 22)).heap.size := Nat.le_trans hs4_5_12_13 b4_5_12_13_16.size
          generalize (w4_5_12_13.alloc (.cells #[uv ts] 22)) = w4_5_12_13_16 at *
          clear hHeld
          refine hK.out _ _ (KS.out _ R4_5_12_13_16) (fun hHeld => ?_)
          clear hK K
          try simp only [Act.put, List.setIfInBounds_toArray, List.set_cons_zero, List.set_cons_succ]
          refine wpAnyH_ready (rs := [17]) (by kernel_rfl) (by simp) ?_
          refine AllReadyH.cons rfl (fun K hK => ?_) AllReadyH.nil
          have hP4_5_12_13_16_17 : Calls Tryz.prog 86 #[.int .i64 4, .slice (some ⟨w4_5_12_13.heap.size, 0, none⟩) 1 1] w4_5_12_13_16 fun e w' => ∃ A' c', e = .returned (.slice A' 4 c') ∧ IsB w' w'.heap.size (.slice A' 4 c') (puts 4 [ts]) ∧ Below w4_5_12_13_16.heap.size w4_5_12_13_16 w' := dput_lies 4 (.inr (.inr rfl)) _ [ts] (by simp) w4_5_12_13_16 L3_4_5_12_13_16
          go_simp
          go_at_call 86; (with_reducible refine hP4_5_12_13_16_17.mono ?_); rintro e w4_5_12_13_16_17 ⟨A3_4_5_12_13_16_17, c3_4_5_12_13_16_17, rfl, I3_4_5_12_13_16_17, b4_5_12_13_16_17⟩
          go_wp2_with fail
          have I1_4_5_12_13_16_17 := I1_4_5_12_13_16.up13 b4_5_12_13_16_17
          have I2_4_5_12_13_16_17 := I2_4_5_12_13_16.up13 b4_5_12_13_16_17
          have R4_5_12_13_16_17 : Below (w.heap.size + 1) wa w4_5_12_13_16_17 := R4_5_12_13_16.trans (b4_5_12_13_16_17.mono hs4_5_12_13_16)
          have hs4_5_12_13_16_17 : w.heap.size + 1 ≤ w4_5_12_13_16_17.heap.size := Nat.le_trans hs4_5_12_13_16 b4_5_12_13_16_17.size
          clear hP4_5_12_13_16_17
          clear hHeld
          refine hK.out _ _ (KS.out _ R4_5_12_13_16_17) (fun hHeld => ?_)
          clear hK K
          try simp only [Act.put, List.setIfInBounds_toArray, List.set_cons_zero, List.set_cons_succ]
          refine wpAnyH_ready (rs := [18]) (by kernel_rfl) (by simp) ?_
          refine AllReadyH.cons rfl (fun K hK => ?_) AllReadyH.nil
          go_simp
          clear hHeld
          refine hK.out _ _ (KS.out _ (R4_5_12_13_16_17.alloc hs4_5_12_13_16_17 _)) (fun hHeld => ?_)
          clear hK K
          try simp only [Act.put, List.setIfInBounds_toArray, List.set_cons_zero, List.set_cons_succ]
          refine wpAnyH_ready (rs := [19]) (by kernel_rfl) (by simp) ?_
          refine AllReadyH.cons rfl (fun K hK => ?_) AllReadyH.nil
          have hJ : ∀ v1 v2 v3, IsB w4_5_12_13_16_17 w4_5_12_13_16_17.heap.size v1 (puts 4 [tg, wd]) → IsB w4_5_12_13_16_17 w4_5_12_13_16_17.heap.size v2 (puts 2 [u32of ou.toNat, u32of ii.toNat]) → IsB w4_5_12_13_16_17 w4_5_12_13_16_17.heap.size v3 (puts 4 [ts]) → Calls Tryz.prog 83 #[.slice (some ⟨w4_5_12_13_16_17.heap.size, 0, none⟩) 3 3] (w4_5_12_13_16_17.alloc (.cells #[v1, v2, v3] 24)) fun e w' => ∃ A' c', e = .returned (.slice A' 16 c') ∧ w'.ownsRow w4_5_12_13_16_17.heap.size 5 1 (.slice A' 16 c') 16 ((puts 4 [tg, wd] ++ puts 2 [u32of ou.toNat, u32of ii.toNat] ++ puts 4 [ts]).map bv) ∧ Below w4_5_12_13_16_17.heap.size w4_5_12_13_16_17 w' := fun v1 v2 v3 h1 h2 h3 => djoin3_any v1 v2 v3 _ _ _ w4_5_12_13_16_17 h1 h2 h3 16 (by simp [puts_len]) (by omega)
          go_simp
          go_at_call 83; (with_reducible refine (hJ _ _ _ I1_4_5_12_13_16_17 I2_4_5_12_13_16_17 I3_4_5_12_13_16_17).mono ?_); rintro e wz ⟨Az, cz, rfl, iz, bz⟩
          have Rz : Below (w.heap.size + 1) wa wz := R4_5_12_13_16_17.trans (bz.mono hs4_5_12_13_16_17)
          clear hJ
          go_wp2_with fail
          clear hHeld
          refine hK.out _ _ (KS.out _ Rz) (fun hHeld => ?_)
          clear hK K
          try simp only [Act.put, List.setIfInBounds_toArray, List.set_cons_zero, List.set_cons_succ]
          refine take_at (i := 20) (v := ?_) (some 2) rfl (by kernel_rfl) (by kernel_rfl) (by kernel_rfl) (fun _ _ _ h => h) (by kernel_rfl) (Or.inl ⟨by kernel_rfl, ?_⟩) (by assumption) ?_
          rotate_left
          · (intro w hSw; (try dsimp only at hSw); go_simp <;> with_reducible rfl)
          simp only [Act.put, List.setIfInBounds_toArray, List.set_cons_zero, List.set_cons_succ]
          refine wpAnyH_done (by kernel_rfl) ?_ _
          go_wp2_with fail
          go_ret
          rw [HV.out]
          exact ⟨Az, cz, rfl, own_base iz (Nat.le_of_succ_le hs4_5_12_13_16_17), HB.out.trans (Rz.mono (Nat.le_succ _))⟩
        · go_simp
          have b4_5_12_16 : Below w4_5_12.heap.size w4_5_12 (w4_5_12.alloc (.cells #[uv ts] 22)) := (Below.refl _ _).alloc (Nat.le_refl _) _
          have L3_4_5_12_16 : Lies (w4_5_12.alloc (.cells #[uv ts] 22)) (w4_5_12.alloc (.cells #[uv ts] 22)).heap.size (some ⟨w4_5_12.heap.size, 0, none⟩) ([ts].map uv) := (lies_new w4_5_12 [ts]).more (by simp)
          have L2_4_5_12_16 := (L2_4_5_12.below b4_5_12_16).more b4_5_12_16.size
          have I1_4_5_12_16 := I1_4_5_12.up13 b4_5_12_16
          have R4_5_12_16 : Below (w.heap.size + 1) wa (w4_5_12.alloc (.cells #[uv ts] 22)) := R4_5_12.trans (b4_5_12_16.mono hs4_5_12)
          have hs4_5_12_16 : w.heap.size + 1 ≤ (w4_5_12.alloc (.cells #[uv ts] 22)).heap.size := Nat.le_trans hs4_5_12 b4_5_12_16.size
          generalize (w4_5_12.alloc (.cells #[uv ts] 22)) = w4_5_12_16 at *
          clear hHeld
          refine hK.out _ _ (KS.out _ R4_5_12_16) (fun hHeld => ?_)
          clear hK K
          try simp only [Act.put, List.setIfInBounds_toArray, List.set_cons_zero, List.set_cons_succ]
          refine wpAnyH_ready (rs := [13]) (by kernel_rfl) (by simp) ?_
          refine AllReadyH.cons rfl (fun K hK => ?_) AllReadyH.nil
          have hP4_5_12_16_13 : Calls Tryz.prog 86 #[.int .i64 2, .slice (some ⟨w4_5.heap.size, 0, none⟩) 2 2] w4_5_12_16 fun e w' => ∃ A' c', e = .returned (.slice A' 4 c') ∧ IsB w' w'.heap.size (.slice A' 4 c') (puts 2 [u32of ou.toNat, u32of ii.toNat]) ∧ Below w4_5_12_16.heap.size w4_5_12_16 w' := dput_lies 2 (.inr (.inl rfl)) _ [u32of ou.toNat, u32of ii.toNat] (by simp) w4_5_12_16 L2_4_5_12_16
          go_simp
          go_at_call 86; (with_reducible refine hP4_5_12_16_13.mono ?_); rintro e w4_5_12_16_13 ⟨A2_4_5_12_16_13, c2_4_5_12_16_13, rfl, I2_4_5_12_16_13, b4_5_12_16_13⟩
          go_wp2_with fail
          have L3_4_5_12_16_13 := (L3_4_5_12_16.below b4_5_12_16_13).more b4_5_12_16_13.size
          have I1_4_5_12_16_13 := I1_4_5_12_16.up13 b4_5_12_16_13
          have R4_5_12_16_13 : Below (w.heap.size + 1) wa w4_5_12_16_13 := R4_5_12_16.trans (b4_5_12_16_13.mono hs4_5_12_16)
          have hs4_5_12_16_13 : w.heap.size + 1 ≤ w4_5_12_16_13.heap.size := Nat.le_trans hs4_5_12_16 b4_5_12_16_13.size
          clear hP4_5_12_16_13
          clear hHeld
          refine hK.out _ _ (KS.out _ R4_5_12_16_13) (fun hHeld => ?_)
          clear hK K
          try simp only [Act.put, List.setIfInBounds_toArray, List.set_cons_zero, List.set_cons_succ]
          refine wpAnyH_ready (rs := [17]) (by kernel_rfl) (by simp) ?_
          refine AllReadyH.cons rfl (fun K hK => ?_) AllReadyH.nil
          have hP4_5_12_16_13_17 : Calls Tryz.prog 86 #[.int .i64 4, .slice (some ⟨w4_5_12.heap.size, 0, none⟩) 1 1] w4_5_12_16_13 fun e w' => ∃ A' c', e = .returned (.slice A' 4 c') ∧ IsB w' w'.heap.size (.slice A' 4 c') (puts 4 [ts]) ∧ Below w4_5_12_16_13.heap.size w4_5_12_16_13 w' := dput_lies 4 (.inr (.inr rfl)) _ [ts] (by simp) w4_5_12_16_13 L3_4_5_12_16_13
          go_simp
          go_at_call 86; (with_reducible refine hP4_5_12_16_13_17.mono ?_); rintro e w4_5_12_16_13_17 ⟨A3_4_5_12_16_13_17, c3_4_5_12_16_13_17, rfl, I3_4_5_12_16_13_17, b4_5_12_16_13_17⟩
          go_wp2_with fail
          have I1_4_5_12_16_13_17 := I1_4_5_12_16_13.up13 b4_5_12_16_13_17
          have I2_4_5_12_16_13_17 := I2_4_5_12_16_13.up13 b4_5_12_16_13_17
          have R4_5_12_16_13_17 : Below (w.heap.size + 1) wa w4_5_12_16_13_17 := R4_5_12_16_13.trans (b4_5_12_16_13_17.mono hs4_5_12_16_13)
          have hs4_5_12_16_13_17 : w.heap.size + 1 ≤ w4_5_12_16_13_17.heap.size := Nat.le_trans hs4_5_12_16_13 b4_5_12_16_13_17.size
          clear hP4_5_12_16_13_17
          clear hHeld
          refine hK.out _ _ (KS.out _ R4_5_12_16_13_17) (fun hHeld => ?_)
          clear hK K
          try simp only [Act.put, List.setIfInBounds_toArray, List.set_cons_zero, List.set_cons_succ]
          refine wpAnyH_ready (rs := [18]) (by kernel_rfl) (by simp) ?_
          refine AllReadyH.cons rfl (fun K hK => ?_) AllReadyH.nil
          go_simp
          clear hHeld
          refine hK.out _ _ (KS.out _ (R4_5_12_16_13_17.alloc hs4_5_12_16_13_17 _)) (fun hHeld => ?_)
          clear hK K
          try simp only [Act.put, List.setIfInBounds_toArray, List.set_cons_zero, List.set_cons_succ]
          refine wpAnyH_ready (rs := [19]) (by kernel_rfl) (by simp) ?_
          refine AllReadyH.cons rfl (fun K hK => ?_) AllReadyH.nil
          have hJ : ∀ v1 v2 v3, IsB w4_5_12_16_13_17 w4_5_12_16_13_17.heap.size v1 (puts 4 [tg, wd]) → IsB w4_5_12_16_13_17 w4_5_12_16_13_17.heap.size v2 (puts 2 [u32of ou.toNat, u32of ii.toNat]) → IsB w4_5_12_16_13_17 w4_5_12_16_13_17.heap.size v3 (puts 4 [ts]) → Calls Tryz.prog 83 #[.slice (some ⟨w4_5_12_16_13_17.heap.size, 0, none⟩) 3 3] (w4_5_12_16_13_17.alloc (.cells #[v1, v2, v3] 24)) fun e w' => ∃ A' c', e = .returned (.slice A' 16 c') ∧ w'.ownsRow w4_5_12_16_13_17.heap.size 5 1 (.slice A' 16 c') 16 ((puts 4 [tg, wd] ++ puts 2 [u32of ou.toNat, u32of ii.toNat] ++ puts 4 [ts]).map bv) ∧ Below w4_5_12_16_13_17.heap.size w4_5_12_16_13_17 w' := fun v1 v2 v3 h1 h2 h3 => djoin3_any v1 v2 v3 _ _ _ w4_5_12_16_13_17 h1 h2 h3 16 (by simp [puts_len]) (by omega)
          go_simp
          go_at_call 83; (with_reducible refine (hJ _ _ _ I1_4_5_12_16_13_17 I2_4_5_12_16_13_17 I3_4_5_12_16_13_17).mono ?_); rintro e wz ⟨Az, cz, rfl, iz, bz⟩
          have Rz : Below (w.heap.size + 1) wa wz := R4_5_12_16_13_17.trans (bz.mono hs4_5_12_16_13_17)
          clear hJ
          go_wp2_with fail
          clear hHeld
          refine hK.out _ _ (KS.out _ Rz) (fun hHeld => ?_)
          clear hK K
          try simp only [Act.put, List.setIfInBounds_toArray, List.set_cons_zero, List.set_cons_succ]
          refine take_at (i := 20) (v := ?_) (some 2) rfl (by kernel_rfl) (by kernel_rfl) (by kernel_rfl) (fun _ _ _ h => h) (by kernel_rfl) (Or.inl ⟨by kernel_rfl, ?_⟩) (by assumption) ?_
          rotate_left
          · (intro w hSw; (try dsimp only at hSw); go_simp <;> with_reducible rfl)
          simp only [Act.put, List.setIfInBounds_toArray, List.set_cons_zero, List.set_cons_succ]
          refine wpAnyH_done (by kernel_rfl) ?_ _
          go_wp2_with fail
          go_ret
          rw [HV.out]
          exact ⟨Az, cz, rfl, own_base iz (Nat.le_of_succ_le hs4_5_12_16_13_17), HB.out.trans (Rz.mono (Nat.le_succ _))⟩
      · go_simp
        have b4_5_16 : Below w4_5.heap.size w4_5 (w4_5.alloc (.cells #[uv ts] 22)) := (Below.refl _ _).alloc (Nat.le_refl _) _
        have L3_4_5_16 : Lies (w4_5.alloc (.cells #[uv ts] 22)) (w4_5.alloc (.cells #[uv ts] 22)).heap.size (some ⟨w4_5.heap.size, 0, none⟩) ([ts].map uv) := (lies_new w4_5 [ts]).more (by simp)
        have I1_4_5_16 := I1_4_5.up13 b4_5_16
        have R4_5_16 : Below (w.heap.size + 1) wa (w4_5.alloc (.cells #[uv ts] 22)) := R4_5.trans (b4_5_16.mono hs4_5)
        have hs4_5_16 : w.heap.size + 1 ≤ (w4_5.alloc (.cells #[uv ts] 22)).heap.size := Nat.le_trans hs4_5 b4_5_16.size
        generalize (w4_5.alloc (.cells #[uv ts] 22)) = w4_5_16 at *
        clear hHeld
        refine hK.out _ _ (KS.out _ R4_5_16) (fun hHeld => ?_)
        clear hK K
        try simp only [Act.put, List.setIfInBounds_toArray, List.set_cons_zero, List.set_cons_succ]
        refine wpAnyH_ready (rs := [12]) (by kernel_rfl) (by simp) ?_
        refine AllReadyH.cons rfl (fun K hK => ?_) AllReadyH.nil
        go_simp
        try rw [est1, est2]
        have b4_5_16_12 : Below w4_5_16.heap.size w4_5_16 (w4_5_16.alloc (.cells #[uv (u32of ou.toNat), uv (u32of ii.toNat)] 22)) := (Below.refl _ _).alloc (Nat.le_refl _) _
        have L2_4_5_16_12 : Lies (w4_5_16.alloc (.cells #[uv (u32of ou.toNat), uv (u32of ii.toNat)] 22)) (w4_5_16.alloc (.cells #[uv (u32of ou.toNat), uv (u32of ii.toNat)] 22)).heap.size (some ⟨w4_5_16.heap.size, 0, none⟩) ([u32of ou.toNat, u32of ii.toNat].map uv) := (lies_new w4_5_16 [u32of ou.toNat, u32of ii.toNat]).more (by simp)
        have L3_4_5_16_12 := (L3_4_5_16.below b4_5_16_12).more b4_5_16_12.size
        have I1_4_5_16_12 := I1_4_5_16.up13 b4_5_16_12
        have R4_5_16_12 : Below (w.heap.size + 1) wa (w4_5_16.alloc (.cells #[uv (u32of ou.toNat), uv (u32of ii.toNat)] 22)) := R4_5_16.trans (b4_5_16_12.mono hs4_5_16)
        have hs4_5_16_12 : w.heap.size + 1 ≤ (w4_5_16.alloc (.cells #[uv (u32of ou.toNat), uv (u32of ii.toNat)] 22)).heap.size := Nat.le_trans hs4_5_16 b4_5_16_12.size
        generalize (w4_5_16.alloc (.cells #[uv (u32of ou.toNat), uv (u32of ii.toNat)] 22)) = w4_5_16_12 at *
        clear hHeld
        refine hK.out _ _ (KS.out _ R4_5_16_12) (fun hHeld => ?_)
        clear hK K
        try simp only [Act.put, List.setIfInBounds_toArray, List.set_cons_zero, List.set_cons_succ]
        refine wpAnyH_ready (rs := [13]) (by kernel_rfl) (by simp) ?_
        refine AllReadyH.cons rfl (fun K hK => ?_) AllReadyH.nil
        have hP4_5_16_12_13 : Calls Tryz.prog 86 #[.int .i64 2, .slice (some ⟨w4_5_16.heap.size, 0, none⟩) 2 2] w4_5_16_12 fun e w' => ∃ A' c', e = .returned (.slice A' 4 c') ∧ IsB w' w'.heap.size (.slice A' 4 c') (puts 2 [u32of ou.toNat, u32of ii.toNat]) ∧ Below w4_5_16_12.heap.size w4_5_16_12 w' := dput_lies 2 (.inr (.inl rfl)) _ [u32of ou.toNat, u32of ii.toNat] (by simp) w4_5_16_12 L2_4_5_16_12
        go_simp
        go_at_call 86; (with_reducible refine hP4_5_16_12_13.mono ?_); rintro e w4_5_16_12_13 ⟨A2_4_5_16_12_13, c2_4_5_16_12_13, rfl, I2_4_5_16_12_13, b4_5_16_12_13⟩
        go_wp2_with fail
        have L3_4_5_16_12_13 := (L3_4_5_16_12.below b4_5_16_12_13).more b4_5_16_12_13.size
        have I1_4_5_16_12_13 := I1_4_5_16_12.up13 b4_5_16_12_13
        have R4_5_16_12_13 : Below (w.heap.size + 1) wa w4_5_16_12_13 := R4_5_16_12.trans (b4_5_16_12_13.mono hs4_5_16_12)
        have hs4_5_16_12_13 : w.heap.size + 1 ≤ w4_5_16_12_13.heap.size := Nat.le_trans hs4_5_16_12 b4_5_16_12_13.size
        clear hP4_5_16_12_13
        clear hHeld
        refine hK.out _ _ (KS.out _ R4_5_16_12_13) (fun hHeld => ?_)
        clear hK K
        try simp only [Act.put, List.setIfInBounds_toArray, List.set_cons_zero, List.set_cons_succ]
        refine wpAnyH_ready (rs := [17]) (by kernel_rfl) (by simp) ?_
        refine AllReadyH.cons rfl (fun K hK => ?_) AllReadyH.nil
        have hP4_5_16_12_13_17 : Calls Tryz.prog 86 #[.int .i64 4, .slice (some ⟨w4_5.heap.size, 0, none⟩) 1 1] w4_5_16_12_13 fun e w' => ∃ A' c', e = .returned (.slice A' 4 c') ∧ IsB w' w'.heap.size (.slice A' 4 c') (puts 4 [ts]) ∧ Below w4_5_16_12_13.heap.size w4_5_16_12_13 w' := dput_lies 4 (.inr (.inr rfl)) _ [ts] (by simp) w4_5_16_12_13 L3_4_5_16_12_13
        go_simp
        go_at_call 86; (with_reducible refine hP4_5_16_12_13_17.mono ?_); rintro e w4_5_16_12_13_17 ⟨A3_4_5_16_12_13_17, c3_4_5_16_12_13_17, rfl, I3_4_5_16_12_13_17, b4_5_16_12_13_17⟩
        go_wp2_with fail
        have I1_4_5_16_12_13_17 := I1_4_5_16_12_13.up13 b4_5_16_12_13_17
        have I2_4_5_16_12_13_17 := I2_4_5_16_12_13.up13 b4_5_16_12_13_17
        have R4_5_16_12_13_17 : Below (w.heap.size + 1) wa w4_5_16_12_13_17 := R4_5_16_12_13.trans (b4_5_16_12_13_17.mono hs4_5_16_12_13)
        have hs4_5_16_12_13_17 : w.heap.size + 1 ≤ w4_5_16_12_13_17.heap.size := Nat.le_trans hs4_5_16_12_13 b4_5_16_12_13_17.size
        clear hP4_5_16_12_13_17
        clear hHeld
        refine hK.out _ _ (KS.out _ R4_5_16_12_13_17) (fun hHeld => ?_)
        clear hK K
        try simp only [Act.put, List.setIfInBounds_toArray, List.set_cons_zero, List.set_cons_succ]
        refine wpAnyH_ready (rs := [18]) (by kernel_rfl) (by simp) ?_
        refine AllReadyH.cons rfl (fun K hK => ?_) AllReadyH.nil
        go_simp
        clear hHeld
        refine hK.out _ _ (KS.out _ (R4_5_16_12_13_17.alloc hs4_5_16_12_13_17 _)) (fun hHeld => ?_)
        clear hK K
        try simp only [Act.put, List.setIfInBounds_toArray, List.set_cons_zero, List.set_cons_succ]
        refine wpAnyH_ready (rs := [19]) (by kernel_rfl) (by simp) ?_
        refine AllReadyH.cons rfl (fun K hK => ?_) AllReadyH.nil
        have hJ : ∀ v1 v2 v3, IsB w4_5_16_12_13_17 w4_5_16_12_13_17.heap.size v1 (puts 4 [tg, wd]) → IsB w4_5_16_12_13_17 w4_5_16_12_13_17.heap.size v2 (puts 2 [u32of ou.toNat, u32of ii.toNat]) → IsB w4_5_16_12_13_17 w4_5_16_12_13_17.heap.size v3 (puts 4 [ts]) → Calls Tryz.prog 83 #[.slice (some ⟨w4_5_16_12_13_17.heap.size, 0, none⟩) 3 3] (w4_5_16_12_13_17.alloc (.cells #[v1, v2, v3] 24)) fun e w' => ∃ A' c', e = .returned (.slice A' 16 c') ∧ w'.ownsRow w4_5_16_12_13_17.heap.size 5 1 (.slice A' 16 c') 16 ((puts 4 [tg, wd] ++ puts 2 [u32of ou.toNat, u32of ii.toNat] ++ puts 4 [ts]).map bv) ∧ Below w4_5_16_12_13_17.heap.size w4_5_16_12_13_17 w' := fun v1 v2 v3 h1 h2 h3 => djoin3_any v1 v2 v3 _ _ _ w4_5_16_12_13_17 h1 h2 h3 16 (by simp [puts_len]) (by omega)
        go_simp
        go_at_call 83; (with_reducible refine (hJ _ _ _ I1_4_5_16_12_13_17 I2_4_5_16_12_13_17 I3_4_5_16_12_13_17).mono ?_); rintro e wz ⟨Az, cz, rfl, iz, bz⟩
        have Rz : Below (w.heap.size + 1) wa wz := R4_5_16_12_13_17.trans (bz.mono hs4_5_16_12_13_17)
        clear hJ
        go_wp2_with fail
        clear hHeld
        refine hK.out _ _ (KS.out _ Rz) (fun hHeld => ?_)
        clear hK K
        try simp only [Act.put, List.setIfInBounds_toArray, List.set_cons_zero, List.set_cons_succ]
        refine take_at (i := 20) (v := ?_) (some 2) rfl (by kernel_rfl) (by kernel_rfl) (by kernel_rfl) (fun _ _ _ h => h) (by kernel_rfl) (Or.inl ⟨by kernel_rfl, ?_⟩) (by assumption) ?_
        rotate_left
        · (intro w hSw; (try dsimp only at hSw); go_simp <;> with_reducible rfl)
        simp only [Act.put, List.setIfInBounds_toArray, List.set_cons_zero, List.set_cons_succ]
        refine wpAnyH_done (by kernel_rfl) ?_ _
        go_wp2_with fail
        go_ret
        rw [HV.out]
        exact ⟨Az, cz, rfl, own_base iz (Nat.le_of_succ_le hs4_5_16_12_13_17), HB.out.trans (Rz.mono (Nat.le_succ _))⟩
    · go_simp
      try rw [est1, est2]
      have b4_12 : Below w4.heap.size w4 (w4.alloc (.cells #[uv (u32of ou.toNat), uv (u32of ii.toNat)] 22)) := (Below.refl _ _).alloc (Nat.le_refl _) _
      have L2_4_12 : Lies (w4.alloc (.cells #[uv (u32of ou.toNat), uv (u32of ii.toNat)] 22)) (w4.alloc (.cells #[uv (u32of ou.toNat), uv (u32of ii.toNat)] 22)).heap.size (some ⟨w4.heap.size, 0, none⟩) ([u32of ou.toNat, u32of ii.toNat].map uv) := (lies_new w4 [u32of ou.toNat, u32of ii.toNat]).more (by simp)
      have L1_4_12 := (L1_4.below b4_12).more b4_12.size
      have R4_12 : Below (w.heap.size + 1) wa (w4.alloc (.cells #[uv (u32of ou.toNat), uv (u32of ii.toNat)] 22)) := R4.trans (b4_12.mono hs4)
      have hs4_12 : w.heap.size + 1 ≤ (w4.alloc (.cells #[uv (u32of ou.toNat), uv (u32of ii.toNat)] 22)).heap.size := Nat.le_trans hs4 b4_12.size
      generalize (w4.alloc (.cells #[uv (u32of ou.toNat), uv (u32of ii.toNat)] 22)) = w4_12 at *
      clear hHeld
      refine hK.out _ _ (KS.out _ R4_12) (fun hHeld => ?_)
      clear hK K
      try simp only [Act.put, List.setIfInBounds_toArray, List.set_cons_zero, List.set_cons_succ]
      refine wpAnyH_ready (rs := [5, 16]) (by kernel_rfl) (by simp) ?_
      refine AllReadyH.cons rfl (fun K hK => ?_) (AllReadyH.cons rfl (fun K hK => ?_) AllReadyH.nil)
      · have hP4_12_5 : Calls Tryz.prog 86 #[.int .i64 4, .slice (some ⟨wa.heap.size, 0, none⟩) 2 2] w4_12 fun e w' => ∃ A' c', e = .returned (.slice A' 8 c') ∧ IsB w' w'.heap.size (.slice A' 8 c') (puts 4 [tg, wd]) ∧ Below w4_12.heap.size w4_12 w' := dput_lies 4 (.inr (.inr rfl)) _ [tg, wd] (by simp) w4_12 L1_4_12
        go_simp
        go_at_call 86; (with_reducible refine hP4_12_5.mono ?_); rintro e w4_12_5 ⟨A1_4_12_5, c1_4_12_5, rfl, I1_4_12_5, b4_12_5⟩
        go_wp2_with fail
        have L2_4_12_5 := (L2_4_12.below b4_12_5).more b4_12_5.size
        have R4_12_5 : Below (w.heap.size + 1) wa w4_12_5 := R4_12.trans (b4_12_5.mono hs4_12)
        have hs4_12_5 : w.heap.size + 1 ≤ w4_12_5.heap.size := Nat.le_trans hs4_12 b4_12_5.size
        clear hP4_12_5
        clear hHeld
        refine hK.out _ _ (KS.out _ R4_12_5) (fun hHeld => ?_)
        clear hK K
        try simp only [Act.put, List.setIfInBounds_toArray, List.set_cons_zero, List.set_cons_succ]
        refine wpAnyH_ready (rs := [13, 16]) (by kernel_rfl) (by simp) ?_
        refine AllReadyH.cons rfl (fun K hK => ?_) (AllReadyH.cons rfl (fun K hK => ?_) AllReadyH.nil)
        · have hP4_12_5_13 : Calls Tryz.prog 86 #[.int .i64 2, .slice (some ⟨w4.heap.size, 0, none⟩) 2 2] w4_12_5 fun e w' => ∃ A' c', e = .returned (.slice A' 4 c') ∧ IsB w' w'.heap.size (.slice A' 4 c') (puts 2 [u32of ou.toNat, u32of ii.toNat]) ∧ Below w4_12_5.heap.size w4_12_5 w' := dput_lies 2 (.inr (.inl rfl)) _ [u32of ou.toNat, u32of ii.toNat] (by simp) w4_12_5 L2_4_12_5
          go_simp
          go_at_call 86; (with_reducible refine hP4_12_5_13.mono ?_); rintro e w4_12_5_13 ⟨A2_4_12_5_13, c2_4_12_5_13, rfl, I2_4_12_5_13, b4_12_5_13⟩
          go_wp2_with fail
          have I1_4_12_5_13 := I1_4_12_5.up13 b4_12_5_13
          have R4_12_5_13 : Below (w.heap.size + 1) wa w4_12_5_13 := R4_12_5.trans (b4_12_5_13.mono hs4_12_5)
          have hs4_12_5_13 : w.heap.size + 1 ≤ w4_12_5_13.heap.size := Nat.le_trans hs4_12_5 b4_12_5_13.size
          clear hP4_12_5_13
          clear hHeld
          refine hK.out _ _ (KS.out _ R4_12_5_13) (fun hHeld => ?_)
          clear hK K
          try simp only [Act.put, List.setIfInBounds_toArray, List.set_cons_zero, List.set_cons_succ]
          refine wpAnyH_ready (rs := [16]) (by kernel_rfl) (by simp) ?_
          refine AllReadyH.cons rfl (fun K hK => ?_) AllReadyH.nil
          go_simp
          have b4_12_5_13_16 : Below w4_12_5_13.heap.size w4_12_5_13 (w4_12_5_13.alloc (.cells #[uv ts] 22)) := (Below.refl _ _).alloc (Nat.le_refl _) _
          have L3_4_12_5_13_16 : Lies (w4_12_5_13.alloc (.cells #[uv ts] 22)) (w4_12_5_13.alloc (.cells #[uv ts] 22)).heap.size (some ⟨w4_12_5_13.heap.size, 0, none⟩) ([ts].map uv) := (lies_new w4_12_5_13 [ts]).more (by simp)
          have I1_4_12_5_13_16 := I1_4_12_5_13.up13 b4_12_5_13_16
          have I2_4_12_5_13_16 := I2_4_12_5_13.up13 b4_12_5_13_16
          have R4_12_5_13_16 : Below (w.heap.size + 1) wa (w4_12_5_13.alloc (.cells #[uv ts] 22)) := R4_12_5_13.trans (b4_12_5_13_16.mono hs4_12_5_13)
          have hs4_12_5_13_16 : w.heap.size + 1 ≤ (w4_12_5_13.alloc (.cells #[uv ts] 22)).heap.size := Nat.le_trans hs4_12_5_13 b4_12_5_13_16.size
          generalize (w4_12_5_13.alloc (.cells #[uv ts] 22)) = w4_12_5_13_16 at *
          clear hHeld
          refine hK.out _ _ (KS.out _ R4_12_5_13_16) (fun hHeld => ?_)
          clear hK K
          try simp only [Act.put, List.setIfInBounds_toArray, List.set_cons_zero, List.set_cons_succ]
          refine wpAnyH_ready (rs := [17]) (by kernel_rfl) (by simp) ?_
          refine AllReadyH.cons rfl (fun K hK => ?_) AllReadyH.nil
          have hP4_12_5_13_16_17 : Calls Tryz.prog 86 #[.int .i64 4, .slice (some ⟨w4_12_5_13.heap.size, 0, none⟩) 1 1] w4_12_5_13_16 fun e w' => ∃ A' c', e = .returned (.slice A' 4 c') ∧ IsB w' w'.heap.size (.slice A' 4 c') (puts 4 [ts]) ∧ Below w4_12_5_13_16.heap.size w4_12_5_13_16 w' := dput_lies 4 (.inr (.inr rfl)) _ [ts] (by simp) w4_12_5_13_16 L3_4_12_5_13_16
          go_simp
          go_at_call 86; (with_reducible refine hP4_12_5_13_16_17.mono ?_); rintro e w4_12_5_13_16_17 ⟨A3_4_12_5_13_16_17, c3_4_12_5_13_16_17, rfl, I3_4_12_5_13_16_17, b4_12_5_13_16_17⟩
          go_wp2_with fail
          have I1_4_12_5_13_16_17 := I1_4_12_5_13_16.up13 b4_12_5_13_16_17
          have I2_4_12_5_13_16_17 := I2_4_12_5_13_16.up13 b4_12_5_13_16_17
          have R4_12_5_13_16_17 : Below (w.heap.size + 1) wa w4_12_5_13_16_17 := R4_12_5_13_16.trans (b4_12_5_13_16_17.mono hs4_12_5_13_16)
          have hs4_12_5_13_16_17 : w.heap.size + 1 ≤ w4_12_5_13_16_17.heap.size := Nat.le_trans hs4_12_5_13_16 b4_12_5_13_16_17.size
          clear hP4_12_5_13_16_17
          clear hHeld
          refine hK.out _ _ (KS.out _ R4_12_5_13_16_17) (fun hHeld => ?_)
          clear hK K
          try simp only [Act.put, List.setIfInBounds_toArray, List.set_cons_zero, List.set_cons_succ]
          refine wpAnyH_ready (rs := [18]) (by kernel_rfl) (by simp) ?_
          refine AllReadyH.cons rfl (fun K hK => ?_) AllReadyH.nil
          go_simp
          clear hHeld
          refine hK.out _ _ (KS.out _ (R4_12_5_13_16_17.alloc hs4_12_5_13_16_17 _)) (fun hHeld => ?_)
          clear hK K
          try simp only [Act.put, List.setIfInBounds_toArray, List.set_cons_zero, List.set_cons_succ]
          refine wpAnyH_ready (rs := [19]) (by kernel_rfl) (by simp) ?_
          refine AllReadyH.cons rfl (fun K hK => ?_) AllReadyH.nil
          have hJ : ∀ v1 v2 v3, IsB w4_12_5_13_16_17 w4_12_5_13_16_17.heap.size v1 (puts 4 [tg, wd]) → IsB w4_12_5_13_16_17 w4_12_5_13_16_17.heap.size v2 (puts 2 [u32of ou.toNat, u32of ii.toNat]) → IsB w4_12_5_13_16_17 w4_12_5_13_16_17.heap.size v3 (puts 4 [ts]) → Calls Tryz.prog 83 #[.slice (some ⟨w4_12_5_13_16_17.heap.size, 0, none⟩) 3 3] (w4_12_5_13_16_17.alloc (.cells #[v1, v2, v3] 24)) fun e w' => ∃ A' c', e = .returned (.slice A' 16 c') ∧ w'.ownsRow w4_12_5_13_16_17.heap.size 5 1 (.slice A' 16 c') 16 ((puts 4 [tg, wd] ++ puts 2 [u32of ou.toNat, u32of ii.toNat] ++ puts 4 [ts]).map bv) ∧ Below w4_12_5_13_16_17.heap.size w4_12_5_13_16_17 w' := fun v1 v2 v3 h1 h2 h3 => djoin3_any v1 v2 v3 _ _ _ w4_12_5_13_16_17 h1 h2 h3 16 (by simp [puts_len]) (by omega)
          go_simp
          go_at_call 83; (with_reducible refine (hJ _ _ _ I1_4_12_5_13_16_17 I2_4_12_5_13_16_17 I3_4_12_5_13_16_17).mono ?_); rintro e wz ⟨Az, cz, rfl, iz, bz⟩
          have Rz : Below (w.heap.size + 1) wa wz := R4_12_5_13_16_17.trans (bz.mono hs4_12_5_13_16_17)
          clear hJ
          go_wp2_with fail
          clear hHeld
          refine hK.out _ _ (KS.out _ Rz) (fun hHeld => ?_)
          clear hK K
          try simp only [Act.put, List.setIfInBounds_toArray, List.set_cons_zero, List.set_cons_succ]
          refine take_at (i := 20) (v := ?_) (some 2) rfl (by kernel_rfl) (by kernel_rfl) (by kernel_rfl) (fun _ _ _ h => h) (by kernel_rfl) (Or.inl ⟨by kernel_rfl, ?_⟩) (by assumption) ?_
          rotate_left
          · (intro w hSw; (try dsimp only at hSw); go_simp <;> with_reducible rfl)
          simp only [Act.put, List.setIfInBounds_toArray, List.set_cons_zero, List.set_cons_succ]
          refine wpAnyH_done (by kernel_rfl) ?_ _
          go_wp2_with fail
          go_ret
          rw [HV.out]
          exact ⟨Az, cz, rfl, own_base iz (Nat.le_of_succ_le hs4_12_5_13_16_17), HB.out.trans (Rz.mono (Nat.le_succ _))⟩
        · go_simp
          have b4_12_5_16 : Below w4_12_5.heap.size w4_12_5 (w4_12_5.alloc (.cells #[uv ts] 22)) := (Below.refl _ _).alloc (Nat.le_refl _) _
          have L3_4_12_5_16 : Lies (w4_12_5.alloc (.cells #[uv ts] 22)) (w4_12_5.alloc (.cells #[uv ts] 22)).heap.size (some ⟨w4_12_5.heap.size, 0, none⟩) ([ts].map uv) := (lies_new w4_12_5 [ts]).more (by simp)
          have L2_4_12_5_16 := (L2_4_12_5.below b4_12_5_16).more b4_12_5_16.size
          have I1_4_12_5_16 := I1_4_12_5.up13 b4_12_5_16
          have R4_12_5_16 : Below (w.heap.size + 1) wa (w4_12_5.alloc (.cells #[uv ts] 22)) := R4_12_5.trans (b4_12_5_16.mono hs4_12_5)
          have hs4_12_5_16 : w.heap.size + 1 ≤ (w4_12_5.alloc (.cells #[uv ts] 22)).heap.size := Nat.le_trans hs4_12_5 b4_12_5_16.size
          generalize (w4_12_5.alloc (.cells #[uv ts] 22)) = w4_12_5_16 at *
          clear hHeld
          refine hK.out _ _ (KS.out _ R4_12_5_16) (fun hHeld => ?_)
          clear hK K
          try simp only [Act.put, List.setIfInBounds_toArray, List.set_cons_zero, List.set_cons_succ]
          refine wpAnyH_ready (rs := [13]) (by kernel_rfl) (by simp) ?_
          refine AllReadyH.cons rfl (fun K hK => ?_) AllReadyH.nil
          have hP4_12_5_16_13 : Calls Tryz.prog 86 #[.int .i64 2, .slice (some ⟨w4.heap.size, 0, none⟩) 2 2] w4_12_5_16 fun e w' => ∃ A' c', e = .returned (.slice A' 4 c') ∧ IsB w' w'.heap.size (.slice A' 4 c') (puts 2 [u32of ou.toNat, u32of ii.toNat]) ∧ Below w4_12_5_16.heap.size w4_12_5_16 w' := dput_lies 2 (.inr (.inl rfl)) _ [u32of ou.toNat, u32of ii.toNat] (by simp) w4_12_5_16 L2_4_12_5_16
          go_simp
          go_at_call 86; (with_reducible refine hP4_12_5_16_13.mono ?_); rintro e w4_12_5_16_13 ⟨A2_4_12_5_16_13, c2_4_12_5_16_13, rfl, I2_4_12_5_16_13, b4_12_5_16_13⟩
          go_wp2_with fail
          have L3_4_12_5_16_13 := (L3_4_12_5_16.below b4_12_5_16_13).more b4_12_5_16_13.size
          have I1_4_12_5_16_13 := I1_4_12_5_16.up13 b4_12_5_16_13
          have R4_12_5_16_13 : Below (w.heap.size + 1) wa w4_12_5_16_13 := R4_12_5_16.trans (b4_12_5_16_13.mono hs4_12_5_16)
          have hs4_12_5_16_13 : w.heap.size + 1 ≤ w4_12_5_16_13.heap.size := Nat.le_trans hs4_12_5_16 b4_12_5_16_13.size
          clear hP4_12_5_16_13
          clear hHeld
          refine hK.out _ _ (KS.out _ R4_12_5_16_13) (fun hHeld => ?_)
          clear hK K
          try simp only [Act.put, List.setIfInBounds_toArray, List.set_cons_zero, List.set_cons_succ]
          refine wpAnyH_ready (rs := [17]) (by kernel_rfl) (by simp) ?_
          refine AllReadyH.cons rfl (fun K hK => ?_) AllReadyH.nil
          have hP4_12_5_16_13_17 : Calls Tryz.prog 86 #[.int .i64 4, .slice (some ⟨w4_12_5.heap.size, 0, none⟩) 1 1] w4_12_5_16_13 fun e w' => ∃ A' c', e = .returned (.slice A' 4 c') ∧ IsB w' w'.heap.size (.slice A' 4 c') (puts 4 [ts]) ∧ Below w4_12_5_16_13.heap.size w4_12_5_16_13 w' := dput_lies 4 (.inr (.inr rfl)) _ [ts] (by simp) w4_12_5_16_13 L3_4_12_5_16_13
          go_simp
          go_at_call 86; (with_reducible refine hP4_12_5_16_13_17.mono ?_); rintro e w4_12_5_16_13_17 ⟨A3_4_12_5_16_13_17, c3_4_12_5_16_13_17, rfl, I3_4_12_5_16_13_17, b4_12_5_16_13_17⟩
          go_wp2_with fail
          have I1_4_12_5_16_13_17 := I1_4_12_5_16_13.up13 b4_12_5_16_13_17
          have I2_4_12_5_16_13_17 := I2_4_12_5_16_13.up13 b4_12_5_16_13_17
          have R4_12_5_16_13_17 : Below (w.heap.size + 1) wa w4_12_5_16_13_17 := R4_12_5_16_13.trans (b4_12_5_16_13_17.mono hs4_12_5_16_13)
          have hs4_12_5_16_13_17 : w.heap.size + 1 ≤ w4_12_5_16_13_17.heap.size := Nat.le_trans hs4_12_5_16_13 b4_12_5_16_13_17.size
          clear hP4_12_5_16_13_17
          clear hHeld
          refine hK.out _ _ (KS.out _ R4_12_5_16_13_17) (fun hHeld => ?_)
          clear hK K
          try simp only [Act.put, List.setIfInBounds_toArray, List.set_cons_zero, List.set_cons_succ]
          refine wpAnyH_ready (rs := [18]) (by kernel_rfl) (by simp) ?_
          refine AllReadyH.cons rfl (fun K hK => ?_) AllReadyH.nil
          go_simp
          clear hHeld
          refine hK.out _ _ (KS.out _ (R4_12_5_16_13_17.alloc hs4_12_5_16_13_17 _)) (fun hHeld => ?_)
          clear hK K
          try simp only [Act.put, List.setIfInBounds_toArray, List.set_cons_zero, List.set_cons_succ]
          refine wpAnyH_ready (rs := [19]) (by kernel_rfl) (by simp) ?_
          refine AllReadyH.cons rfl (fun K hK => ?_) AllReadyH.nil
          have hJ : ∀ v1 v2 v3, IsB w4_12_5_16_13_17 w4_12_5_16_13_17.heap.size v1 (puts 4 [tg, wd]) → IsB w4_12_5_16_13_17 w4_12_5_16_13_17.heap.size v2 (puts 2 [u32of ou.toNat, u32of ii.toNat]) → IsB w4_12_5_16_13_17 w4_12_5_16_13_17.heap.size v3 (puts 4 [ts]) → Calls Tryz.prog 83 #[.slice (some ⟨w4_12_5_16_13_17.heap.size, 0, none⟩) 3 3] (w4_12_5_16_13_17.alloc (.cells #[v1, v2, v3] 24)) fun e w' => ∃ A' c', e = .returned (.slice A' 16 c') ∧ w'.ownsRow w4_12_5_16_13_17.heap.size 5 1 (.slice A' 16 c') 16 ((puts 4 [tg, wd] ++ puts 2 [u32of ou.toNat, u32of ii.toNat] ++ puts 4 [ts]).map bv) ∧ Below w4_12_5_16_13_17.heap.size w4_12_5_16_13_17 w' := fun v1 v2 v3 h1 h2 h3 => djoin3_any v1 v2 v3 _ _ _ w4_12_5_16_13_17 h1 h2 h3 16 (by simp [puts_len]) (by omega)
          go_simp
          go_at_call 83; (with_reducible refine (hJ _ _ _ I1_4_12_5_16_13_17 I2_4_12_5_16_13_17 I3_4_12_5_16_13_17).mono ?_); rintro e wz ⟨Az, cz, rfl, iz, bz⟩
          have Rz : Below (w.heap.size + 1) wa wz := R4_12_5_16_13_17.trans (bz.mono hs4_12_5_16_13_17)
          clear hJ
          go_wp2_with fail
          clear hHeld
          refine hK.out _ _ (KS.out _ Rz) (fun hHeld => ?_)
          clear hK K
          try simp only [Act.put, List.setIfInBounds_toArray, List.set_cons_zero, List.set_cons_succ]
          refine take_at (i := 20) (v := ?_) (some 2) rfl (by kernel_rfl) (by kernel_rfl) (by kernel_rfl) (fun _ _ _ h => h) (by kernel_rfl) (Or.inl ⟨by kernel_rfl, ?_⟩) (by assumption) ?_
          rotate_left
          · (intro w hSw; (try dsimp only at hSw); go_simp <;> with_reducible rfl)
          simp only [Act.put, List.setIfInBounds_toArray, List.set_cons_zero, List.set_cons_succ]
          refine wpAnyH_done (by kernel_rfl) ?_ _
          go_wp2_with fail
          go_ret
          rw [HV.out]
          exact ⟨Az, cz, rfl, own_base iz (Nat.le_of_succ_le hs4_12_5_16_13_17), HB.out.trans (Rz.mono (Nat.le_succ _))⟩
      · go_simp
        have b4_12_16 : Below w4_12.heap.size w4_12 (w4_12.alloc (.cells #[uv ts] 22)) := (Below.refl _ _).alloc (Nat.le_refl _) _
        have L3_4_12_16 : Lies (w4_12.alloc (.cells #[uv ts] 22)) (w4_12.alloc (.cells #[uv ts] 22)).heap.size (some ⟨w4_12.heap.size, 0, none⟩) ([ts].map uv) := (lies_new w4_12 [ts]).more (by simp)
        have L1_4_12_16 := (L1_4_12.below b4_12_16).more b4_12_16.size
        have L2_4_12_16 := (L2_4_12.below b4_12_16).more b4_12_16.size
        have R4_12_16 : Below (w.heap.size + 1) wa (w4_12.alloc (.cells #[uv ts] 22)) := R4_12.trans (b4_12_16.mono hs4_12)
        have hs4_12_16 : w.heap.size + 1 ≤ (w4_12.alloc (.cells #[uv ts] 22)).heap.size := Nat.le_trans hs4_12 b4_12_16.size
        generalize (w4_12.alloc (.cells #[uv ts] 22)) = w4_12_16 at *
        clear hHeld
        refine hK.out _ _ (KS.out _ R4_12_16) (fun hHeld => ?_)
        clear hK K
        try simp only [Act.put, List.setIfInBounds_toArray, List.set_cons_zero, List.set_cons_succ]
        refine wpAnyH_ready (rs := [5]) (by kernel_rfl) (by simp) ?_
        refine AllReadyH.cons rfl (fun K hK => ?_) AllReadyH.nil
        have hP4_12_16_5 : Calls Tryz.prog 86 #[.int .i64 4, .slice (some ⟨wa.heap.size, 0, none⟩) 2 2] w4_12_16 fun e w' => ∃ A' c', e = .returned (.slice A' 8 c') ∧ IsB w' w'.heap.size (.slice A' 8 c') (puts 4 [tg, wd]) ∧ Below w4_12_16.heap.size w4_12_16 w' := dput_lies 4 (.inr (.inr rfl)) _ [tg, wd] (by simp) w4_12_16 L1_4_12_16
        go_simp
        go_at_call 86; (with_reducible refine hP4_12_16_5.mono ?_); rintro e w4_12_16_5 ⟨A1_4_12_16_5, c1_4_12_16_5, rfl, I1_4_12_16_5, b4_12_16_5⟩
        go_wp2_with fail
        have L2_4_12_16_5 := (L2_4_12_16.below b4_12_16_5).more b4_12_16_5.size
        have L3_4_12_16_5 := (L3_4_12_16.below b4_12_16_5).more b4_12_16_5.size
        have R4_12_16_5 : Below (w.heap.size + 1) wa w4_12_16_5 := R4_12_16.trans (b4_12_16_5.mono hs4_12_16)
        have hs4_12_16_5 : w.heap.size + 1 ≤ w4_12_16_5.heap.size := Nat.le_trans hs4_12_16 b4_12_16_5.size
        clear hP4_12_16_5
        clear hHeld
        refine hK.out _ _ (KS.out _ R4_12_16_5) (fun hHeld => ?_)
        clear hK K
        try simp only [Act.put, List.setIfInBounds_toArray, List.set_cons_zero, List.set_cons_succ]
        refine wpAnyH_ready (rs := [13]) (by kernel_rfl) (by simp) ?_
        refine AllReadyH.cons rfl (fun K hK => ?_) AllReadyH.nil
        have hP4_12_16_5_13 : Calls Tryz.prog 86 #[.int .i64 2, .slice (some ⟨w4.heap.size, 0, none⟩) 2 2] w4_12_16_5 fun e w' => ∃ A' c', e = .returned (.slice A' 4 c') ∧ IsB w' w'.heap.size (.slice A' 4 c') (puts 2 [u32of ou.toNat, u32of ii.toNat]) ∧ Below w4_12_16_5.heap.size w4_12_16_5 w' := dput_lies 2 (.inr (.inl rfl)) _ [u32of ou.toNat, u32of ii.toNat] (by simp) w4_12_16_5 L2_4_12_16_5
        go_simp
        go_at_call 86; (with_reducible refine hP4_12_16_5_13.mono ?_); rintro e w4_12_16_5_13 ⟨A2_4_12_16_5_13, c2_4_12_16_5_13, rfl, I2_4_12_16_5_13, b4_12_16_5_13⟩
        go_wp2_with fail
        have L3_4_12_16_5_13 := (L3_4_12_16_5.below b4_12_16_5_13).more b4_12_16_5_13.size
        have I1_4_12_16_5_13 := I1_4_12_16_5.up13 b4_12_16_5_13
        have R4_12_16_5_13 : Below (w.heap.size + 1) wa w4_12_16_5_13 := R4_12_16_5.trans (b4_12_16_5_13.mono hs4_12_16_5)
        have hs4_12_16_5_13 : w.heap.size + 1 ≤ w4_12_16_5_13.heap.size := Nat.le_trans hs4_12_16_5 b4_12_16_5_13.size
        clear hP4_12_16_5_13
        clear hHeld
        refine hK.out _ _ (KS.out _ R4_12_16_5_13) (fun hHeld => ?_)
        clear hK K
        try simp only [Act.put, List.setIfInBounds_toArray, List.set_cons_zero, List.set_cons_succ]
        refine wpAnyH_ready (rs := [17]) (by kernel_rfl) (by simp) ?_
        refine AllReadyH.cons rfl (fun K hK => ?_) AllReadyH.nil
        have hP4_12_16_5_13_17 : Calls Tryz.prog 86 #[.int .i64 4, .slice (some ⟨w4_12.heap.size, 0, none⟩) 1 1] w4_12_16_5_13 fun e w' => ∃ A' c', e = .returned (.slice A' 4 c') ∧ IsB w' w'.heap.size (.slice A' 4 c') (puts 4 [ts]) ∧ Below w4_12_16_5_13.heap.size w4_12_16_5_13 w' := dput_lies 4 (.inr (.inr rfl)) _ [ts] (by simp) w4_12_16_5_13 L3_4_12_16_5_13
        go_simp
        go_at_call 86; (with_reducible refine hP4_12_16_5_13_17.mono ?_); rintro e w4_12_16_5_13_17 ⟨A3_4_12_16_5_13_17, c3_4_12_16_5_13_17, rfl, I3_4_12_16_5_13_17, b4_12_16_5_13_17⟩
        go_wp2_with fail
        have I1_4_12_16_5_13_17 := I1_4_12_16_5_13.up13 b4_12_16_5_13_17
        have I2_4_12_16_5_13_17 := I2_4_12_16_5_13.up13 b4_12_16_5_13_17
        have R4_12_16_5_13_17 : Below (w.heap.size + 1) wa w4_12_16_5_13_17 := R4_12_16_5_13.trans (b4_12_16_5_13_17.mono hs4_12_16_5_13)
        have hs4_12_16_5_13_17 : w.heap.size + 1 ≤ w4_12_16_5_13_17.heap.size := Nat.le_trans hs4_12_16_5_13 b4_12_16_5_13_17.size
        clear hP4_12_16_5_13_17
        clear hHeld
        refine hK.out _ _ (KS.out _ R4_12_16_5_13_17) (fun hHeld => ?_)
        clear hK K
        try simp only [Act.put, List.setIfInBounds_toArray, List.set_cons_zero, List.set_cons_succ]
        refine wpAnyH_ready (rs := [18]) (by kernel_rfl) (by simp) ?_
        refine AllReadyH.cons rfl (fun K hK => ?_) AllReadyH.nil
        go_simp
        clear hHeld
        refine hK.out _ _ (KS.out _ (R4_12_16_5_13_17.alloc hs4_12_16_5_13_17 _)) (fun hHeld => ?_)
        clear hK K
        try simp only [Act.put, List.setIfInBounds_toArray, List.set_cons_zero, List.set_cons_succ]
        refine wpAnyH_ready (rs := [19]) (by kernel_rfl) (by simp) ?_
        refine AllReadyH.cons rfl (fun K hK => ?_) AllReadyH.nil
        have hJ : ∀ v1 v2 v3, IsB w4_12_16_5_13_17 w4_12_16_5_13_17.heap.size v1 (puts 4 [tg, wd]) → IsB w4_12_16_5_13_17 w4_12_16_5_13_17.heap.size v2 (puts 2 [u32of ou.toNat, u32of ii.toNat]) → IsB w4_12_16_5_13_17 w4_12_16_5_13_17.heap.size v3 (puts 4 [ts]) → Calls Tryz.prog 83 #[.slice (some ⟨w4_12_16_5_13_17.heap.size, 0, none⟩) 3 3] (w4_12_16_5_13_17.alloc (.cells #[v1, v2, v3] 24)) fun e w' => ∃ A' c', e = .returned (.slice A' 16 c') ∧ w'.ownsRow w4_12_16_5_13_17.heap.size 5 1 (.slice A' 16 c') 16 ((puts 4 [tg, wd] ++ puts 2 [u32of ou.toNat, u32of ii.toNat] ++ puts 4 [ts]).map bv) ∧ Below w4_12_16_5_13_17.heap.size w4_12_16_5_13_17 w' := fun v1 v2 v3 h1 h2 h3 => djoin3_any v1 v2 v3 _ _ _ w4_12_16_5_13_17 h1 h2 h3 16 (by simp [puts_len]) (by omega)
        go_simp
        go_at_call 83; (with_reducible refine (hJ _ _ _ I1_4_12_16_5_13_17 I2_4_12_16_5_13_17 I3_4_12_16_5_13_17).mono ?_); rintro e wz ⟨Az, cz, rfl, iz, bz⟩
        have Rz : Below (w.heap.size + 1) wa wz := R4_12_16_5_13_17.trans (bz.mono hs4_12_16_5_13_17)
        clear hJ
        go_wp2_with fail
        clear hHeld
        refine hK.out _ _ (KS.out _ Rz) (fun hHeld => ?_)
        clear hK K
        try simp only [Act.put, List.setIfInBounds_toArray, List.set_cons_zero, List.set_cons_succ]
        refine take_at (i := 20) (v := ?_) (some 2) rfl (by kernel_rfl) (by kernel_rfl) (by kernel_rfl) (fun _ _ _ h => h) (by kernel_rfl) (Or.inl ⟨by kernel_rfl, ?_⟩) (by assumption) ?_
        rotate_left
        · (intro w hSw; (try dsimp only at hSw); go_simp <;> with_reducible rfl)
        simp only [Act.put, List.setIfInBounds_toArray, List.set_cons_zero, List.set_cons_succ]
        refine wpAnyH_done (by kernel_rfl) ?_ _
        go_wp2_with fail
        go_ret
        rw [HV.out]
        exact ⟨Az, cz, rfl, own_base iz (Nat.le_of_succ_le hs4_12_16_5_13_17), HB.out.trans (Rz.mono (Nat.le_succ _))⟩
    · go_simp
      have b4_16 : Below w4.heap.size w4 (w4.alloc (.cells #[uv ts] 22)) := (Below.refl _ _).alloc (Nat.le_refl _) _
      have L3_4_16 : Lies (w4.alloc (.cells #[uv ts] 22)) (w4.alloc (.cells #[uv ts] 22)).heap.size (some ⟨w4.heap.size, 0, none⟩) ([ts].map uv) := (lies_new w4 [ts]).more (by simp)
      have L1_4_16 := (L1_4.below b4_16).more b4_16.size
      have R4_16 : Below (w.heap.size + 1) wa (w4.alloc (.cells #[uv ts] 22)) := R4.trans (b4_16.mono hs4)
      have hs4_16 : w.heap.size + 1 ≤ (w4.alloc (.cells #[uv ts] 22)).heap.size := Nat.le_trans hs4 b4_16.size
      generalize (w4.alloc (.cells #[uv ts] 22)) = w4_16 at *
      clear hHeld
      refine hK.out _ _ (KS.out _ R4_16) (fun hHeld => ?_)
      clear hK K
      try simp only [Act.put, List.setIfInBounds_toArray, List.set_cons_zero, List.set_cons_succ]
      refine wpAnyH_ready (rs := [5, 12]) (by kernel_rfl) (by simp) ?_
      refine AllReadyH.cons rfl (fun K hK => ?_) (AllReadyH.cons rfl (fun K hK => ?_) AllReadyH.nil)
      · have hP4_16_5 : Calls Tryz.prog 86 #[.int .i64 4, .slice (some ⟨wa.heap.size, 0, none⟩) 2 2] w4_16 fun e w' => ∃ A' c', e = .returned (.slice A' 8 c') ∧ IsB w' w'.heap.size (.slice A' 8 c') (puts 4 [tg, wd]) ∧ Below w4_16.heap.size w4_16 w' := dput_lies 4 (.inr (.inr rfl)) _ [tg, wd] (by simp) w4_16 L1_4_16
        go_simp
        go_at_call 86; (with_reducible refine hP4_16_5.mono ?_); rintro e w4_16_5 ⟨A1_4_16_5, c1_4_16_5, rfl, I1_4_16_5, b4_16_5⟩
        go_wp2_with fail
        have L3_4_16_5 := (L3_4_16.below b4_16_5).more b4_16_5.size
        have R4_16_5 : Below (w.heap.size + 1) wa w4_16_5 := R4_16.trans (b4_16_5.mono hs4_16)
        have hs4_16_5 : w.heap.size + 1 ≤ w4_16_5.heap.size := Nat.le_trans hs4_16 b4_16_5.size
        clear hP4_16_5
        clear hHeld
        refine hK.out _ _ (KS.out _ R4_16_5) (fun hHeld => ?_)
        clear hK K
        try simp only [Act.put, List.setIfInBounds_toArray, List.set_cons_zero, List.set_cons_succ]
        refine wpAnyH_ready (rs := [12]) (by kernel_rfl) (by simp) ?_
        refine AllReadyH.cons rfl (fun K hK => ?_) AllReadyH.nil
        go_simp
        try rw [est1, est2]
        have b4_16_5_12 : Below w4_16_5.heap.size w4_16_5 (w4_16_5.alloc (.cells #[uv (u32of ou.toNat), uv (u32of ii.toNat)] 22)) := (Below.refl _ _).alloc (Nat.le_refl _) _
        have L2_4_16_5_12 : Lies (w4_16_5.alloc (.cells #[uv (u32of ou.toNat), uv (u32of ii.toNat)] 22)) (w4_16_5.alloc (.cells #[uv (u32of ou.toNat), uv (u32of ii.toNat)] 22)).heap.size (some ⟨w4_16_5.heap.size, 0, none⟩) ([u32of ou.toNat, u32of ii.toNat].map uv) := (lies_new w4_16_5 [u32of ou.toNat, u32of ii.toNat]).more (by simp)
        have L3_4_16_5_12 := (L3_4_16_5.below b4_16_5_12).more b4_16_5_12.size
        have I1_4_16_5_12 := I1_4_16_5.up13 b4_16_5_12
        have R4_16_5_12 : Below (w.heap.size + 1) wa (w4_16_5.alloc (.cells #[uv (u32of ou.toNat), uv (u32of ii.toNat)] 22)) := R4_16_5.trans (b4_16_5_12.mono hs4_16_5)
        have hs4_16_5_12 : w.heap.size + 1 ≤ (w4_16_5.alloc (.cells #[uv (u32of ou.toNat), uv (u32of ii.toNat)] 22)).heap.size := Nat.le_trans hs4_16_5 b4_16_5_12.size
        generalize (w4_16_5.alloc (.cells #[uv (u32of ou.toNat), uv (u32of ii.toNat)] 22)) = w4_16_5_12 at *
        clear hHeld
        refine hK.out _ _ (KS.out _ R4_16_5_12) (fun hHeld => ?_)
        clear hK K
        try simp only [Act.put, List.setIfInBounds_toArray, List.set_cons_zero, List.set_cons_succ]
        refine wpAnyH_ready (rs := [13]) (by kernel_rfl) (by simp) ?_
        refine AllReadyH.cons rfl (fun K hK => ?_) AllReadyH.nil
        have hP4_16_5_12_13 : Calls Tryz.prog 86 #[.int .i64 2, .slice (some ⟨w4_16_5.heap.size, 0, none⟩) 2 2] w4_16_5_12 fun e w' => ∃ A' c', e = .returned (.slice A' 4 c') ∧ IsB w' w'.heap.size (.slice A' 4 c') (puts 2 [u32of ou.toNat, u32of ii.toNat]) ∧ Below w4_16_5_12.heap.size w4_16_5_12 w' := dput_lies 2 (.inr (.inl rfl)) _ [u32of ou.toNat, u32of ii.toNat] (by simp) w4_16_5_12 L2_4_16_5_12
        go_simp
        go_at_call 86; (with_reducible refine hP4_16_5_12_13.mono ?_); rintro e w4_16_5_12_13 ⟨A2_4_16_5_12_13, c2_4_16_5_12_13, rfl, I2_4_16_5_12_13, b4_16_5_12_13⟩
        go_wp2_with fail
        have L3_4_16_5_12_13 := (L3_4_16_5_12.below b4_16_5_12_13).more b4_16_5_12_13.size
        have I1_4_16_5_12_13 := I1_4_16_5_12.up13 b4_16_5_12_13
        have R4_16_5_12_13 : Below (w.heap.size + 1) wa w4_16_5_12_13 := R4_16_5_12.trans (b4_16_5_12_13.mono hs4_16_5_12)
        have hs4_16_5_12_13 : w.heap.size + 1 ≤ w4_16_5_12_13.heap.size := Nat.le_trans hs4_16_5_12 b4_16_5_12_13.size
        clear hP4_16_5_12_13
        clear hHeld
        refine hK.out _ _ (KS.out _ R4_16_5_12_13) (fun hHeld => ?_)
        clear hK K
        try simp only [Act.put, List.setIfInBounds_toArray, List.set_cons_zero, List.set_cons_succ]
        refine wpAnyH_ready (rs := [17]) (by kernel_rfl) (by simp) ?_
        refine AllReadyH.cons rfl (fun K hK => ?_) AllReadyH.nil
        have hP4_16_5_12_13_17 : Calls Tryz.prog 86 #[.int .i64 4, .slice (some ⟨w4.heap.size, 0, none⟩) 1 1] w4_16_5_12_13 fun e w' => ∃ A' c', e = .returned (.slice A' 4 c') ∧ IsB w' w'.heap.size (.slice A' 4 c') (puts 4 [ts]) ∧ Below w4_16_5_12_13.heap.size w4_16_5_12_13 w' := dput_lies 4 (.inr (.inr rfl)) _ [ts] (by simp) w4_16_5_12_13 L3_4_16_5_12_13
        go_simp
        go_at_call 86; (with_reducible refine hP4_16_5_12_13_17.mono ?_); rintro e w4_16_5_12_13_17 ⟨A3_4_16_5_12_13_17, c3_4_16_5_12_13_17, rfl, I3_4_16_5_12_13_17, b4_16_5_12_13_17⟩
        go_wp2_with fail
        have I1_4_16_5_12_13_17 := I1_4_16_5_12_13.up13 b4_16_5_12_13_17
        have I2_4_16_5_12_13_17 := I2_4_16_5_12_13.up13 b4_16_5_12_13_17
        have R4_16_5_12_13_17 : Below (w.heap.size + 1) wa w4_16_5_12_13_17 := R4_16_5_12_13.trans (b4_16_5_12_13_17.mono hs4_16_5_12_13)
        have hs4_16_5_12_13_17 : w.heap.size + 1 ≤ w4_16_5_12_13_17.heap.size := Nat.le_trans hs4_16_5_12_13 b4_16_5_12_13_17.size
        clear hP4_16_5_12_13_17
        clear hHeld
        refine hK.out _ _ (KS.out _ R4_16_5_12_13_17) (fun hHeld => ?_)
        clear hK K
        try simp only [Act.put, List.setIfInBounds_toArray, List.set_cons_zero, List.set_cons_succ]
        refine wpAnyH_ready (rs := [18]) (by kernel_rfl) (by simp) ?_
        refine AllReadyH.cons rfl (fun K hK => ?_) AllReadyH.nil
        go_simp
        clear hHeld
        refine hK.out _ _ (KS.out _ (R4_16_5_12_13_17.alloc hs4_16_5_12_13_17 _)) (fun hHeld => ?_)
        clear hK K
        try simp only [Act.put, List.setIfInBounds_toArray, List.set_cons_zero, List.set_cons_succ]
        refine wpAnyH_ready (rs := [19]) (by kernel_rfl) (by simp) ?_
        refine AllReadyH.cons rfl (fun K hK => ?_) AllReadyH.nil
        have hJ : ∀ v1 v2 v3, IsB w4_16_5_12_13_17 w4_16_5_12_13_17.heap.size v1 (puts 4 [tg, wd]) → IsB w4_16_5_12_13_17 w4_16_5_12_13_17.heap.size v2 (puts 2 [u32of ou.toNat, u32of ii.toNat]) → IsB w4_16_5_12_13_17 w4_16_5_12_13_17.heap.size v3 (puts 4 [ts]) → Calls Tryz.prog 83 #[.slice (some ⟨w4_16_5_12_13_17.heap.size, 0, none⟩) 3 3] (w4_16_5_12_13_17.alloc (.cells #[v1, v2, v3] 24)) fun e w' => ∃ A' c', e = .returned (.slice A' 16 c') ∧ w'.ownsRow w4_16_5_12_13_17.heap.size 5 1 (.slice A' 16 c') 16 ((puts 4 [tg, wd] ++ puts 2 [u32of ou.toNat, u32of ii.toNat] ++ puts 4 [ts]).map bv) ∧ Below w4_16_5_12_13_17.heap.size w4_16_5_12_13_17 w' := fun v1 v2 v3 h1 h2 h3 => djoin3_any v1 v2 v3 _ _ _ w4_16_5_12_13_17 h1 h2 h3 16 (by simp [puts_len]) (by omega)
        go_simp
        go_at_call 83; (with_reducible refine (hJ _ _ _ I1_4_16_5_12_13_17 I2_4_16_5_12_13_17 I3_4_16_5_12_13_17).mono ?_); rintro e wz ⟨Az, cz, rfl, iz, bz⟩
        have Rz : Below (w.heap.size + 1) wa wz := R4_16_5_12_13_17.trans (bz.mono hs4_16_5_12_13_17)
        clear hJ
        go_wp2_with fail
        clear hHeld
        refine hK.out _ _ (KS.out _ Rz) (fun hHeld => ?_)
        clear hK K
        try simp only [Act.put, List.setIfInBounds_toArray, List.set_cons_zero, List.set_cons_succ]
        refine take_at (i := 20) (v := ?_) (some 2) rfl (by kernel_rfl) (by kernel_rfl) (by kernel_rfl) (fun _ _ _ h => h) (by kernel_rfl) (Or.inl ⟨by kernel_rfl, ?_⟩) (by assumption) ?_
        rotate_left
        · (intro w hSw; (try dsimp only at hSw); go_simp <;> with_reducible rfl)
        simp only [Act.put, List.setIfInBounds_toArray, List.set_cons_zero, List.set_cons_succ]
        refine wpAnyH_done (by kernel_rfl) ?_ _
        go_wp2_with fail
        go_ret
        rw [HV.out]
        exact ⟨Az, cz, rfl, own_base iz (Nat.le_of_succ_le hs4_16_5_12_13_17), HB.out.trans (Rz.mono (Nat.le_succ _))⟩
      · go_simp
        try rw [est1, est2]
        have b4_16_12 : Below w4_16.heap.size w4_16 (w4_16.alloc (.cells #[uv (u32of ou.toNat), uv (u32of ii.toNat)] 22)) := (Below.refl _ _).alloc (Nat.le_refl _) _
        have L2_4_16_12 : Lies (w4_16.alloc (.cells #[uv (u32of ou.toNat), uv (u32of ii.toNat)] 22)) (w4_16.alloc (.cells #[uv (u32of ou.toNat), uv (u32of ii.toNat)] 22)).heap.size (some ⟨w4_16.heap.size, 0, none⟩) ([u32of ou.toNat, u32of ii.toNat].map uv) := (lies_new w4_16 [u32of ou.toNat, u32of ii.toNat]).more (by simp)
        have L1_4_16_12 := (L1_4_16.below b4_16_12).more b4_16_12.size
        have L3_4_16_12 := (L3_4_16.below b4_16_12).more b4_16_12.size
        have R4_16_12 : Below (w.heap.size + 1) wa (w4_16.alloc (.cells #[uv (u32of ou.toNat), uv (u32of ii.toNat)] 22)) := R4_16.trans (b4_16_12.mono hs4_16)
        have hs4_16_12 : w.heap.size + 1 ≤ (w4_16.alloc (.cells #[uv (u32of ou.toNat), uv (u32of ii.toNat)] 22)).heap.size := Nat.le_trans hs4_16 b4_16_12.size
        generalize (w4_16.alloc (.cells #[uv (u32of ou.toNat), uv (u32of ii.toNat)] 22)) = w4_16_12 at *
        clear hHeld
        refine hK.out _ _ (KS.out _ R4_16_12) (fun hHeld => ?_)
        clear hK K
        try simp only [Act.put, List.setIfInBounds_toArray, List.set_cons_zero, List.set_cons_succ]
        refine wpAnyH_ready (rs := [5]) (by kernel_rfl) (by simp) ?_
        refine AllReadyH.cons rfl (fun K hK => ?_) AllReadyH.nil
        have hP4_16_12_5 : Calls Tryz.prog 86 #[.int .i64 4, .slice (some ⟨wa.heap.size, 0, none⟩) 2 2] w4_16_12 fun e w' => ∃ A' c', e = .returned (.slice A' 8 c') ∧ IsB w' w'.heap.size (.slice A' 8 c') (puts 4 [tg, wd]) ∧ Below w4_16_12.heap.size w4_16_12 w' := dput_lies 4 (.inr (.inr rfl)) _ [tg, wd] (by simp) w4_16_12 L1_4_16_12
        go_simp
        go_at_call 86; (with_reducible refine hP4_16_12_5.mono ?_); rintro e w4_16_12_5 ⟨A1_4_16_12_5, c1_4_16_12_5, rfl, I1_4_16_12_5, b4_16_12_5⟩
        go_wp2_with fail
        have L3_4_16_12_5 := (L3_4_16_12.below b4_16_12_5).more b4_16_12_5.size
        have L2_4_16_12_5 := (L2_4_16_12.below b4_16_12_5).more b4_16_12_5.size
        have R4_16_12_5 : Below (w.heap.size + 1) wa w4_16_12_5 := R4_16_12.trans (b4_16_12_5.mono hs4_16_12)
        have hs4_16_12_5 : w.heap.size + 1 ≤ w4_16_12_5.heap.size := Nat.le_trans hs4_16_12 b4_16_12_5.size
        clear hP4_16_12_5
        clear hHeld
        refine hK.out _ _ (KS.out _ R4_16_12_5) (fun hHeld => ?_)
        clear hK K
        try simp only [Act.put, List.setIfInBounds_toArray, List.set_cons_zero, List.set_cons_succ]
        refine wpAnyH_ready (rs := [13]) (by kernel_rfl) (by simp) ?_
        refine AllReadyH.cons rfl (fun K hK => ?_) AllReadyH.nil
        have hP4_16_12_5_13 : Calls Tryz.prog 86 #[.int .i64 2, .slice (some ⟨w4_16.heap.size, 0, none⟩) 2 2] w4_16_12_5 fun e w' => ∃ A' c', e = .returned (.slice A' 4 c') ∧ IsB w' w'.heap.size (.slice A' 4 c') (puts 2 [u32of ou.toNat, u32of ii.toNat]) ∧ Below w4_16_12_5.heap.size w4_16_12_5 w' := dput_lies 2 (.inr (.inl rfl)) _ [u32of ou.toNat, u32of ii.toNat] (by simp) w4_16_12_5 L2_4_16_12_5
        go_simp
        go_at_call 86; (with_reducible refine hP4_16_12_5_13.mono ?_); rintro e w4_16_12_5_13 ⟨A2_4_16_12_5_13, c2_4_16_12_5_13, rfl, I2_4_16_12_5_13, b4_16_12_5_13⟩
        go_wp2_with fail
        have L3_4_16_12_5_13 := (L3_4_16_12_5.below b4_16_12_5_13).more b4_16_12_5_13.size
        have I1_4_16_12_5_13 := I1_4_16_12_5.up13 b4_16_12_5_13
        have R4_16_12_5_13 : Below (w.heap.size + 1) wa w4_16_12_5_13 := R4_16_12_5.trans (b4_16_12_5_13.mono hs4_16_12_5)
        have hs4_16_12_5_13 : w.heap.size + 1 ≤ w4_16_12_5_13.heap.size := Nat.le_trans hs4_16_12_5 b4_16_12_5_13.size
        clear hP4_16_12_5_13
        clear hHeld
        refine hK.out _ _ (KS.out _ R4_16_12_5_13) (fun hHeld => ?_)
        clear hK K
        try simp only [Act.put, List.setIfInBounds_toArray, List.set_cons_zero, List.set_cons_succ]
        refine wpAnyH_ready (rs := [17]) (by kernel_rfl) (by simp) ?_
        refine AllReadyH.cons rfl (fun K hK => ?_) AllReadyH.nil
        have hP4_16_12_5_13_17 : Calls Tryz.prog 86 #[.int .i64 4, .slice (some ⟨w4.heap.size, 0, none⟩) 1 1] w4_16_12_5_13 fun e w' => ∃ A' c', e = .returned (.slice A' 4 c') ∧ IsB w' w'.heap.size (.slice A' 4 c') (puts 4 [ts]) ∧ Below w4_16_12_5_13.heap.size w4_16_12_5_13 w' := dput_lies 4 (.inr (.inr rfl)) _ [ts] (by simp) w4_16_12_5_13 L3_4_16_12_5_13
        go_simp
        go_at_call 86; (with_reducible refine hP4_16_12_5_13_17.mono ?_); rintro e w4_16_12_5_13_17 ⟨A3_4_16_12_5_13_17, c3_4_16_12_5_13_17, rfl, I3_4_16_12_5_13_17, b4_16_12_5_13_17⟩
        go_wp2_with fail
        have I1_4_16_12_5_13_17 := I1_4_16_12_5_13.up13 b4_16_12_5_13_17
        have I2_4_16_12_5_13_17 := I2_4_16_12_5_13.up13 b4_16_12_5_13_17
        have R4_16_12_5_13_17 : Below (w.heap.size + 1) wa w4_16_12_5_13_17 := R4_16_12_5_13.trans (b4_16_12_5_13_17.mono hs4_16_12_5_13)
        have hs4_16_12_5_13_17 : w.heap.size + 1 ≤ w4_16_12_5_13_17.heap.size := Nat.le_trans hs4_16_12_5_13 b4_16_12_5_13_17.size
        clear hP4_16_12_5_13_17
        clear hHeld
        refine hK.out _ _ (KS.out _ R4_16_12_5_13_17) (fun hHeld => ?_)
        clear hK K
        try simp only [Act.put, List.setIfInBounds_toArray, List.set_cons_zero, List.set_cons_succ]
        refine wpAnyH_ready (rs := [18]) (by kernel_rfl) (by simp) ?_
        refine AllReadyH.cons rfl (fun K hK => ?_) AllReadyH.nil
        go_simp
        clear hHeld
        refine hK.out _ _ (KS.out _ (R4_16_12_5_13_17.alloc hs4_16_12_5_13_17 _)) (fun hHeld => ?_)
        clear hK K
        try simp only [Act.put, List.setIfInBounds_toArray, List.set_cons_zero, List.set_cons_succ]
        refine wpAnyH_ready (rs := [19]) (by kernel_rfl) (by simp) ?_
        refine AllReadyH.cons rfl (fun K hK => ?_) AllReadyH.nil
        have hJ : ∀ v1 v2 v3, IsB w4_16_12_5_13_17 w4_16_12_5_13_17.heap.size v1 (puts 4 [tg, wd]) → IsB w4_16_12_5_13_17 w4_16_12_5_13_17.heap.size v2 (puts 2 [u32of ou.toNat, u32of ii.toNat]) → IsB w4_16_12_5_13_17 w4_16_12_5_13_17.heap.size v3 (puts 4 [ts]) → Calls Tryz.prog 83 #[.slice (some ⟨w4_16_12_5_13_17.heap.size, 0, none⟩) 3 3] (w4_16_12_5_13_17.alloc (.cells #[v1, v2, v3] 24)) fun e w' => ∃ A' c', e = .returned (.slice A' 16 c') ∧ w'.ownsRow w4_16_12_5_13_17.heap.size 5 1 (.slice A' 16 c') 16 ((puts 4 [tg, wd] ++ puts 2 [u32of ou.toNat, u32of ii.toNat] ++ puts 4 [ts]).map bv) ∧ Below w4_16_12_5_13_17.heap.size w4_16_12_5_13_17 w' := fun v1 v2 v3 h1 h2 h3 => djoin3_any v1 v2 v3 _ _ _ w4_16_12_5_13_17 h1 h2 h3 16 (by simp [puts_len]) (by omega)
        go_simp
        go_at_call 83; (with_reducible refine (hJ _ _ _ I1_4_16_12_5_13_17 I2_4_16_12_5_13_17 I3_4_16_12_5_13_17).mono ?_); rintro e wz ⟨Az, cz, rfl, iz, bz⟩
        have Rz : Below (w.heap.size + 1) wa wz := R4_16_12_5_13_17.trans (bz.mono hs4_16_12_5_13_17)
        clear hJ
        go_wp2_with fail
        clear hHeld
        refine hK.out _ _ (KS.out _ Rz) (fun hHeld => ?_)
        clear hK K
        try simp only [Act.put, List.setIfInBounds_toArray, List.set_cons_zero, List.set_cons_succ]
        refine take_at (i := 20) (v := ?_) (some 2) rfl (by kernel_rfl) (by kernel_rfl) (by kernel_rfl) (fun _ _ _ h => h) (by kernel_rfl) (Or.inl ⟨by kernel_rfl, ?_⟩) (by assumption) ?_
        rotate_left
        · (intro w hSw; (try dsimp only at hSw); go_simp <;> with_reducible rfl)
        simp only [Act.put, List.setIfInBounds_toArray, List.set_cons_zero, List.set_cons_succ]
        refine wpAnyH_done (by kernel_rfl) ?_ _
        go_wp2_with fail
        go_ret
        rw [HV.out]
        exact ⟨Az, cz, rfl, own_base iz (Nat.le_of_succ_le hs4_16_12_5_13_17), HB.out.trans (Rz.mono (Nat.le_succ _))⟩
  · go_simp
    try rw [est1, est2]
    have b12 : Below wa.heap.size wa (wa.alloc (.cells #[uv (u32of ou.toNat), uv (u32of ii.toNat)] 22)).drew := below_drew ((Below.refl _ _).alloc (Nat.le_refl _) _)
    have L2_12 : Lies (wa.alloc (.cells #[uv (u32of ou.toNat), uv (u32of ii.toNat)] 22)).drew (wa.alloc (.cells #[uv (u32of ou.toNat), uv (u32of ii.toNat)] 22)).drew.heap.size (some ⟨wa.heap.size, 0, none⟩) ([u32of ou.toNat, u32of ii.toNat].map uv) := ((lies_new wa [u32of ou.toNat, u32of ii.toNat]).below (below_drew (Below.refl _ _))).more (by show _ ≤ (wa.alloc _).heap.size; simp)
    have R12 : Below (w.heap.size + 1) wa (wa.alloc (.cells #[uv (u32of ou.toNat), uv (u32of ii.toNat)] 22)).drew := (Below.refl _ _).trans (b12.mono hs0)
    have hs12 : w.heap.size + 1 ≤ (wa.alloc (.cells #[uv (u32of ou.toNat), uv (u32of ii.toNat)] 22)).drew.heap.size := Nat.le_trans hs0 b12.size
    generalize (wa.alloc (.cells #[uv (u32of ou.toNat), uv (u32of ii.toNat)] 22)).drew = w12 at *
    clear hHeld
    refine hK.out _ _ (KS.out _ R12) (fun hHeld => ?_)
    clear hK K
    try simp only [Act.put, List.setIfInBounds_toArray, List.set_cons_zero, List.set_cons_succ]
    refine wpAnyH_ready (rs := [4, 16]) (by kernel_rfl) (by simp) ?_
    refine AllReadyH.cons rfl (fun K hK => ?_) (AllReadyH.cons rfl (fun K hK => ?_) AllReadyH.nil)
    · go_simp
      have b12_4 : Below w12.heap.size w12 (w12.alloc (.cells #[uv tg, uv wd] 22)) := (Below.refl _ _).alloc (Nat.le_refl _) _
      have L1_12_4 : Lies (w12.alloc (.cells #[uv tg, uv wd] 22)) (w12.alloc (.cells #[uv tg, uv wd] 22)).heap.size (some ⟨w12.heap.size, 0, none⟩) ([tg, wd].map uv) := (lies_new w12 [tg, wd]).more (by simp)
      have L2_12_4 := (L2_12.below b12_4).more b12_4.size
      have R12_4 : Below (w.heap.size + 1) wa (w12.alloc (.cells #[uv tg, uv wd] 22)) := R12.trans (b12_4.mono hs12)
      have hs12_4 : w.heap.size + 1 ≤ (w12.alloc (.cells #[uv tg, uv wd] 22)).heap.size := Nat.le_trans hs12 b12_4.size
      generalize (w12.alloc (.cells #[uv tg, uv wd] 22)) = w12_4 at *
      clear hHeld
      refine hK.out _ _ (KS.out _ R12_4) (fun hHeld => ?_)
      clear hK K
      try simp only [Act.put, List.setIfInBounds_toArray, List.set_cons_zero, List.set_cons_succ]
      refine wpAnyH_ready (rs := [5, 16]) (by kernel_rfl) (by simp) ?_
      refine AllReadyH.cons rfl (fun K hK => ?_) (AllReadyH.cons rfl (fun K hK => ?_) AllReadyH.nil)
      · have hP12_4_5 : Calls Tryz.prog 86 #[.int .i64 4, .slice (some ⟨w12.heap.size, 0, none⟩) 2 2] w12_4 fun e w' => ∃ A' c', e = .returned (.slice A' 8 c') ∧ IsB w' w'.heap.size (.slice A' 8 c') (puts 4 [tg, wd]) ∧ Below w12_4.heap.size w12_4 w' := dput_lies 4 (.inr (.inr rfl)) _ [tg, wd] (by simp) w12_4 L1_12_4
        go_simp
        go_at_call 86; (with_reducible refine hP12_4_5.mono ?_); rintro e w12_4_5 ⟨A1_12_4_5, c1_12_4_5, rfl, I1_12_4_5, b12_4_5⟩
        go_wp2_with fail
        have L2_12_4_5 := (L2_12_4.below b12_4_5).more b12_4_5.size
        have R12_4_5 : Below (w.heap.size + 1) wa w12_4_5 := R12_4.trans (b12_4_5.mono hs12_4)
        have hs12_4_5 : w.heap.size + 1 ≤ w12_4_5.heap.size := Nat.le_trans hs12_4 b12_4_5.size
        clear hP12_4_5
        clear hHeld
        refine hK.out _ _ (KS.out _ R12_4_5) (fun hHeld => ?_)
        clear hK K
        try simp only [Act.put, List.setIfInBounds_toArray, List.set_cons_zero, List.set_cons_succ]
        refine wpAnyH_ready (rs := [13, 16]) (by kernel_rfl) (by simp) ?_
        refine AllReadyH.cons rfl (fun K hK => ?_) (AllReadyH.cons rfl (fun K hK => ?_) AllReadyH.nil)
        · have hP12_4_5_13 : Calls Tryz.prog 86 #[.int .i64 2, .slice (some ⟨wa.heap.size, 0, none⟩) 2 2] w12_4_5 fun e w' => ∃ A' c', e = .returned (.slice A' 4 c') ∧ IsB w' w'.heap.size (.slice A' 4 c') (puts 2 [u32of ou.toNat, u32of ii.toNat]) ∧ Below w12_4_5.heap.size w12_4_5 w' := dput_lies 2 (.inr (.inl rfl)) _ [u32of ou.toNat, u32of ii.toNat] (by simp) w12_4_5 L2_12_4_5
          go_simp
          go_at_call 86; (with_reducible refine hP12_4_5_13.mono ?_); rintro e w12_4_5_13 ⟨A2_12_4_5_13, c2_12_4_5_13, rfl, I2_12_4_5_13, b12_4_5_13⟩
          go_wp2_with fail
          have I1_12_4_5_13 := I1_12_4_5.up13 b12_4_5_13
          have R12_4_5_13 : Below (w.heap.size + 1) wa w12_4_5_13 := R12_4_5.trans (b12_4_5_13.mono hs12_4_5)
          have hs12_4_5_13 : w.heap.size + 1 ≤ w12_4_5_13.heap.size := Nat.le_trans hs12_4_5 b12_4_5_13.size
          clear hP12_4_5_13
          clear hHeld
          refine hK.out _ _ (KS.out _ R12_4_5_13) (fun hHeld => ?_)
          clear hK K
          try simp only [Act.put, List.setIfInBounds_toArray, List.set_cons_zero, List.set_cons_succ]
          refine wpAnyH_ready (rs := [16]) (by kernel_rfl) (by simp) ?_
          refine AllReadyH.cons rfl (fun K hK => ?_) AllReadyH.nil
          go_simp
          have b12_4_5_13_16 : Below w12_4_5_13.heap.size w12_4_5_13 (w12_4_5_13.alloc (.cells #[uv ts] 22)) := (Below.refl _ _).alloc (Nat.le_refl _) _
          have L3_12_4_5_13_16 : Lies (w12_4_5_13.alloc (.cells #[uv ts] 22)) (w12_4_5_13.alloc (.cells #[uv ts] 22)).heap.size (some ⟨w12_4_5_13.heap.size, 0, none⟩) ([ts].map uv) := (lies_new w12_4_5_13 [ts]).more (by simp)
          have I1_12_4_5_13_16 := I1_12_4_5_13.up13 b12_4_5_13_16
          have I2_12_4_5_13_16 := I2_12_4_5_13.up13 b12_4_5_13_16
          have R12_4_5_13_16 : Below (w.heap.size + 1) wa (w12_4_5_13.alloc (.cells #[uv ts] 22)) := R12_4_5_13.trans (b12_4_5_13_16.mono hs12_4_5_13)
          have hs12_4_5_13_16 : w.heap.size + 1 ≤ (w12_4_5_13.alloc (.cells #[uv ts] 22)).heap.size := Nat.le_trans hs12_4_5_13 b12_4_5_13_16.size
          generalize (w12_4_5_13.alloc (.cells #[uv ts] 22)) = w12_4_5_13_16 at *
          clear hHeld
          refine hK.out _ _ (KS.out _ R12_4_5_13_16) (fun hHeld => ?_)
          clear hK K
          try simp only [Act.put, List.setIfInBounds_toArray, List.set_cons_zero, List.set_cons_succ]
          refine wpAnyH_ready (rs := [17]) (by kernel_rfl) (by simp) ?_
          refine AllReadyH.cons rfl (fun K hK => ?_) AllReadyH.nil
          have hP12_4_5_13_16_17 : Calls Tryz.prog 86 #[.int .i64 4, .slice (some ⟨w12_4_5_13.heap.size, 0, none⟩) 1 1] w12_4_5_13_16 fun e w' => ∃ A' c', e = .returned (.slice A' 4 c') ∧ IsB w' w'.heap.size (.slice A' 4 c') (puts 4 [ts]) ∧ Below w12_4_5_13_16.heap.size w12_4_5_13_16 w' := dput_lies 4 (.inr (.inr rfl)) _ [ts] (by simp) w12_4_5_13_16 L3_12_4_5_13_16
          go_simp
          go_at_call 86; (with_reducible refine hP12_4_5_13_16_17.mono ?_); rintro e w12_4_5_13_16_17 ⟨A3_12_4_5_13_16_17, c3_12_4_5_13_16_17, rfl, I3_12_4_5_13_16_17, b12_4_5_13_16_17⟩
          go_wp2_with fail
          have I1_12_4_5_13_16_17 := I1_12_4_5_13_16.up13 b12_4_5_13_16_17
          have I2_12_4_5_13_16_17 := I2_12_4_5_13_16.up13 b12_4_5_13_16_17
          have R12_4_5_13_16_17 : Below (w.heap.size + 1) wa w12_4_5_13_16_17 := R12_4_5_13_16.trans (b12_4_5_13_16_17.mono hs12_4_5_13_16)
          have hs12_4_5_13_16_17 : w.heap.size + 1 ≤ w12_4_5_13_16_17.heap.size := Nat.le_trans hs12_4_5_13_16 b12_4_5_13_16_17.size
          clear hP12_4_5_13_16_17
          clear hHeld
          refine hK.out _ _ (KS.out _ R12_4_5_13_16_17) (fun hHeld => ?_)
          clear hK K
          try simp only [Act.put, List.setIfInBounds_toArray, List.set_cons_zero, List.set_cons_succ]
          refine wpAnyH_ready (rs := [18]) (by kernel_rfl) (by simp) ?_
          refine AllReadyH.cons rfl (fun K hK => ?_) AllReadyH.nil
          go_simp
          clear hHeld
          refine hK.out _ _ (KS.out _ (R12_4_5_13_16_17.alloc hs12_4_5_13_16_17 _)) (fun hHeld => ?_)
          clear hK K
          try simp only [Act.put, List.setIfInBounds_toArray, List.set_cons_zero, List.set_cons_succ]
          refine wpAnyH_ready (rs := [19]) (by kernel_rfl) (by simp) ?_
          refine AllReadyH.cons rfl (fun K hK => ?_) AllReadyH.nil
          have hJ : ∀ v1 v2 v3, IsB w12_4_5_13_16_17 w12_4_5_13_16_17.heap.size v1 (puts 4 [tg, wd]) → IsB w12_4_5_13_16_17 w12_4_5_13_16_17.heap.size v2 (puts 2 [u32of ou.toNat, u32of ii.toNat]) → IsB w12_4_5_13_16_17 w12_4_5_13_16_17.heap.size v3 (puts 4 [ts]) → Calls Tryz.prog 83 #[.slice (some ⟨w12_4_5_13_16_17.heap.size, 0, none⟩) 3 3] (w12_4_5_13_16_17.alloc (.cells #[v1, v2, v3] 24)) fun e w' => ∃ A' c', e = .returned (.slice A' 16 c') ∧ w'.ownsRow w12_4_5_13_16_17.heap.size 5 1 (.slice A' 16 c') 16 ((puts 4 [tg, wd] ++ puts 2 [u32of ou.toNat, u32of ii.toNat] ++ puts 4 [ts]).map bv) ∧ Below w12_4_5_13_16_17.heap.size w12_4_5_13_16_17 w' := fun v1 v2 v3 h1 h2 h3 => djoin3_any v1 v2 v3 _ _ _ w12_4_5_13_16_17 h1 h2 h3 16 (by simp [puts_len]) (by omega)
          go_simp
          go_at_call 83; (with_reducible refine (hJ _ _ _ I1_12_4_5_13_16_17 I2_12_4_5_13_16_17 I3_12_4_5_13_16_17).mono ?_); rintro e wz ⟨Az, cz, rfl, iz, bz⟩
          have Rz : Below (w.heap.size + 1) wa wz := R12_4_5_13_16_17.trans (bz.mono hs12_4_5_13_16_17)
          clear hJ
          go_wp2_with fail
          clear hHeld
          refine hK.out _ _ (KS.out _ Rz) (fun hHeld => ?_)
          clear hK K
          try simp only [Act.put, List.setIfInBounds_toArray, List.set_cons_zero, List.set_cons_succ]
          refine take_at (i := 20) (v := ?_) (some 2) rfl (by kernel_rfl) (by kernel_rfl) (by kernel_rfl) (fun _ _ _ h => h) (by kernel_rfl) (Or.inl ⟨by kernel_rfl, ?_⟩) (by assumption) ?_
          rotate_left
          · (intro w hSw; (try dsimp only at hSw); go_simp <;> with_reducible rfl)
          simp only [Act.put, List.setIfInBounds_toArray, List.set_cons_zero, List.set_cons_succ]
          refine wpAnyH_done (by kernel_rfl) ?_ _
          go_wp2_with fail
          go_ret
          rw [HV.out]
          exact ⟨Az, cz, rfl, own_base iz (Nat.le_of_succ_le hs12_4_5_13_16_17), HB.out.trans (Rz.mono (Nat.le_succ _))⟩
        · go_simp
          have b12_4_5_16 : Below w12_4_5.heap.size w12_4_5 (w12_4_5.alloc (.cells #[uv ts] 22)) := (Below.refl _ _).alloc (Nat.le_refl _) _
          have L3_12_4_5_16 : Lies (w12_4_5.alloc (.cells #[uv ts] 22)) (w12_4_5.alloc (.cells #[uv ts] 22)).heap.size (some ⟨w12_4_5.heap.size, 0, none⟩) ([ts].map uv) := (lies_new w12_4_5 [ts]).more (by simp)
          have L2_12_4_5_16 := (L2_12_4_5.below b12_4_5_16).more b12_4_5_16.size
          have I1_12_4_5_16 := I1_12_4_5.up13 b12_4_5_16
          have R12_4_5_16 : Below (w.heap.size + 1) wa (w12_4_5.alloc (.cells #[uv ts] 22)) := R12_4_5.trans (b12_4_5_16.mono hs12_4_5)
          have hs12_4_5_16 : w.heap.size + 1 ≤ (w12_4_5.alloc (.cells #[uv ts] 22)).heap.size := Nat.le_trans hs12_4_5 b12_4_5_16.size
          generalize (w12_4_5.alloc (.cells #[uv ts] 22)) = w12_4_5_16 at *
          clear hHeld
          refine hK.out _ _ (KS.out _ R12_4_5_16) (fun hHeld => ?_)
          clear hK K
          try simp only [Act.put, List.setIfInBounds_toArray, List.set_cons_zero, List.set_cons_succ]
          refine wpAnyH_ready (rs := [13]) (by kernel_rfl) (by simp) ?_
          refine AllReadyH.cons rfl (fun K hK => ?_) AllReadyH.nil
          have hP12_4_5_16_13 : Calls Tryz.prog 86 #[.int .i64 2, .slice (some ⟨wa.heap.size, 0, none⟩) 2 2] w12_4_5_16 fun e w' => ∃ A' c', e = .returned (.slice A' 4 c') ∧ IsB w' w'.heap.size (.slice A' 4 c') (puts 2 [u32of ou.toNat, u32of ii.toNat]) ∧ Below w12_4_5_16.heap.size w12_4_5_16 w' := dput_lies 2 (.inr (.inl rfl)) _ [u32of ou.toNat, u32of ii.toNat] (by simp) w12_4_5_16 L2_12_4_5_16
          go_simp
          go_at_call 86; (with_reducible refine hP12_4_5_16_13.mono ?_); rintro e w12_4_5_16_13 ⟨A2_12_4_5_16_13, c2_12_4_5_16_13, rfl, I2_12_4_5_16_13, b12_4_5_16_13⟩
          go_wp2_with fail
          have L3_12_4_5_16_13 := (L3_12_4_5_16.below b12_4_5_16_13).more b12_4_5_16_13.size
          have I1_12_4_5_16_13 := I1_12_4_5_16.up13 b12_4_5_16_13
          have R12_4_5_16_13 : Below (w.heap.size + 1) wa w12_4_5_16_13 := R12_4_5_16.trans (b12_4_5_16_13.mono hs12_4_5_16)
          have hs12_4_5_16_13 : w.heap.size + 1 ≤ w12_4_5_16_13.heap.size := Nat.le_trans hs12_4_5_16 b12_4_5_16_13.size
          clear hP12_4_5_16_13
          clear hHeld
          refine hK.out _ _ (KS.out _ R12_4_5_16_13) (fun hHeld => ?_)
          clear hK K
          try simp only [Act.put, List.setIfInBounds_toArray, List.set_cons_zero, List.set_cons_succ]
          refine wpAnyH_ready (rs := [17]) (by kernel_rfl) (by simp) ?_
          refine AllReadyH.cons rfl (fun K hK => ?_) AllReadyH.nil
          have hP12_4_5_16_13_17 : Calls Tryz.prog 86 #[.int .i64 4, .slice (some ⟨w12_4_5.heap.size, 0, none⟩) 1 1] w12_4_5_16_13 fun e w' => ∃ A' c', e = .returned (.slice A' 4 c') ∧ IsB w' w'.heap.size (.slice A' 4 c') (puts 4 [ts]) ∧ Below w12_4_5_16_13.heap.size w12_4_5_16_13 w' := dput_lies 4 (.inr (.inr rfl)) _ [ts] (by simp) w12_4_5_16_13 L3_12_4_5_16_13
          go_simp
          go_at_call 86; (with_reducible refine hP12_4_5_16_13_17.mono ?_); rintro e w12_4_5_16_13_17 ⟨A3_12_4_5_16_13_17, c3_12_4_5_16_13_17, rfl, I3_12_4_5_16_13_17, b12_4_5_16_13_17⟩
          go_wp2_with fail
          have I1_12_4_5_16_13_17 := I1_12_4_5_16_13.up13 b12_4_5_16_13_17
          have I2_12_4_5_16_13_17 := I2_12_4_5_16_13.up13 b12_4_5_16_13_17
          have R12_4_5_16_13_17 : Below (w.heap.size + 1) wa w12_4_5_16_13_17 := R12_4_5_16_13.trans (b12_4_5_16_13_17.mono hs12_4_5_16_13)
          have hs12_4_5_16_13_17 : w.heap.size + 1 ≤ w12_4_5_16_13_17.heap.size := Nat.le_trans hs12_4_5_16_13 b12_4_5_16_13_17.size
          clear hP12_4_5_16_13_17
          clear hHeld
          refine hK.out _ _ (KS.out _ R12_4_5_16_13_17) (fun hHeld => ?_)
          clear hK K
          try simp only [Act.put, List.setIfInBounds_toArray, List.set_cons_zero, List.set_cons_succ]
          refine wpAnyH_ready (rs := [18]) (by kernel_rfl) (by simp) ?_
          refine AllReadyH.cons rfl (fun K hK => ?_) AllReadyH.nil
          go_simp
          clear hHeld
          refine hK.out _ _ (KS.out _ (R12_4_5_16_13_17.alloc hs12_4_5_16_13_17 _)) (fun hHeld => ?_)
          clear hK K
          try simp only [Act.put, List.setIfInBounds_toArray, List.set_cons_zero, List.set_cons_succ]
          refine wpAnyH_ready (rs := [19]) (by kernel_rfl) (by simp) ?_
          refine AllReadyH.cons rfl (fun K hK => ?_) AllReadyH.nil
          have hJ : ∀ v1 v2 v3, IsB w12_4_5_16_13_17 w12_4_5_16_13_17.heap.size v1 (puts 4 [tg, wd]) → IsB w12_4_5_16_13_17 w12_4_5_16_13_17.heap.size v2 (puts 2 [u32of ou.toNat, u32of ii.toNat]) → IsB w12_4_5_16_13_17 w12_4_5_16_13_17.heap.size v3 (puts 4 [ts]) → Calls Tryz.prog 83 #[.slice (some ⟨w12_4_5_16_13_17.heap.size, 0, none⟩) 3 3] (w12_4_5_16_13_17.alloc (.cells #[v1, v2, v3] 24)) fun e w' => ∃ A' c', e = .returned (.slice A' 16 c') ∧ w'.ownsRow w12_4_5_16_13_17.heap.size 5 1 (.slice A' 16 c') 16 ((puts 4 [tg, wd] ++ puts 2 [u32of ou.toNat, u32of ii.toNat] ++ puts 4 [ts]).map bv) ∧ Below w12_4_5_16_13_17.heap.size w12_4_5_16_13_17 w' := fun v1 v2 v3 h1 h2 h3 => djoin3_any v1 v2 v3 _ _ _ w12_4_5_16_13_17 h1 h2 h3 16 (by simp [puts_len]) (by omega)
          go_simp
          go_at_call 83; (with_reducible refine (hJ _ _ _ I1_12_4_5_16_13_17 I2_12_4_5_16_13_17 I3_12_4_5_16_13_17).mono ?_); rintro e wz ⟨Az, cz, rfl, iz, bz⟩
          have Rz : Below (w.heap.size + 1) wa wz := R12_4_5_16_13_17.trans (bz.mono hs12_4_5_16_13_17)
          clear hJ
          go_wp2_with fail
          clear hHeld
          refine hK.out _ _ (KS.out _ Rz) (fun hHeld => ?_)
          clear hK K
          try simp only [Act.put, List.setIfInBounds_toArray, List.set_cons_zero, List.set_cons_succ]
          refine take_at (i := 20) (v := ?_) (some 2) rfl (by kernel_rfl) (by kernel_rfl) (by kernel_rfl) (fun _ _ _ h => h) (by kernel_rfl) (Or.inl ⟨by kernel_rfl, ?_⟩) (by assumption) ?_
          rotate_left
          · (intro w hSw; (try dsimp only at hSw); go_simp <;> with_reducible rfl)
          simp only [Act.put, List.setIfInBounds_toArray, List.set_cons_zero, List.set_cons_succ]
          refine wpAnyH_done (by kernel_rfl) ?_ _
          go_wp2_with fail
          go_ret
          rw [HV.out]
          exact ⟨Az, cz, rfl, own_base iz (Nat.le_of_succ_le hs12_4_5_16_13_17), HB.out.trans (Rz.mono (Nat.le_succ _))⟩
      · go_simp
        have b12_4_16 : Below w12_4.heap.size w12_4 (w12_4.alloc (.cells #[uv ts] 22)) := (Below.refl _ _).alloc (Nat.le_refl _) _
        have L3_12_4_16 : Lies (w12_4.alloc (.cells #[uv ts] 22)) (w12_4.alloc (.cells #[uv ts] 22)).heap.size (some ⟨w12_4.heap.size, 0, none⟩) ([ts].map uv) := (lies_new w12_4 [ts]).more (by simp)
        have L2_12_4_16 := (L2_12_4.below b12_4_16).more b12_4_16.size
        have L1_12_4_16 := (L1_12_4.below b12_4_16).more b12_4_16.size
        have R12_4_16 : Below (w.heap.size + 1) wa (w12_4.alloc (.cells #[uv ts] 22)) := R12_4.trans (b12_4_16.mono hs12_4)
        have hs12_4_16 : w.heap.size + 1 ≤ (w12_4.alloc (.cells #[uv ts] 22)).heap.size := Nat.le_trans hs12_4 b12_4_16.size
        generalize (w12_4.alloc (.cells #[uv ts] 22)) = w12_4_16 at *
        clear hHeld
        refine hK.out _ _ (KS.out _ R12_4_16) (fun hHeld => ?_)
        clear hK K
        try simp only [Act.put, List.setIfInBounds_toArray, List.set_cons_zero, List.set_cons_succ]
        refine wpAnyH_ready (rs := [5]) (by kernel_rfl) (by simp) ?_
        refine AllReadyH.cons rfl (fun K hK => ?_) AllReadyH.nil
        have hP12_4_16_5 : Calls Tryz.prog 86 #[.int .i64 4, .slice (some ⟨w12.heap.size, 0, none⟩) 2 2] w12_4_16 fun e w' => ∃ A' c', e = .returned (.slice A' 8 c') ∧ IsB w' w'.heap.size (.slice A' 8 c') (puts 4 [tg, wd]) ∧ Below w12_4_16.heap.size w12_4_16 w' := dput_lies 4 (.inr (.inr rfl)) _ [tg, wd] (by simp) w12_4_16 L1_12_4_16
        go_simp
        go_at_call 86; (with_reducible refine hP12_4_16_5.mono ?_); rintro e w12_4_16_5 ⟨A1_12_4_16_5, c1_12_4_16_5, rfl, I1_12_4_16_5, b12_4_16_5⟩
        go_wp2_with fail
        have L2_12_4_16_5 := (L2_12_4_16.below b12_4_16_5).more b12_4_16_5.size
        have L3_12_4_16_5 := (L3_12_4_16.below b12_4_16_5).more b12_4_16_5.size
        have R12_4_16_5 : Below (w.heap.size + 1) wa w12_4_16_5 := R12_4_16.trans (b12_4_16_5.mono hs12_4_16)
        have hs12_4_16_5 : w.heap.size + 1 ≤ w12_4_16_5.heap.size := Nat.le_trans hs12_4_16 b12_4_16_5.size
        clear hP12_4_16_5
        clear hHeld
        refine hK.out _ _ (KS.out _ R12_4_16_5) (fun hHeld => ?_)
        clear hK K
        try simp only [Act.put, List.setIfInBounds_toArray, List.set_cons_zero, List.set_cons_succ]
        refine wpAnyH_ready (rs := [13]) (by kernel_rfl) (by simp) ?_
        refine AllReadyH.cons rfl (fun K hK => ?_) AllReadyH.nil
        have hP12_4_16_5_13 : Calls Tryz.prog 86 #[.int .i64 2, .slice (some ⟨wa.heap.size, 0, none⟩) 2 2] w12_4_16_5 fun e w' => ∃ A' c', e = .returned (.slice A' 4 c') ∧ IsB w' w'.heap.size (.slice A' 4 c') (puts 2 [u32of ou.toNat, u32of ii.toNat]) ∧ Below w12_4_16_5.heap.size w12_4_16_5 w' := dput_lies 2 (.inr (.inl rfl)) _ [u32of ou.toNat, u32of ii.toNat] (by simp) w12_4_16_5 L2_12_4_16_5
        go_simp
        go_at_call 86; (with_reducible refine hP12_4_16_5_13.mono ?_); rintro e w12_4_16_5_13 ⟨A2_12_4_16_5_13, c2_12_4_16_5_13, rfl, I2_12_4_16_5_13, b12_4_16_5_13⟩
        go_wp2_with fail
        have L3_12_4_16_5_13 := (L3_12_4_16_5.below b12_4_16_5_13).more b12_4_16_5_13.size
        have I1_12_4_16_5_13 := I1_12_4_16_5.up13 b12_4_16_5_13
        have R12_4_16_5_13 : Below (w.heap.size + 1) wa w12_4_16_5_13 := R12_4_16_5.trans (b12_4_16_5_13.mono hs12_4_16_5)
        have hs12_4_16_5_13 : w.heap.size + 1 ≤ w12_4_16_5_13.heap.size := Nat.le_trans hs12_4_16_5 b12_4_16_5_13.size
        clear hP12_4_16_5_13
        clear hHeld
        refine hK.out _ _ (KS.out _ R12_4_16_5_13) (fun hHeld => ?_)
        clear hK K
        try simp only [Act.put, List.setIfInBounds_toArray, List.set_cons_zero, List.set_cons_succ]
        refine wpAnyH_ready (rs := [17]) (by kernel_rfl) (by simp) ?_
        refine AllReadyH.cons rfl (fun K hK => ?_) AllReadyH.nil
        have hP12_4_16_5_13_17 : Calls Tryz.prog 86 #[.int .i64 4, .slice (some ⟨w12_4.heap.size, 0, none⟩) 1 1] w12_4_16_5_13 fun e w' => ∃ A' c', e = .returned (.slice A' 4 c') ∧ IsB w' w'.heap.size (.slice A' 4 c') (puts 4 [ts]) ∧ Below w12_4_16_5_13.heap.size w12_4_16_5_13 w' := dput_lies 4 (.inr (.inr rfl)) _ [ts] (by simp) w12_4_16_5_13 L3_12_4_16_5_13
        go_simp
        go_at_call 86; (with_reducible refine hP12_4_16_5_13_17.mono ?_); rintro e w12_4_16_5_13_17 ⟨A3_12_4_16_5_13_17, c3_12_4_16_5_13_17, rfl, I3_12_4_16_5_13_17, b12_4_16_5_13_17⟩
        go_wp2_with fail
        have I1_12_4_16_5_13_17 := I1_12_4_16_5_13.up13 b12_4_16_5_13_17
        have I2_12_4_16_5_13_17 := I2_12_4_16_5_13.up13 b12_4_16_5_13_17
        have R12_4_16_5_13_17 : Below (w.heap.size + 1) wa w12_4_16_5_13_17 := R12_4_16_5_13.trans (b12_4_16_5_13_17.mono hs12_4_16_5_13)
        have hs12_4_16_5_13_17 : w.heap.size + 1 ≤ w12_4_16_5_13_17.heap.size := Nat.le_trans hs12_4_16_5_13 b12_4_16_5_13_17.size
        clear hP12_4_16_5_13_17
        clear hHeld
        refine hK.out _ _ (KS.out _ R12_4_16_5_13_17) (fun hHeld => ?_)
        clear hK K
        try simp only [Act.put, List.setIfInBounds_toArray, List.set_cons_zero, List.set_cons_succ]
        refine wpAnyH_ready (rs := [18]) (by kernel_rfl) (by simp) ?_
        refine AllReadyH.cons rfl (fun K hK => ?_) AllReadyH.nil
        go_simp
        clear hHeld
        refine hK.out _ _ (KS.out _ (R12_4_16_5_13_17.alloc hs12_4_16_5_13_17 _)) (fun hHeld => ?_)
        clear hK K
        try simp only [Act.put, List.setIfInBounds_toArray, List.set_cons_zero, List.set_cons_succ]
        refine wpAnyH_ready (rs := [19]) (by kernel_rfl) (by simp) ?_
        refine AllReadyH.cons rfl (fun K hK => ?_) AllReadyH.nil
        have hJ : ∀ v1 v2 v3, IsB w12_4_16_5_13_17 w12_4_16_5_13_17.heap.size v1 (puts 4 [tg, wd]) → IsB w12_4_16_5_13_17 w12_4_16_5_13_17.heap.size v2 (puts 2 [u32of ou.toNat, u32of ii.toNat]) → IsB w12_4_16_5_13_17 w12_4_16_5_13_17.heap.size v3 (puts 4 [ts]) → Calls Tryz.prog 83 #[.slice (some ⟨w12_4_16_5_13_17.heap.size, 0, none⟩) 3 3] (w12_4_16_5_13_17.alloc (.cells #[v1, v2, v3] 24)) fun e w' => ∃ A' c', e = .returned (.slice A' 16 c') ∧ w'.ownsRow w12_4_16_5_13_17.heap.size 5 1 (.slice A' 16 c') 16 ((puts 4 [tg, wd] ++ puts 2 [u32of ou.toNat, u32of ii.toNat] ++ puts 4 [ts]).map bv) ∧ Below w12_4_16_5_13_17.heap.size w12_4_16_5_13_17 w' := fun v1 v2 v3 h1 h2 h3 => djoin3_any v1 v2 v3 _ _ _ w12_4_16_5_13_17 h1 h2 h3 16 (by simp [puts_len]) (by omega)
        go_simp
        go_at_call 83; (with_reducible refine (hJ _ _ _ I1_12_4_16_5_13_17 I2_12_4_16_5_13_17 I3_12_4_16_5_13_17).mono ?_); rintro e wz ⟨Az, cz, rfl, iz, bz⟩
        have Rz : Below (w.heap.size + 1) wa wz := R12_4_16_5_13_17.trans (bz.mono hs12_4_16_5_13_17)
        clear hJ
        go_wp2_with fail
        clear hHeld
        refine hK.out _ _ (KS.out _ Rz) (fun hHeld => ?_)
        clear hK K
        try simp only [Act.put, List.setIfInBounds_toArray, List.set_cons_zero, List.set_cons_succ]
        refine take_at (i := 20) (v := ?_) (some 2) rfl (by kernel_rfl) (by kernel_rfl) (by kernel_rfl) (fun _ _ _ h => h) (by kernel_rfl) (Or.inl ⟨by kernel_rfl, ?_⟩) (by assumption) ?_
        rotate_left
        · (intro w hSw; (try dsimp only at hSw); go_simp <;> with_reducible rfl)
        simp only [Act.put, List.setIfInBounds_toArray, List.set_cons_zero, List.set_cons_succ]
        refine wpAnyH_done (by kernel_rfl) ?_ _
        go_wp2_with fail
        go_ret
        rw [HV.out]
        exact ⟨Az, cz, rfl, own_base iz (Nat.le_of_succ_le hs12_4_16_5_13_17), HB.out.trans (Rz.mono (Nat.le_succ _))⟩
    · go_simp
      have b12_16 : Below w12.heap.size w12 (w12.alloc (.cells #[uv ts] 22)) := (Below.refl _ _).alloc (Nat.le_refl _) _
      have L3_12_16 : Lies (w12.alloc (.cells #[uv ts] 22)) (w12.alloc (.cells #[uv ts] 22)).heap.size (some ⟨w12.heap.size, 0, none⟩) ([ts].map uv) := (lies_new w12 [ts]).more (by simp)
      have L2_12_16 := (L2_12.below b12_16).more b12_16.size
      have R12_16 : Below (w.heap.size + 1) wa (w12.alloc (.cells #[uv ts] 22)) := R12.trans (b12_16.mono hs12)
      have hs12_16 : w.heap.size + 1 ≤ (w12.alloc (.cells #[uv ts] 22)).heap.size := Nat.le_trans hs12 b12_16.size
      generalize (w12.alloc (.cells #[uv ts] 22)) = w12_16 at *
      clear hHeld
      refine hK.out _ _ (KS.out _ R12_16) (fun hHeld => ?_)
      clear hK K
      try simp only [Act.put, List.setIfInBounds_toArray, List.set_cons_zero, List.set_cons_succ]
      refine wpAnyH_ready (rs := [4]) (by kernel_rfl) (by simp) ?_
      refine AllReadyH.cons rfl (fun K hK => ?_) AllReadyH.nil
      go_simp
      have b12_16_4 : Below w12_16.heap.size w12_16 (w12_16.alloc (.cells #[uv tg, uv wd] 22)) := (Below.refl _ _).alloc (Nat.le_refl _) _
      have L1_12_16_4 : Lies (w12_16.alloc (.cells #[uv tg, uv wd] 22)) (w12_16.alloc (.cells #[uv tg, uv wd] 22)).heap.size (some ⟨w12_16.heap.size, 0, none⟩) ([tg, wd].map uv) := (lies_new w12_16 [tg, wd]).more (by simp)
      have L2_12_16_4 := (L2_12_16.below b12_16_4).more b12_16_4.size
      have L3_12_16_4 := (L3_12_16.below b12_16_4).more b12_16_4.size
      have R12_16_4 : Below (w.heap.size + 1) wa (w12_16.alloc (.cells #[uv tg, uv wd] 22)) := R12_16.trans (b12_16_4.mono hs12_16)
      have hs12_16_4 : w.heap.size + 1 ≤ (w12_16.alloc (.cells #[uv tg, uv wd] 22)).heap.size := Nat.le_trans hs12_16 b12_16_4.size
      generalize (w12_16.alloc (.cells #[uv tg, uv wd] 22)) = w12_16_4 at *
      clear hHeld
      refine hK.out _ _ (KS.out _ R12_16_4) (fun hHeld => ?_)
      clear hK K
      try simp only [Act.put, List.setIfInBounds_toArray, List.set_cons_zero, List.set_cons_succ]
      refine wpAnyH_ready (rs := [5]) (by kernel_rfl) (by simp) ?_
      refine AllReadyH.cons rfl (fun K hK => ?_) AllReadyH.nil
      have hP12_16_4_5 : Calls Tryz.prog 86 #[.int .i64 4, .slice (some ⟨w12_16.heap.size, 0, none⟩) 2 2] w12_16_4 fun e w' => ∃ A' c', e = .returned (.slice A' 8 c') ∧ IsB w' w'.heap.size (.slice A' 8 c') (puts 4 [tg, wd]) ∧ Below w12_16_4.heap.size w12_16_4 w' := dput_lies 4 (.inr (.inr rfl)) _ [tg, wd] (by simp) w12_16_4 L1_12_16_4
      go_simp
      go_at_call 86; (with_reducible refine hP12_16_4_5.mono ?_); rintro e w12_16_4_5 ⟨A1_12_16_4_5, c1_12_16_4_5, rfl, I1_12_16_4_5, b12_16_4_5⟩
      go_wp2_with fail
      have L2_12_16_4_5 := (L2_12_16_4.below b12_16_4_5).more b12_16_4_5.size
      have L3_12_16_4_5 := (L3_12_16_4.below b12_16_4_5).more b12_16_4_5.size
      have R12_16_4_5 : Below (w.heap.size + 1) wa w12_16_4_5 := R12_16_4.trans (b12_16_4_5.mono hs12_16_4)
      have hs12_16_4_5 : w.heap.size + 1 ≤ w12_16_4_5.heap.size := Nat.le_trans hs12_16_4 b12_16_4_5.size
      clear hP12_16_4_5
      clear hHeld
      refine hK.out _ _ (KS.out _ R12_16_4_5) (fun hHeld => ?_)
      clear hK K
      try simp only [Act.put, List.setIfInBounds_toArray, List.set_cons_zero, List.set_cons_succ]
      refine wpAnyH_ready (rs := [13]) (by kernel_rfl) (by simp) ?_
      refine AllReadyH.cons rfl (fun K hK => ?_) AllReadyH.nil
      have hP12_16_4_5_13 : Calls Tryz.prog 86 #[.int .i64 2, .slice (some ⟨wa.heap.size, 0, none⟩) 2 2] w12_16_4_5 fun e w' => ∃ A' c', e = .returned (.slice A' 4 c') ∧ IsB w' w'.heap.size (.slice A' 4 c') (puts 2 [u32of ou.toNat, u32of ii.toNat]) ∧ Below w12_16_4_5.heap.size w12_16_4_5 w' := dput_lies 2 (.inr (.inl rfl)) _ [u32of ou.toNat, u32of ii.toNat] (by simp) w12_16_4_5 L2_12_16_4_5
      go_simp
      go_at_call 86; (with_reducible refine hP12_16_4_5_13.mono ?_); rintro e w12_16_4_5_13 ⟨A2_12_16_4_5_13, c2_12_16_4_5_13, rfl, I2_12_16_4_5_13, b12_16_4_5_13⟩
      go_wp2_with fail
      have L3_12_16_4_5_13 := (L3_12_16_4_5.below b12_16_4_5_13).more b12_16_4_5_13.size
      have I1_12_16_4_5_13 := I1_12_16_4_5.up13 b12_16_4_5_13
      have R12_16_4_5_13 : Below (w.heap.size + 1) wa w12_16_4_5_13 := R12_16_4_5.trans (b12_16_4_5_13.mono hs12_16_4_5)
      have hs12_16_4_5_13 : w.heap.size + 1 ≤ w12_16_4_5_13.heap.size := Nat.le_trans hs12_16_4_5 b12_16_4_5_13.size
      clear hP12_16_4_5_13
      clear hHeld
      refine hK.out _ _ (KS.out _ R12_16_4_5_13) (fun hHeld => ?_)
      clear hK K
      try simp only [Act.put, List.setIfInBounds_toArray, List.set_cons_zero, List.set_cons_succ]
      refine wpAnyH_ready (rs := [17]) (by kernel_rfl) (by simp) ?_
      refine AllReadyH.cons rfl (fun K hK => ?_) AllReadyH.nil
      have hP12_16_4_5_13_17 : Calls Tryz.prog 86 #[.int .i64 4, .slice (some ⟨w12.heap.size, 0, none⟩) 1 1] w12_16_4_5_13 fun e w' => ∃ A' c', e = .returned (.slice A' 4 c') ∧ IsB w' w'.heap.size (.slice A' 4 c') (puts 4 [ts]) ∧ Below w12_16_4_5_13.heap.size w12_16_4_5_13 w' := dput_lies 4 (.inr (.inr rfl)) _ [ts] (by simp) w12_16_4_5_13 L3_12_16_4_5_13
      go_simp
      go_at_call 86; (with_reducible refine hP12_16_4_5_13_17.mono ?_); rintro e w12_16_4_5_13_17 ⟨A3_12_16_4_5_13_17, c3_12_16_4_5_13_17, rfl, I3_12_16_4_5_13_17, b12_16_4_5_13_17⟩
      go_wp2_with fail
      have I1_12_16_4_5_13_17 := I1_12_16_4_5_13.up13 b12_16_4_5_13_17
      have I2_12_16_4_5_13_17 := I2_12_16_4_5_13.up13 b12_16_4_5_13_17
      have R12_16_4_5_13_17 : Below (w.heap.size + 1) wa w12_16_4_5_13_17 := R12_16_4_5_13.trans (b12_16_4_5_13_17.mono hs12_16_4_5_13)
      have hs12_16_4_5_13_17 : w.heap.size + 1 ≤ w12_16_4_5_13_17.heap.size := Nat.le_trans hs12_16_4_5_13 b12_16_4_5_13_17.size
      clear hP12_16_4_5_13_17
      clear hHeld
      refine hK.out _ _ (KS.out _ R12_16_4_5_13_17) (fun hHeld => ?_)
      clear hK K
      try simp only [Act.put, List.setIfInBounds_toArray, List.set_cons_zero, List.set_cons_succ]
      refine wpAnyH_ready (rs := [18]) (by kernel_rfl) (by simp) ?_
      refine AllReadyH.cons rfl (fun K hK => ?_) AllReadyH.nil
      go_simp
      clear hHeld
      refine hK.out _ _ (KS.out _ (R12_16_4_5_13_17.alloc hs12_16_4_5_13_17 _)) (fun hHeld => ?_)
      clear hK K
      try simp only [Act.put, List.setIfInBounds_toArray, List.set_cons_zero, List.set_cons_succ]
      refine wpAnyH_ready (rs := [19]) (by kernel_rfl) (by simp) ?_
      refine AllReadyH.cons rfl (fun K hK => ?_) AllReadyH.nil
      have hJ : ∀ v1 v2 v3, IsB w12_16_4_5_13_17 w12_16_4_5_13_17.heap.size v1 (puts 4 [tg, wd]) → IsB w12_16_4_5_13_17 w12_16_4_5_13_17.heap.size v2 (puts 2 [u32of ou.toNat, u32of ii.toNat]) → IsB w12_16_4_5_13_17 w12_16_4_5_13_17.heap.size v3 (puts 4 [ts]) → Calls Tryz.prog 83 #[.slice (some ⟨w12_16_4_5_13_17.heap.size, 0, none⟩) 3 3] (w12_16_4_5_13_17.alloc (.cells #[v1, v2, v3] 24)) fun e w' => ∃ A' c', e = .returned (.slice A' 16 c') ∧ w'.ownsRow w12_16_4_5_13_17.heap.size 5 1 (.slice A' 16 c') 16 ((puts 4 [tg, wd] ++ puts 2 [u32of ou.toNat, u32of ii.toNat] ++ puts 4 [ts]).map bv) ∧ Below w12_16_4_5_13_17.heap.size w12_16_4_5_13_17 w' := fun v1 v2 v3 h1 h2 h3 => djoin3_any v1 v2 v3 _ _ _ w12_16_4_5_13_17 h1 h2 h3 16 (by simp [puts_len]) (by omega)
      go_simp
      go_at_call 83; (with_reducible refine (hJ _ _ _ I1_12_16_4_5_13_17 I2_12_16_4_5_13_17 I3_12_16_4_5_13_17).mono ?_); rintro e wz ⟨Az, cz, rfl, iz, bz⟩
      have Rz : Below (w.heap.size + 1) wa wz := R12_16_4_5_13_17.trans (bz.mono hs12_16_4_5_13_17)
      clear hJ
      go_wp2_with fail
      clear hHeld
      refine hK.out _ _ (KS.out _ Rz) (fun hHeld => ?_)
      clear hK K
      try simp only [Act.put, List.setIfInBounds_toArray, List.set_cons_zero, List.set_cons_succ]
      refine take_at (i := 20) (v := ?_) (some 2) rfl (by kernel_rfl) (by kernel_rfl) (by kernel_rfl) (fun _ _ _ h => h) (by kernel_rfl) (Or.inl ⟨by kernel_rfl, ?_⟩) (by assumption) ?_
      rotate_left
      · (intro w hSw; (try dsimp only at hSw); go_simp <;> with_reducible rfl)
      simp only [Act.put, List.setIfInBounds_toArray, List.set_cons_zero, List.set_cons_succ]
      refine wpAnyH_done (by kernel_rfl) ?_ _
      go_wp2_with fail
      go_ret
      rw [HV.out]
      exact ⟨Az, cz, rfl, own_base iz (Nat.le_of_succ_le hs12_16_4_5_13_17), HB.out.trans (Rz.mono (Nat.le_succ _))⟩
  · go_simp
    have b16 : Below wa.heap.size wa (wa.alloc (.cells #[uv ts] 22)).drew := below_drew ((Below.refl _ _).alloc (Nat.le_refl _) _)
    have L3_16 : Lies (wa.alloc (.cells #[uv ts] 22)).drew (wa.alloc (.cells #[uv ts] 22)).drew.heap.size (some ⟨wa.heap.size, 0, none⟩) ([ts].map uv) := ((lies_new wa [ts]).below (below_drew (Below.refl _ _))).more (by show _ ≤ (wa.alloc _).heap.size; simp)
    have R16 : Below (w.heap.size + 1) wa (wa.alloc (.cells #[uv ts] 22)).drew := (Below.refl _ _).trans (b16.mono hs0)
    have hs16 : w.heap.size + 1 ≤ (wa.alloc (.cells #[uv ts] 22)).drew.heap.size := Nat.le_trans hs0 b16.size
    generalize (wa.alloc (.cells #[uv ts] 22)).drew = w16 at *
    clear hHeld
    refine hK.out _ _ (KS.out _ R16) (fun hHeld => ?_)
    clear hK K
    try simp only [Act.put, List.setIfInBounds_toArray, List.set_cons_zero, List.set_cons_succ]
    refine wpAnyH_ready (rs := [4, 12]) (by kernel_rfl) (by simp) ?_
    refine AllReadyH.cons rfl (fun K hK => ?_) (AllReadyH.cons rfl (fun K hK => ?_) AllReadyH.nil)
    · go_simp
      have b16_4 : Below w16.heap.size w16 (w16.alloc (.cells #[uv tg, uv wd] 22)) := (Below.refl _ _).alloc (Nat.le_refl _) _
      have L1_16_4 : Lies (w16.alloc (.cells #[uv tg, uv wd] 22)) (w16.alloc (.cells #[uv tg, uv wd] 22)).heap.size (some ⟨w16.heap.size, 0, none⟩) ([tg, wd].map uv) := (lies_new w16 [tg, wd]).more (by simp)
      have L3_16_4 := (L3_16.below b16_4).more b16_4.size
      have R16_4 : Below (w.heap.size + 1) wa (w16.alloc (.cells #[uv tg, uv wd] 22)) := R16.trans (b16_4.mono hs16)
      have hs16_4 : w.heap.size + 1 ≤ (w16.alloc (.cells #[uv tg, uv wd] 22)).heap.size := Nat.le_trans hs16 b16_4.size
      generalize (w16.alloc (.cells #[uv tg, uv wd] 22)) = w16_4 at *
      clear hHeld
      refine hK.out _ _ (KS.out _ R16_4) (fun hHeld => ?_)
      clear hK K
      try simp only [Act.put, List.setIfInBounds_toArray, List.set_cons_zero, List.set_cons_succ]
      refine wpAnyH_ready (rs := [5, 12]) (by kernel_rfl) (by simp) ?_
      refine AllReadyH.cons rfl (fun K hK => ?_) (AllReadyH.cons rfl (fun K hK => ?_) AllReadyH.nil)
      · have hP16_4_5 : Calls Tryz.prog 86 #[.int .i64 4, .slice (some ⟨w16.heap.size, 0, none⟩) 2 2] w16_4 fun e w' => ∃ A' c', e = .returned (.slice A' 8 c') ∧ IsB w' w'.heap.size (.slice A' 8 c') (puts 4 [tg, wd]) ∧ Below w16_4.heap.size w16_4 w' := dput_lies 4 (.inr (.inr rfl)) _ [tg, wd] (by simp) w16_4 L1_16_4
        go_simp
        go_at_call 86; (with_reducible refine hP16_4_5.mono ?_); rintro e w16_4_5 ⟨A1_16_4_5, c1_16_4_5, rfl, I1_16_4_5, b16_4_5⟩
        go_wp2_with fail
        have L3_16_4_5 := (L3_16_4.below b16_4_5).more b16_4_5.size
        have R16_4_5 : Below (w.heap.size + 1) wa w16_4_5 := R16_4.trans (b16_4_5.mono hs16_4)
        have hs16_4_5 : w.heap.size + 1 ≤ w16_4_5.heap.size := Nat.le_trans hs16_4 b16_4_5.size
        clear hP16_4_5
        clear hHeld
        refine hK.out _ _ (KS.out _ R16_4_5) (fun hHeld => ?_)
        clear hK K
        try simp only [Act.put, List.setIfInBounds_toArray, List.set_cons_zero, List.set_cons_succ]
        refine wpAnyH_ready (rs := [12]) (by kernel_rfl) (by simp) ?_
        refine AllReadyH.cons rfl (fun K hK => ?_) AllReadyH.nil
        go_simp
        try rw [est1, est2]
        have b16_4_5_12 : Below w16_4_5.heap.size w16_4_5 (w16_4_5.alloc (.cells #[uv (u32of ou.toNat), uv (u32of ii.toNat)] 22)) := (Below.refl _ _).alloc (Nat.le_refl _) _
        have L2_16_4_5_12 : Lies (w16_4_5.alloc (.cells #[uv (u32of ou.toNat), uv (u32of ii.toNat)] 22)) (w16_4_5.alloc (.cells #[uv (u32of ou.toNat), uv (u32of ii.toNat)] 22)).heap.size (some ⟨w16_4_5.heap.size, 0, none⟩) ([u32of ou.toNat, u32of ii.toNat].map uv) := (lies_new w16_4_5 [u32of ou.toNat, u32of ii.toNat]).more (by simp)
        have L3_16_4_5_12 := (L3_16_4_5.below b16_4_5_12).more b16_4_5_12.size
        have I1_16_4_5_12 := I1_16_4_5.up13 b16_4_5_12
        have R16_4_5_12 : Below (w.heap.size + 1) wa (w16_4_5.alloc (.cells #[uv (u32of ou.toNat), uv (u32of ii.toNat)] 22)) := R16_4_5.trans (b16_4_5_12.mono hs16_4_5)
        have hs16_4_5_12 : w.heap.size + 1 ≤ (w16_4_5.alloc (.cells #[uv (u32of ou.toNat), uv (u32of ii.toNat)] 22)).heap.size := Nat.le_trans hs16_4_5 b16_4_5_12.size
        generalize (w16_4_5.alloc (.cells #[uv (u32of ou.toNat), uv (u32of ii.toNat)] 22)) = w16_4_5_12 at *
        clear hHeld
        refine hK.out _ _ (KS.out _ R16_4_5_12) (fun hHeld => ?_)
        clear hK K
        try simp only [Act.put, List.setIfInBounds_toArray, List.set_cons_zero, List.set_cons_succ]
        refine wpAnyH_ready (rs := [13]) (by kernel_rfl) (by simp) ?_
        refine AllReadyH.cons rfl (fun K hK => ?_) AllReadyH.nil
        have hP16_4_5_12_13 : Calls Tryz.prog 86 #[.int .i64 2, .slice (some ⟨w16_4_5.heap.size, 0, none⟩) 2 2] w16_4_5_12 fun e w' => ∃ A' c', e = .returned (.slice A' 4 c') ∧ IsB w' w'.heap.size (.slice A' 4 c') (puts 2 [u32of ou.toNat, u32of ii.toNat]) ∧ Below w16_4_5_12.heap.size w16_4_5_12 w' := dput_lies 2 (.inr (.inl rfl)) _ [u32of ou.toNat, u32of ii.toNat] (by simp) w16_4_5_12 L2_16_4_5_12
        go_simp
        go_at_call 86; (with_reducible refine hP16_4_5_12_13.mono ?_); rintro e w16_4_5_12_13 ⟨A2_16_4_5_12_13, c2_16_4_5_12_13, rfl, I2_16_4_5_12_13, b16_4_5_12_13⟩
        go_wp2_with fail
        have L3_16_4_5_12_13 := (L3_16_4_5_12.below b16_4_5_12_13).more b16_4_5_12_13.size
        have I1_16_4_5_12_13 := I1_16_4_5_12.up13 b16_4_5_12_13
        have R16_4_5_12_13 : Below (w.heap.size + 1) wa w16_4_5_12_13 := R16_4_5_12.trans (b16_4_5_12_13.mono hs16_4_5_12)
        have hs16_4_5_12_13 : w.heap.size + 1 ≤ w16_4_5_12_13.heap.size := Nat.le_trans hs16_4_5_12 b16_4_5_12_13.size
        clear hP16_4_5_12_13
        clear hHeld
        refine hK.out _ _ (KS.out _ R16_4_5_12_13) (fun hHeld => ?_)
        clear hK K
        try simp only [Act.put, List.setIfInBounds_toArray, List.set_cons_zero, List.set_cons_succ]
        refine wpAnyH_ready (rs := [17]) (by kernel_rfl) (by simp) ?_
        refine AllReadyH.cons rfl (fun K hK => ?_) AllReadyH.nil
        have hP16_4_5_12_13_17 : Calls Tryz.prog 86 #[.int .i64 4, .slice (some ⟨wa.heap.size, 0, none⟩) 1 1] w16_4_5_12_13 fun e w' => ∃ A' c', e = .returned (.slice A' 4 c') ∧ IsB w' w'.heap.size (.slice A' 4 c') (puts 4 [ts]) ∧ Below w16_4_5_12_13.heap.size w16_4_5_12_13 w' := dput_lies 4 (.inr (.inr rfl)) _ [ts] (by simp) w16_4_5_12_13 L3_16_4_5_12_13
        go_simp
        go_at_call 86; (with_reducible refine hP16_4_5_12_13_17.mono ?_); rintro e w16_4_5_12_13_17 ⟨A3_16_4_5_12_13_17, c3_16_4_5_12_13_17, rfl, I3_16_4_5_12_13_17, b16_4_5_12_13_17⟩
        go_wp2_with fail
        have I1_16_4_5_12_13_17 := I1_16_4_5_12_13.up13 b16_4_5_12_13_17
        have I2_16_4_5_12_13_17 := I2_16_4_5_12_13.up13 b16_4_5_12_13_17
        have R16_4_5_12_13_17 : Below (w.heap.size + 1) wa w16_4_5_12_13_17 := R16_4_5_12_13.trans (b16_4_5_12_13_17.mono hs16_4_5_12_13)
        have hs16_4_5_12_13_17 : w.heap.size + 1 ≤ w16_4_5_12_13_17.heap.size := Nat.le_trans hs16_4_5_12_13 b16_4_5_12_13_17.size
        clear hP16_4_5_12_13_17
        clear hHeld
        refine hK.out _ _ (KS.out _ R16_4_5_12_13_17) (fun hHeld => ?_)
        clear hK K
        try simp only [Act.put, List.setIfInBounds_toArray, List.set_cons_zero, List.set_cons_succ]
        refine wpAnyH_ready (rs := [18]) (by kernel_rfl) (by simp) ?_
        refine AllReadyH.cons rfl (fun K hK => ?_) AllReadyH.nil
        go_simp
        clear hHeld
        refine hK.out _ _ (KS.out _ (R16_4_5_12_13_17.alloc hs16_4_5_12_13_17 _)) (fun hHeld => ?_)
        clear hK K
        try simp only [Act.put, List.setIfInBounds_toArray, List.set_cons_zero, List.set_cons_succ]
        refine wpAnyH_ready (rs := [19]) (by kernel_rfl) (by simp) ?_
        refine AllReadyH.cons rfl (fun K hK => ?_) AllReadyH.nil
        have hJ : ∀ v1 v2 v3, IsB w16_4_5_12_13_17 w16_4_5_12_13_17.heap.size v1 (puts 4 [tg, wd]) → IsB w16_4_5_12_13_17 w16_4_5_12_13_17.heap.size v2 (puts 2 [u32of ou.toNat, u32of ii.toNat]) → IsB w16_4_5_12_13_17 w16_4_5_12_13_17.heap.size v3 (puts 4 [ts]) → Calls Tryz.prog 83 #[.slice (some ⟨w16_4_5_12_13_17.heap.size, 0, none⟩) 3 3] (w16_4_5_12_13_17.alloc (.cells #[v1, v2, v3] 24)) fun e w' => ∃ A' c', e = .returned (.slice A' 16 c') ∧ w'.ownsRow w16_4_5_12_13_17.heap.size 5 1 (.slice A' 16 c') 16 ((puts 4 [tg, wd] ++ puts 2 [u32of ou.toNat, u32of ii.toNat] ++ puts 4 [ts]).map bv) ∧ Below w16_4_5_12_13_17.heap.size w16_4_5_12_13_17 w' := fun v1 v2 v3 h1 h2 h3 => djoin3_any v1 v2 v3 _ _ _ w16_4_5_12_13_17 h1 h2 h3 16 (by simp [puts_len]) (by omega)
        go_simp
        go_at_call 83; (with_reducible refine (hJ _ _ _ I1_16_4_5_12_13_17 I2_16_4_5_12_13_17 I3_16_4_5_12_13_17).mono ?_); rintro e wz ⟨Az, cz, rfl, iz, bz⟩
        have Rz : Below (w.heap.size + 1) wa wz := R16_4_5_12_13_17.trans (bz.mono hs16_4_5_12_13_17)
        clear hJ
        go_wp2_with fail
        clear hHeld
        refine hK.out _ _ (KS.out _ Rz) (fun hHeld => ?_)
        clear hK K
        try simp only [Act.put, List.setIfInBounds_toArray, List.set_cons_zero, List.set_cons_succ]
        refine take_at (i := 20) (v := ?_) (some 2) rfl (by kernel_rfl) (by kernel_rfl) (by kernel_rfl) (fun _ _ _ h => h) (by kernel_rfl) (Or.inl ⟨by kernel_rfl, ?_⟩) (by assumption) ?_
        rotate_left
        · (intro w hSw; (try dsimp only at hSw); go_simp <;> with_reducible rfl)
        simp only [Act.put, List.setIfInBounds_toArray, List.set_cons_zero, List.set_cons_succ]
        refine wpAnyH_done (by kernel_rfl) ?_ _
        go_wp2_with fail
        go_ret
        rw [HV.out]
        exact ⟨Az, cz, rfl, own_base iz (Nat.le_of_succ_le hs16_4_5_12_13_17), HB.out.trans (Rz.mono (Nat.le_succ _))⟩
      · go_simp
        try rw [est1, est2]
        have b16_4_12 : Below w16_4.heap.size w16_4 (w16_4.alloc (.cells #[uv (u32of ou.toNat), uv (u32of ii.toNat)] 22)) := (Below.refl _ _).alloc (Nat.le_refl _) _
        have L2_16_4_12 : Lies (w16_4.alloc (.cells #[uv (u32of ou.toNat), uv (u32of ii.toNat)] 22)) (w16_4.alloc (.cells #[uv (u32of ou.toNat), uv (u32of ii.toNat)] 22)).heap.size (some ⟨w16_4.heap.size, 0, none⟩) ([u32of ou.toNat, u32of ii.toNat].map uv) := (lies_new w16_4 [u32of ou.toNat, u32of ii.toNat]).more (by simp)
        have L3_16_4_12 := (L3_16_4.below b16_4_12).more b16_4_12.size
        have L1_16_4_12 := (L1_16_4.below b16_4_12).more b16_4_12.size
        have R16_4_12 : Below (w.heap.size + 1) wa (w16_4.alloc (.cells #[uv (u32of ou.toNat), uv (u32of ii.toNat)] 22)) := R16_4.trans (b16_4_12.mono hs16_4)
        have hs16_4_12 : w.heap.size + 1 ≤ (w16_4.alloc (.cells #[uv (u32of ou.toNat), uv (u32of ii.toNat)] 22)).heap.size := Nat.le_trans hs16_4 b16_4_12.size
        generalize (w16_4.alloc (.cells #[uv (u32of ou.toNat), uv (u32of ii.toNat)] 22)) = w16_4_12 at *
        clear hHeld
        refine hK.out _ _ (KS.out _ R16_4_12) (fun hHeld => ?_)
        clear hK K
        try simp only [Act.put, List.setIfInBounds_toArray, List.set_cons_zero, List.set_cons_succ]
        refine wpAnyH_ready (rs := [5]) (by kernel_rfl) (by simp) ?_
        refine AllReadyH.cons rfl (fun K hK => ?_) AllReadyH.nil
        have hP16_4_12_5 : Calls Tryz.prog 86 #[.int .i64 4, .slice (some ⟨w16.heap.size, 0, none⟩) 2 2] w16_4_12 fun e w' => ∃ A' c', e = .returned (.slice A' 8 c') ∧ IsB w' w'.heap.size (.slice A' 8 c') (puts 4 [tg, wd]) ∧ Below w16_4_12.heap.size w16_4_12 w' := dput_lies 4 (.inr (.inr rfl)) _ [tg, wd] (by simp) w16_4_12 L1_16_4_12
        go_simp
        go_at_call 86; (with_reducible refine hP16_4_12_5.mono ?_); rintro e w16_4_12_5 ⟨A1_16_4_12_5, c1_16_4_12_5, rfl, I1_16_4_12_5, b16_4_12_5⟩
        go_wp2_with fail
        have L3_16_4_12_5 := (L3_16_4_12.below b16_4_12_5).more b16_4_12_5.size
        have L2_16_4_12_5 := (L2_16_4_12.below b16_4_12_5).more b16_4_12_5.size
        have R16_4_12_5 : Below (w.heap.size + 1) wa w16_4_12_5 := R16_4_12.trans (b16_4_12_5.mono hs16_4_12)
        have hs16_4_12_5 : w.heap.size + 1 ≤ w16_4_12_5.heap.size := Nat.le_trans hs16_4_12 b16_4_12_5.size
        clear hP16_4_12_5
        clear hHeld
        refine hK.out _ _ (KS.out _ R16_4_12_5) (fun hHeld => ?_)
        clear hK K
        try simp only [Act.put, List.setIfInBounds_toArray, List.set_cons_zero, List.set_cons_succ]
        refine wpAnyH_ready (rs := [13]) (by kernel_rfl) (by simp) ?_
        refine AllReadyH.cons rfl (fun K hK => ?_) AllReadyH.nil
        have hP16_4_12_5_13 : Calls Tryz.prog 86 #[.int .i64 2, .slice (some ⟨w16_4.heap.size, 0, none⟩) 2 2] w16_4_12_5 fun e w' => ∃ A' c', e = .returned (.slice A' 4 c') ∧ IsB w' w'.heap.size (.slice A' 4 c') (puts 2 [u32of ou.toNat, u32of ii.toNat]) ∧ Below w16_4_12_5.heap.size w16_4_12_5 w' := dput_lies 2 (.inr (.inl rfl)) _ [u32of ou.toNat, u32of ii.toNat] (by simp) w16_4_12_5 L2_16_4_12_5
        go_simp
        go_at_call 86; (with_reducible refine hP16_4_12_5_13.mono ?_); rintro e w16_4_12_5_13 ⟨A2_16_4_12_5_13, c2_16_4_12_5_13, rfl, I2_16_4_12_5_13, b16_4_12_5_13⟩
        go_wp2_with fail
        have L3_16_4_12_5_13 := (L3_16_4_12_5.below b16_4_12_5_13).more b16_4_12_5_13.size
        have I1_16_4_12_5_13 := I1_16_4_12_5.up13 b16_4_12_5_13
        have R16_4_12_5_13 : Below (w.heap.size + 1) wa w16_4_12_5_13 := R16_4_12_5.trans (b16_4_12_5_13.mono hs16_4_12_5)
        have hs16_4_12_5_13 : w.heap.size + 1 ≤ w16_4_12_5_13.heap.size := Nat.le_trans hs16_4_12_5 b16_4_12_5_13.size
        clear hP16_4_12_5_13
        clear hHeld
        refine hK.out _ _ (KS.out _ R16_4_12_5_13) (fun hHeld => ?_)
        clear hK K
        try simp only [Act.put, List.setIfInBounds_toArray, List.set_cons_zero, List.set_cons_succ]
        refine wpAnyH_ready (rs := [17]) (by kernel_rfl) (by simp) ?_
        refine AllReadyH.cons rfl (fun K hK => ?_) AllReadyH.nil
        have hP16_4_12_5_13_17 : Calls Tryz.prog 86 #[.int .i64 4, .slice (some ⟨wa.heap.size, 0, none⟩) 1 1] w16_4_12_5_13 fun e w' => ∃ A' c', e = .returned (.slice A' 4 c') ∧ IsB w' w'.heap.size (.slice A' 4 c') (puts 4 [ts]) ∧ Below w16_4_12_5_13.heap.size w16_4_12_5_13 w' := dput_lies 4 (.inr (.inr rfl)) _ [ts] (by simp) w16_4_12_5_13 L3_16_4_12_5_13
        go_simp
        go_at_call 86; (with_reducible refine hP16_4_12_5_13_17.mono ?_); rintro e w16_4_12_5_13_17 ⟨A3_16_4_12_5_13_17, c3_16_4_12_5_13_17, rfl, I3_16_4_12_5_13_17, b16_4_12_5_13_17⟩
        go_wp2_with fail
        have I1_16_4_12_5_13_17 := I1_16_4_12_5_13.up13 b16_4_12_5_13_17
        have I2_16_4_12_5_13_17 := I2_16_4_12_5_13.up13 b16_4_12_5_13_17
        have R16_4_12_5_13_17 : Below (w.heap.size + 1) wa w16_4_12_5_13_17 := R16_4_12_5_13.trans (b16_4_12_5_13_17.mono hs16_4_12_5_13)
        have hs16_4_12_5_13_17 : w.heap.size + 1 ≤ w16_4_12_5_13_17.heap.size := Nat.le_trans hs16_4_12_5_13 b16_4_12_5_13_17.size
        clear hP16_4_12_5_13_17
        clear hHeld
        refine hK.out _ _ (KS.out _ R16_4_12_5_13_17) (fun hHeld => ?_)
        clear hK K
        try simp only [Act.put, List.setIfInBounds_toArray, List.set_cons_zero, List.set_cons_succ]
        refine wpAnyH_ready (rs := [18]) (by kernel_rfl) (by simp) ?_
        refine AllReadyH.cons rfl (fun K hK => ?_) AllReadyH.nil
        go_simp
        clear hHeld
        refine hK.out _ _ (KS.out _ (R16_4_12_5_13_17.alloc hs16_4_12_5_13_17 _)) (fun hHeld => ?_)
        clear hK K
        try simp only [Act.put, List.setIfInBounds_toArray, List.set_cons_zero, List.set_cons_succ]
        refine wpAnyH_ready (rs := [19]) (by kernel_rfl) (by simp) ?_
        refine AllReadyH.cons rfl (fun K hK => ?_) AllReadyH.nil
        have hJ : ∀ v1 v2 v3, IsB w16_4_12_5_13_17 w16_4_12_5_13_17.heap.size v1 (puts 4 [tg, wd]) → IsB w16_4_12_5_13_17 w16_4_12_5_13_17.heap.size v2 (puts 2 [u32of ou.toNat, u32of ii.toNat]) → IsB w16_4_12_5_13_17 w16_4_12_5_13_17.heap.size v3 (puts 4 [ts]) → Calls Tryz.prog 83 #[.slice (some ⟨w16_4_12_5_13_17.heap.size, 0, none⟩) 3 3] (w16_4_12_5_13_17.alloc (.cells #[v1, v2, v3] 24)) fun e w' => ∃ A' c', e = .returned (.slice A' 16 c') ∧ w'.ownsRow w16_4_12_5_13_17.heap.size 5 1 (.slice A' 16 c') 16 ((puts 4 [tg, wd] ++ puts 2 [u32of ou.toNat, u32of ii.toNat] ++ puts 4 [ts]).map bv) ∧ Below w16_4_12_5_13_17.heap.size w16_4_12_5_13_17 w' := fun v1 v2 v3 h1 h2 h3 => djoin3_any v1 v2 v3 _ _ _ w16_4_12_5_13_17 h1 h2 h3 16 (by simp [puts_len]) (by omega)
        go_simp
        go_at_call 83; (with_reducible refine (hJ _ _ _ I1_16_4_12_5_13_17 I2_16_4_12_5_13_17 I3_16_4_12_5_13_17).mono ?_); rintro e wz ⟨Az, cz, rfl, iz, bz⟩
        have Rz : Below (w.heap.size + 1) wa wz := R16_4_12_5_13_17.trans (bz.mono hs16_4_12_5_13_17)
        clear hJ
        go_wp2_with fail
        clear hHeld
        refine hK.out _ _ (KS.out _ Rz) (fun hHeld => ?_)
        clear hK K
        try simp only [Act.put, List.setIfInBounds_toArray, List.set_cons_zero, List.set_cons_succ]
        refine take_at (i := 20) (v := ?_) (some 2) rfl (by kernel_rfl) (by kernel_rfl) (by kernel_rfl) (fun _ _ _ h => h) (by kernel_rfl) (Or.inl ⟨by kernel_rfl, ?_⟩) (by assumption) ?_
        rotate_left
        · (intro w hSw; (try dsimp only at hSw); go_simp <;> with_reducible rfl)
        simp only [Act.put, List.setIfInBounds_toArray, List.set_cons_zero, List.set_cons_succ]
        refine wpAnyH_done (by kernel_rfl) ?_ _
        go_wp2_with fail
        go_ret
        rw [HV.out]
        exact ⟨Az, cz, rfl, own_base iz (Nat.le_of_succ_le hs16_4_12_5_13_17), HB.out.trans (Rz.mono (Nat.le_succ _))⟩
    · go_simp
      try rw [est1, est2]
      have b16_12 : Below w16.heap.size w16 (w16.alloc (.cells #[uv (u32of ou.toNat), uv (u32of ii.toNat)] 22)) := (Below.refl _ _).alloc (Nat.le_refl _) _
      have L2_16_12 : Lies (w16.alloc (.cells #[uv (u32of ou.toNat), uv (u32of ii.toNat)] 22)) (w16.alloc (.cells #[uv (u32of ou.toNat), uv (u32of ii.toNat)] 22)).heap.size (some ⟨w16.heap.size, 0, none⟩) ([u32of ou.toNat, u32of ii.toNat].map uv) := (lies_new w16 [u32of ou.toNat, u32of ii.toNat]).more (by simp)
      have L3_16_12 := (L3_16.below b16_12).more b16_12.size
      have R16_12 : Below (w.heap.size + 1) wa (w16.alloc (.cells #[uv (u32of ou.toNat), uv (u32of ii.toNat)] 22)) := R16.trans (b16_12.mono hs16)
      have hs16_12 : w.heap.size + 1 ≤ (w16.alloc (.cells #[uv (u32of ou.toNat), uv (u32of ii.toNat)] 22)).heap.size := Nat.le_trans hs16 b16_12.size
      generalize (w16.alloc (.cells #[uv (u32of ou.toNat), uv (u32of ii.toNat)] 22)) = w16_12 at *
      clear hHeld
      refine hK.out _ _ (KS.out _ R16_12) (fun hHeld => ?_)
      clear hK K
      try simp only [Act.put, List.setIfInBounds_toArray, List.set_cons_zero, List.set_cons_succ]
      refine wpAnyH_ready (rs := [4]) (by kernel_rfl) (by simp) ?_
      refine AllReadyH.cons rfl (fun K hK => ?_) AllReadyH.nil
      go_simp
      have b16_12_4 : Below w16_12.heap.size w16_12 (w16_12.alloc (.cells #[uv tg, uv wd] 22)) := (Below.refl _ _).alloc (Nat.le_refl _) _
      have L1_16_12_4 : Lies (w16_12.alloc (.cells #[uv tg, uv wd] 22)) (w16_12.alloc (.cells #[uv tg, uv wd] 22)).heap.size (some ⟨w16_12.heap.size, 0, none⟩) ([tg, wd].map uv) := (lies_new w16_12 [tg, wd]).more (by simp)
      have L3_16_12_4 := (L3_16_12.below b16_12_4).more b16_12_4.size
      have L2_16_12_4 := (L2_16_12.below b16_12_4).more b16_12_4.size
      have R16_12_4 : Below (w.heap.size + 1) wa (w16_12.alloc (.cells #[uv tg, uv wd] 22)) := R16_12.trans (b16_12_4.mono hs16_12)
      have hs16_12_4 : w.heap.size + 1 ≤ (w16_12.alloc (.cells #[uv tg, uv wd] 22)).heap.size := Nat.le_trans hs16_12 b16_12_4.size
      generalize (w16_12.alloc (.cells #[uv tg, uv wd] 22)) = w16_12_4 at *
      clear hHeld
      refine hK.out _ _ (KS.out _ R16_12_4) (fun hHeld => ?_)
      clear hK K
      try simp only [Act.put, List.setIfInBounds_toArray, List.set_cons_zero, List.set_cons_succ]
      refine wpAnyH_ready (rs := [5]) (by kernel_rfl) (by simp) ?_
      refine AllReadyH.cons rfl (fun K hK => ?_) AllReadyH.nil
      have hP16_12_4_5 : Calls Tryz.prog 86 #[.int .i64 4, .slice (some ⟨w16_12.heap.size, 0, none⟩) 2 2] w16_12_4 fun e w' => ∃ A' c', e = .returned (.slice A' 8 c') ∧ IsB w' w'.heap.size (.slice A' 8 c') (puts 4 [tg, wd]) ∧ Below w16_12_4.heap.size w16_12_4 w' := dput_lies 4 (.inr (.inr rfl)) _ [tg, wd] (by simp) w16_12_4 L1_16_12_4
      go_simp
      go_at_call 86; (with_reducible refine hP16_12_4_5.mono ?_); rintro e w16_12_4_5 ⟨A1_16_12_4_5, c1_16_12_4_5, rfl, I1_16_12_4_5, b16_12_4_5⟩
      go_wp2_with fail
      have L3_16_12_4_5 := (L3_16_12_4.below b16_12_4_5).more b16_12_4_5.size
      have L2_16_12_4_5 := (L2_16_12_4.below b16_12_4_5).more b16_12_4_5.size
      have R16_12_4_5 : Below (w.heap.size + 1) wa w16_12_4_5 := R16_12_4.trans (b16_12_4_5.mono hs16_12_4)
      have hs16_12_4_5 : w.heap.size + 1 ≤ w16_12_4_5.heap.size := Nat.le_trans hs16_12_4 b16_12_4_5.size
      clear hP16_12_4_5
      clear hHeld
      refine hK.out _ _ (KS.out _ R16_12_4_5) (fun hHeld => ?_)
      clear hK K
      try simp only [Act.put, List.setIfInBounds_toArray, List.set_cons_zero, List.set_cons_succ]
      refine wpAnyH_ready (rs := [13]) (by kernel_rfl) (by simp) ?_
      refine AllReadyH.cons rfl (fun K hK => ?_) AllReadyH.nil
      have hP16_12_4_5_13 : Calls Tryz.prog 86 #[.int .i64 2, .slice (some ⟨w16.heap.size, 0, none⟩) 2 2] w16_12_4_5 fun e w' => ∃ A' c', e = .returned (.slice A' 4 c') ∧ IsB w' w'.heap.size (.slice A' 4 c') (puts 2 [u32of ou.toNat, u32of ii.toNat]) ∧ Below w16_12_4_5.heap.size w16_12_4_5 w' := dput_lies 2 (.inr (.inl rfl)) _ [u32of ou.toNat, u32of ii.toNat] (by simp) w16_12_4_5 L2_16_12_4_5
      go_simp
      go_at_call 86; (with_reducible refine hP16_12_4_5_13.mono ?_); rintro e w16_12_4_5_13 ⟨A2_16_12_4_5_13, c2_16_12_4_5_13, rfl, I2_16_12_4_5_13, b16_12_4_5_13⟩
      go_wp2_with fail
      have L3_16_12_4_5_13 := (L3_16_12_4_5.below b16_12_4_5_13).more b16_12_4_5_13.size
      have I1_16_12_4_5_13 := I1_16_12_4_5.up13 b16_12_4_5_13
      have R16_12_4_5_13 : Below (w.heap.size + 1) wa w16_12_4_5_13 := R16_12_4_5.trans (b16_12_4_5_13.mono hs16_12_4_5)
      have hs16_12_4_5_13 : w.heap.size + 1 ≤ w16_12_4_5_13.heap.size := Nat.le_trans hs16_12_4_5 b16_12_4_5_13.size
      clear hP16_12_4_5_13
      clear hHeld
      refine hK.out _ _ (KS.out _ R16_12_4_5_13) (fun hHeld => ?_)
      clear hK K
      try simp only [Act.put, List.setIfInBounds_toArray, List.set_cons_zero, List.set_cons_succ]
      refine wpAnyH_ready (rs := [17]) (by kernel_rfl) (by simp) ?_
      refine AllReadyH.cons rfl (fun K hK => ?_) AllReadyH.nil
      have hP16_12_4_5_13_17 : Calls Tryz.prog 86 #[.int .i64 4, .slice (some ⟨wa.heap.size, 0, none⟩) 1 1] w16_12_4_5_13 fun e w' => ∃ A' c', e = .returned (.slice A' 4 c') ∧ IsB w' w'.heap.size (.slice A' 4 c') (puts 4 [ts]) ∧ Below w16_12_4_5_13.heap.size w16_12_4_5_13 w' := dput_lies 4 (.inr (.inr rfl)) _ [ts] (by simp) w16_12_4_5_13 L3_16_12_4_5_13
      go_simp
      go_at_call 86; (with_reducible refine hP16_12_4_5_13_17.mono ?_); rintro e w16_12_4_5_13_17 ⟨A3_16_12_4_5_13_17, c3_16_12_4_5_13_17, rfl, I3_16_12_4_5_13_17, b16_12_4_5_13_17⟩
      go_wp2_with fail
      have I1_16_12_4_5_13_17 := I1_16_12_4_5_13.up13 b16_12_4_5_13_17
      have I2_16_12_4_5_13_17 := I2_16_12_4_5_13.up13 b16_12_4_5_13_17
      have R16_12_4_5_13_17 : Below (w.heap.size + 1) wa w16_12_4_5_13_17 := R16_12_4_5_13.trans (b16_12_4_5_13_17.mono hs16_12_4_5_13)
      have hs16_12_4_5_13_17 : w.heap.size + 1 ≤ w16_12_4_5_13_17.heap.size := Nat.le_trans hs16_12_4_5_13 b16_12_4_5_13_17.size
      clear hP16_12_4_5_13_17
      clear hHeld
      refine hK.out _ _ (KS.out _ R16_12_4_5_13_17) (fun hHeld => ?_)
      clear hK K
      try simp only [Act.put, List.setIfInBounds_toArray, List.set_cons_zero, List.set_cons_succ]
      refine wpAnyH_ready (rs := [18]) (by kernel_rfl) (by simp) ?_
      refine AllReadyH.cons rfl (fun K hK => ?_) AllReadyH.nil
      go_simp
      clear hHeld
      refine hK.out _ _ (KS.out _ (R16_12_4_5_13_17.alloc hs16_12_4_5_13_17 _)) (fun hHeld => ?_)
      clear hK K
      try simp only [Act.put, List.setIfInBounds_toArray, List.set_cons_zero, List.set_cons_succ]
      refine wpAnyH_ready (rs := [19]) (by kernel_rfl) (by simp) ?_
      refine AllReadyH.cons rfl (fun K hK => ?_) AllReadyH.nil
      have hJ : ∀ v1 v2 v3, IsB w16_12_4_5_13_17 w16_12_4_5_13_17.heap.size v1 (puts 4 [tg, wd]) → IsB w16_12_4_5_13_17 w16_12_4_5_13_17.heap.size v2 (puts 2 [u32of ou.toNat, u32of ii.toNat]) → IsB w16_12_4_5_13_17 w16_12_4_5_13_17.heap.size v3 (puts 4 [ts]) → Calls Tryz.prog 83 #[.slice (some ⟨w16_12_4_5_13_17.heap.size, 0, none⟩) 3 3] (w16_12_4_5_13_17.alloc (.cells #[v1, v2, v3] 24)) fun e w' => ∃ A' c', e = .returned (.slice A' 16 c') ∧ w'.ownsRow w16_12_4_5_13_17.heap.size 5 1 (.slice A' 16 c') 16 ((puts 4 [tg, wd] ++ puts 2 [u32of ou.toNat, u32of ii.toNat] ++ puts 4 [ts]).map bv) ∧ Below w16_12_4_5_13_17.heap.size w16_12_4_5_13_17 w' := fun v1 v2 v3 h1 h2 h3 => djoin3_any v1 v2 v3 _ _ _ w16_12_4_5_13_17 h1 h2 h3 16 (by simp [puts_len]) (by omega)
      go_simp
      go_at_call 83; (with_reducible refine (hJ _ _ _ I1_16_12_4_5_13_17 I2_16_12_4_5_13_17 I3_16_12_4_5_13_17).mono ?_); rintro e wz ⟨Az, cz, rfl, iz, bz⟩
      have Rz : Below (w.heap.size + 1) wa wz := R16_12_4_5_13_17.trans (bz.mono hs16_12_4_5_13_17)
      clear hJ
      go_wp2_with fail
      clear hHeld
      refine hK.out _ _ (KS.out _ Rz) (fun hHeld => ?_)
      clear hK K
      try simp only [Act.put, List.setIfInBounds_toArray, List.set_cons_zero, List.set_cons_succ]
      refine take_at (i := 20) (v := ?_) (some 2) rfl (by kernel_rfl) (by kernel_rfl) (by kernel_rfl) (fun _ _ _ h => h) (by kernel_rfl) (Or.inl ⟨by kernel_rfl, ?_⟩) (by assumption) ?_
      rotate_left
      · (intro w hSw; (try dsimp only at hSw); go_simp <;> with_reducible rfl)
      simp only [Act.put, List.setIfInBounds_toArray, List.set_cons_zero, List.set_cons_succ]
      refine wpAnyH_done (by kernel_rfl) ?_ _
      go_wp2_with fail
      go_ret
      rw [HV.out]
      exact ⟨Az, cz, rfl, own_base iz (Nat.le_of_succ_le hs16_12_4_5_13_17), HB.out.trans (Rz.mono (Nat.le_succ _))⟩
end Go.Proofs.YtdcppcoldaaldaaGreatDoor


