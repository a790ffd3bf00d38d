/- Layer 16: Merge (of the program). It writes nothing that was there. -/
import Derived.Test.YtmohbkniekeafaaGreatDoorRFwdU

namespace Go.Proofs.YtmohbkniekeafaaGreatDoor
open Go.RowKit Go.WideMaps Go.Maps

set_option linter.unusedSimpArgs false
set_option maxRecDepth 100000 in
set_option maxHeartbeats 8000000 in
theorem fmerge_any (l : List Fs) (A : Option Addr) (c : Nat) (w : World) (h : FsL w w.heap.size A c l) (hl : l.length ≤ 12) (hne : l ≠ []) :
    Calls Tryz.prog 34 #[.slice A l.length c] w fun e w' => ∃ (A' : Option Addr) (c' : Nat) (m : List Fs), e = .returned (.slice A' m.length c') ∧ MgF l m ∧ w'.ownsRow w.heap.size 70 3 (.slice A' m.length c') m.length (fsFlat m) ∧ Below w.heap.size w w' := by
  have HG := Lib.hid h
  have hmm := @run_makeMap Tryz.prog
  have m0 := World.ownsMap_made w Tryz.prog 140 fsR
  have b0 : Below w.heap.size w (w.alloc (.map #[] 0)) := (Below.refl _ w).alloc (Nat.le_refl _) _
  clear h
  go_enter Tryz.func34, Tryz.ntmps34
  go_upto_region 2 with fail
  generalize w.alloc (.map #[] 0) = wa at *
  clear hmm
  go_wp2_with fail
  go_loopw [9] (fun i wr => ∃ k : Nat, k ≤ l.length ∧ i = .int .i64 (k : Int) ∧ Hid (wr.ownsMap Tryz.prog 140 fsR w.heap.size k (mDat (l.take k))) ∧ Below w.heap.size w wr) (fun i _ => l.length - (intOf i).toNat)
  case atStart => exact ⟨0, Nat.zero_le _, rfl, m0, b0⟩
  case round =>
    obtain ⟨k, hk, rfl, hM, hbel⟩ := hrel
    by_cases hlt : k < l.length
    · obtain ⟨s, hs⟩ : ∃ s, l[k]? = some s := ⟨_, List.getElem?_eq_getElem hlt⟩
      obtain ⟨ad, rfl, hadb, c0, c1, c2⟩ := (HG.out.below hbel).at_ hs
      have hi1 : (k : Int) < (l.length : Int) := by omega
      have HT : Hid (mDat (l.take (k + 1)) = (mDat (l.take k)).put (kP s.st (unN s.un)) (dF s)) := Lib.hid (by rw [take_some hs, mDat_snoc])
      clear hs m0 b0
      go_upto_region 5 with fail
      have x5 := Whole.new wr 70 #[hv s.st, .bool s.un, uv s.sq]
      have B5 : Below w.heap.size w (wr.alloc (.cells #[hv s.st, .bool s.un, uv s.sq] 70)) := hbel.alloc hbel.size _
      have M5 : Hid (World.ownsMap (wr.alloc (.cells #[hv s.st, .bool s.un, uv s.sq] 70)) Tryz.prog 140 fsR w.heap.size k (mDat (l.take k))) := Lib.hid (hM.out.alloc _)
      have hmb : w.heap.size < wr.heap.size := hM.out.lt
      generalize (wr.alloc (.cells #[hv s.st, .bool s.un, uv s.sq] 70)) = w5 at *
      generalize wr.heap.size = g5 at x5 hmb ⊢
      have hx5 := x5.lt
      have KS : Hid (∀ W, Below w5.heap.size w5 W → W.cell? ⟨g5, 0, none⟩ = some (hv s.st) ∧ W.cell? ⟨g5, 1, none⟩ = some (.bool s.un) ∧ W.cell? ⟨g5, 2, none⟩ = some (uv s.sq)) := Lib.hid (fun W hW => wh3 (x5.below hW hx5))
      have HP := Lib.hid (place_any s)
      have HK := Lib.hid (fun W => key2u s.st (unN s.un) W)
      clear c0 c1 c2 hM
      refine wp_region_held_drew (S := (fun W => W.cell? ⟨g5, 0, none⟩ = some (hv s.st) ∧ W.cell? ⟨g5, 1, none⟩ = some (.bool s.un) ∧ W.cell? ⟨g5, 2, none⟩ = some (uv s.sq))) (by kernel_rfl) (KS.out _ (below_drew (Below.refl _ _))) (fun hHeld => ?_)
      refine take_at (i := 0) (v := ?_) (some 13) rfl (by kernel_rfl) (by kernel_rfl) (by kernel_rfl) (fun _ _ _ h => h) (by kernel_rfl) (Or.inl ⟨by kernel_rfl, ?_⟩) (by assumption) ?_
      rotate_left
      · (intro w hSw; (try dsimp only at hSw); go_simp <;> with_reducible rfl)
      simp only [Act.put, List.setIfInBounds_toArray, List.set_cons_zero, List.set_cons_succ]
      refine take_at (i := 1) (v := ?_) (some 14) rfl (by kernel_rfl) (by kernel_rfl) (by kernel_rfl) (fun _ _ _ h => h) (by kernel_rfl) (Or.inl ⟨by kernel_rfl, ?_⟩) (by assumption) ?_
      rotate_left
      · (intro w hSw; (try dsimp only at hSw); go_simp <;> with_reducible rfl)
      simp only [Act.put, List.setIfInBounds_toArray, List.set_cons_zero, List.set_cons_succ]
      refine take_at (i := 3) (v := ?_) (some 16) rfl (by kernel_rfl) (by kernel_rfl) (by kernel_rfl) (fun _ _ _ h => h) (by kernel_rfl) (Or.inl ⟨by kernel_rfl, ?_⟩) (by assumption) ?_
      rotate_left
      · (intro w hSw; (try dsimp only at hSw); go_simp <;> with_reducible rfl)
      simp only [Act.put, List.setIfInBounds_toArray, List.set_cons_zero, List.set_cons_succ]
      refine wpAnyH_ready (rs := [2]) (by kernel_rfl) (by simp) ?_
      refine AllReadyH.cons rfl (fun K hK => ?_) AllReadyH.nil
      go_simp
      (with_reducible refine (HP.out w5.drew).mono ?_); rintro e w6 ⟨rfl, b6⟩
      go_wp2_with fail
      have B6 : Below w5.heap.size w5 w6 := (below_drew (Below.refl _ _)).trans b6
      have M6 : w6.ownsMap Tryz.prog 140 fsR w.heap.size k (mDat (l.take k)) := M5.out.kept (grown_of_below B6) (by simp)
      clear b6
      clear hHeld
      refine hK.out _ _ (KS.out _ B6) (fun hHeld => ?_)
      clear hK K
      try simp only [Act.put, List.setIfInBounds_toArray, List.set_cons_zero, List.set_cons_succ]
      refine wpAnyH_ready (rs := [4]) (by kernel_rfl) (by simp) ?_
      refine AllReadyH.cons rfl (fun K hK => ?_) AllReadyH.nil
      refine wp_mapUpdate16 w6 (.tmp 13) (.tmp 15) (.tmp 16) 139 rfl 140 70 law2u Tryz.underlying139 fsR w.heap.size k _ rfl M6 (by unfold maxLen; omega) _ _ _ rfl rfl (HK.out w6) _ [] (fsR_eq s) ?_
      intro w7 M7 gr7
      have B7 : Below w.heap.size w w7 := (B5.trans (B6.mono B5.size)).grown gr7 (by have := B6.size; omega) (fun r e => by cases e; omega)
      have x7 : Whole w7 g5 70 #[hv s.st, .bool s.un, uv s.sq] := (x5.below B6 hx5).grown gr7 (fun e => by cases e; omega)
      clear hHeld
      refine hK.out _ _ (wh3 x7) (fun hHeld => ?_)
      clear hK K
      try simp only [Act.put, List.setIfInBounds_toArray, List.set_cons_zero, List.set_cons_succ]
      refine wpAnyH_done (by kernel_rfl) ?_ _
      go_wp2_with fail
      go_roundw
      case rel => exact ⟨k + 1, by omega, by go_num, Lib.hid (by rw [HT.out]; exact M7), B7⟩
      case measure => simp [intOf]; omega
    · obtain rfl : k = l.length := by omega
      have hi1 : ¬ (l.length : Int) < (l.length : Int) := by omega
      rw [List.take_length] at hM
      have HV := Lib.hid (callsIn_wide.1 (vals_in 5 (some w.heap.size) wr))
      have hlt := hM.out.lt
      have B8 := hbel.alloc hbel.size (.cells #[.map (some w.heap.size)] 139)
      have x8 := Whole.new wr 139 #[.map (some w.heap.size)]
      have M8 := hM.out.alloc (.cells #[.map (some w.heap.size)] 139)
      clear m0 b0 hM hbel
      go_wp2_with fail
      refine HV.out.mono ?_
      rintro e w8 ⟨rfl, rfl⟩
      generalize wr.alloc (.cells #[.map (some w.heap.size)] 139) = w8 at *
      generalize wr.heap.size = g8 at *
      have HS := Lib.hid (sortedF_any g8 w.heap.size l.length l hl hne w8 x8.lt (by rw [x8.cell]; rfl) M8)
      clear HV x8 M8
      go_wp2_with fail
      refine HS.out.mono ?_
      rintro e w9 ⟨A9, c9, m, rfl, hm, o9, b9⟩
      have O9 := Lib.hid (own_baseS o9 B8.size)
      have HM := Lib.hid hm
      clear HS hm o9
      go_wp2_with fail
      go_ret
      exact ⟨A9, c9, m, rfl, HM.out, O9.out, B8.trans (b9.mono B8.size)⟩
end Go.Proofs.YtmohbkniekeafaaGreatDoor


