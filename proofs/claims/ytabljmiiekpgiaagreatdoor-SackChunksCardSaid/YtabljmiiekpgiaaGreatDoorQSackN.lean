/- Layer 14: the reference's Same of a description and itself. It writes nothing that was there. -/
import Derived.Test.YtabljmiiekpgiaaGreatDoorQSKA
import Derived.Test.YtabljmiiekpgiaaGreatDoorQNF
import Derived.Deep.RegionHeld3
import Derived.Deep.Cut




namespace Go.Proofs.YtabljmiiekpgiaaGreatDoor
open Go.RowKit

set_option linter.unusedSimpArgs false
theorem eq_gapR (T : TypeId) (hT : T = 89) (a b : UInt16) (w : World) : (Op.equalIn 10000 T (.agg #[hv a, hv b]) (.agg #[hv a, hv b])).run Tryz.prog w = .ok true w := by
  subst hT
  have hh : ∀ x y : Int, (Op.equalIn 9999 27 (.int .u16 x) (.int .u16 y)).run Tryz.prog w = .ok (x == y) w := fun x y => run_equalIn_int w 9998 27 .u16 .u16 x y Tryz.underlying27
  have hf : (Tryz.prog.fieldsOf 89).toList.map (fun f => (f.name == "_", f.type, f.offset)) = [(false, 27, 0), (false, 27, 1)] := by kernel_rfl
  obtain ⟨i2, hi2, hs2⟩ := Option.map_eq_some_iff.1 size_u16
  rw [show (10000 : Nat) = 9999 + 1 from rfl, run_equalIn_struct w 9999 89 _ _ (by kernel_rfl) (by kernel_rfl)]
  generalize (Tryz.prog.fieldsOf 89).toList = fs at *
  rcases fs with _ | ⟨f0, _ | ⟨f1, _ | ⟨f2, fs⟩⟩⟩ <;> simp at hf
  obtain ⟨⟨n0, t0, o0⟩, ⟨n1, t1, o1⟩⟩ := hf
  simp [Op.eqFields, n0, n1, t0, t1, o0, o1, go_sem, part, sizeOf, typeInfo, hi2, hs2, hh]
set_option maxRecDepth 100000 in
set_option maxHeartbeats 8000000 in
theorem rsame14_self (s : Sk) (G : Option Addr) (gc : Nat) (D : Option Addr) (dc : Nat) (G' : Option Addr) (gc' : Nat) (D' : Option Addr) (dc' : Nat) (w : World) (h : SkL w w.heap.size G gc D dc s) (h' : SkL w w.heap.size G' gc' D' dc' s) :
    Calls Tryz.prog 20 #[skV s G gc D dc, skV s G' gc' D' dc'] w fun e w' => e = .returned (.bool true) ∧ Below w.heap.size w w' := by
  have b0 : Below w.heap.size w ((w.alloc (.cells (skCells s G gc D dc) 26)).alloc (.cells (skCells s G' gc' D' dc') 26)) := ((Below.refl _ w).alloc (Nat.le_refl _) _).alloc (by simp) _
  have x0 := (Whole.new w 26 (skCells s G gc D dc)).alloc (.cells (skCells s G' gc' D' dc') 26)
  have y0 := Whole.new (w.alloc (.cells (skCells s G gc D dc) 26)) 26 (skCells s G' gc' D' dc')
  rw [World.size_alloc] at y0
  have hgl : s.gs.length ≤ 9223372036854775807 := by have := h.gl.c1; have := h.gl.c2; unfold maxLen at this; omega
  have hdl : s.ds.length ≤ 9223372036854775807 := by have := h.d1; have := h.d2; unfold maxLen at this; omega
  have H1 := Lib.hid (h.on b0)
  have H2 := Lib.hid (h'.on b0)
  have HB := Lib.hid b0
  have hng : ((s.gs.length : Int) != (s.gs.length : Int)) = false := by simp
  have hnd : ((s.ds.length : Int) != (s.ds.length : Int)) = false := by simp
  have hnc : ((s.cum.toNat : Int) != (s.cum.toNat : Int)) = false := by simp
  have hnw : ((s.win.toNat : Int) != (s.win.toNat : Int)) = false := by simp
  clear h h' b0
  obtain ⟨cum, win, gs, ds⟩ := s
  simp only [skV, skCells] at *
  obtain ⟨q0, q1, q2, q3⟩ := wh4 x0
  obtain ⟨m0, m1, m2, m3⟩ := wh4 y0
  generalize hwa : (w.alloc (.cells #[uv cum, uv win, .slice G gs.length gc, .slice D ds.length dc] 26)).alloc (.cells #[uv cum, uv win, .slice G' gs.length gc', .slice D' ds.length dc'] 26) = wa at *
  have HW := Lib.hid hwa
  have xl := x0.lt
  have yl := y0.lt
  clear hwa
  go_enter Tryz.func20, Tryz.ntmps20
  go_upto_region 1 with fail
  rw [HW.out]
  go_upto_region 3 with fail
  go_upto_region 4 with fail
  go_loopw [5] (fun i wr => ∃ j : Nat, j ≤ gs.length ∧ i = .int .i64 (j : Int) ∧ Below wa.heap.size wa wr) (fun i _ => gs.length - (intOf i).toNat)
  case atStart => exact ⟨0, Nat.zero_le _, rfl, Below.refl _ _⟩
  case round =>
    obtain ⟨j, hj, rfl, hbel⟩ := hrel
    have r2 := (hbel.cell (p := ⟨w.heap.size, 2, none⟩) xl).trans q2
    have s2 := (hbel.cell (p := ⟨w.heap.size + 1, 2, none⟩) yl).trans m2
    by_cases hlt : j < gs.length
    · obtain ⟨g, hg⟩ : ∃ g, gs[j]? = some g := ⟨_, List.getElem?_eq_getElem hlt⟩
      obtain ⟨ad, rfl, hadb, c0, c1⟩ := (H1.out.gl.on hbel).at_ hg
      obtain ⟨ad2, rfl, hadb2, d0, d1⟩ := (H2.out.gl.on hbel).at_ hg
      have hi1 : (j : Int) < (gs.length : Int) := by omega
      have HE := Lib.hid (fun W => eq_gapR 89 rfl g.f g.t W)
      have HB1 := Lib.hid hbel
      clear hg hbel q0 q1 q2 q3 m0 m1 m2 m3 x0 y0
      go_upto_region 6 with fail
      refine wp_region_held_drew (S := (fun W => W.cell? ⟨w.heap.size, 2, none⟩ = some (.slice (some ad) gs.length gc) ∧ W.cell? ⟨w.heap.size + 1, 2, none⟩ = some (.slice (some ad2) gs.length gc') ∧ W.cell? (ad.add (j * 2)) = some (hv g.f) ∧ W.cell? ⟨(ad.add (j * 2)).block, (ad.add (j * 2)).off + 1, none⟩ = some (hv g.t) ∧ W.cell? (ad2.add (j * 2)) = some (hv g.f) ∧ W.cell? ⟨(ad2.add (j * 2)).block, (ad2.add (j * 2)).off + 1, none⟩ = some (hv g.t))) (by kernel_rfl) ⟨r2, s2, c0, c1, d0, d1⟩ (fun hHeld => ?_)
      refine take_at (i := 0) (v := ?_) (some 44) rfl (by kernel_rfl) (by kernel_rfl) (by kernel_rfl) (fun _ _ _ h => h) (by kernel_rfl) (Or.inl ⟨by kernel_rfl, ?_⟩) (by assumption) ?_
      rotate_left
      · (intro w hSw; (try dsimp only at hSw); go_simp <;> with_reducible rfl)
      simp only [Act.put, List.setIfInBounds_toArray, List.set_cons_zero, List.set_cons_succ]
      refine take_at (i := 1) (v := ?_) (some 45) rfl (by kernel_rfl) (by kernel_rfl) (by kernel_rfl) (fun _ _ _ h => h) (by kernel_rfl) (Or.inl ⟨by kernel_rfl, ?_⟩) (by assumption) ?_
      rotate_left
      · (intro w hSw; (try dsimp only at hSw); go_simp <;> with_reducible rfl)
      simp only [Act.put, List.setIfInBounds_toArray, List.set_cons_zero, List.set_cons_succ]
      refine take_at (i := 2) (v := ?_) (some 46) rfl (by kernel_rfl) (by kernel_rfl) (by kernel_rfl) (fun _ _ _ h => h) (by kernel_rfl) (Or.inl ⟨by kernel_rfl, ?_⟩) (by assumption) ?_
      rotate_left
      · (intro w hSw; (try dsimp only at hSw); go_simp <;> with_reducible rfl)
      simp only [Act.put, List.setIfInBounds_toArray, List.set_cons_zero, List.set_cons_succ]
      refine take_at (i := 3) (v := ?_) (some 47) rfl (by kernel_rfl) (by kernel_rfl) (by kernel_rfl) (fun _ _ _ h => h) (by kernel_rfl) (Or.inl ⟨by kernel_rfl, ?_⟩) (by assumption) ?_
      rotate_left
      · (intro w hSw; (try dsimp only at hSw); go_simp <;> with_reducible rfl)
      simp only [Act.put, List.setIfInBounds_toArray, List.set_cons_zero, List.set_cons_succ]
      refine take_at (i := 4) (v := ?_) (some 48) rfl (by kernel_rfl) (by kernel_rfl) (by kernel_rfl) (fun _ _ _ h => h) (by kernel_rfl) (Or.inl ⟨by kernel_rfl, ?_⟩) (by assumption) ?_
      rotate_left
      · (intro w hSw; (try dsimp only at hSw); go_simp <;> with_reducible rfl)
      simp only [Act.put, List.setIfInBounds_toArray, List.set_cons_zero, List.set_cons_succ]
      refine take_at (i := 5) (v := ?_) (some 49) rfl (by kernel_rfl) (by kernel_rfl) (by kernel_rfl) (fun _ _ _ h => h) (by kernel_rfl) (Or.inl ⟨by kernel_rfl, ?_⟩) (by assumption) ?_
      rotate_left
      · (intro w hSw; (try dsimp only at hSw); go_simp <;> with_reducible rfl)
      simp only [Act.put, List.setIfInBounds_toArray, List.set_cons_zero, List.set_cons_succ]
      refine take_at (i := 6) (v := ?_) (some 50) rfl (by kernel_rfl) (by kernel_rfl) (by kernel_rfl) (fun _ _ _ h => h) (by kernel_rfl) (Or.inl ⟨by kernel_rfl, ?_⟩) (by assumption) ?_
      rotate_left
      · (intro w hSw; (try dsimp only at hSw); go_simp <;> with_reducible rfl)
      simp only [Act.put, List.setIfInBounds_toArray, List.set_cons_zero, List.set_cons_succ]
      refine take_at (i := 7) (v := ?_) (some 51) rfl (by kernel_rfl) (by kernel_rfl) (by kernel_rfl) (fun _ _ _ h => h) (by kernel_rfl) (Or.inl ⟨by kernel_rfl, ?_⟩) (by assumption) ?_
      rotate_left
      · (intro w hSw; (try dsimp only at hSw); go_simp <;> with_reducible rfl)
      simp only [Act.put, List.setIfInBounds_toArray, List.set_cons_zero, List.set_cons_succ]
      refine take_at (i := 8) (v := ?_) (some 52) rfl (by kernel_rfl) (by kernel_rfl) (by kernel_rfl) (fun _ _ _ h => h) (by kernel_rfl) (Or.inl ⟨by kernel_rfl, ?_⟩) (by assumption) ?_
      rotate_left
      · (intro w hSw; (try dsimp only at hSw); go_simp <;> with_reducible rfl)
      simp only [Act.put, List.setIfInBounds_toArray, List.set_cons_zero, List.set_cons_succ]
      refine take_at (i := 9) (v := ?_) (some 53) rfl (by kernel_rfl) (by kernel_rfl) (by kernel_rfl) (fun _ _ _ h => h) (by kernel_rfl) (Or.inl ⟨by kernel_rfl, ?_⟩) (by assumption) ?_
      rotate_left
      · (intro w hSw; (try dsimp only at hSw); go_simp <;> with_reducible rfl)
      simp only [Act.put, List.setIfInBounds_toArray, List.set_cons_zero, List.set_cons_succ]
      refine wpAnyH_ready (rs := [10]) (by kernel_rfl) (by simp) ?_
      refine AllReadyH.cons rfl (fun K hK => ?_) AllReadyH.nil
      have HE9 := HE.out
      go_simp
      clear HE9
      clear hHeld
      refine hK.out _ _ ⟨r2, s2, c0, c1, d0, d1⟩ (fun hHeld => ?_)
      clear hK K
      try simp only [Act.put, List.setIfInBounds_toArray, List.set_cons_zero, List.set_cons_succ]
      refine wpAnyH_done (by kernel_rfl) ?_ _
      skip
      go_wp2_with fail
      go_roundw
      case rel => exact ⟨j + 1, by omega, by go_num, below_drew HB1.out⟩
      case measure => simp [intOf]; omega
    · obtain rfl : j = gs.length := by omega
      have hi1 : ¬ (gs.length : Int) < (gs.length : Int) := by omega
      have r3 := (hbel.cell (p := ⟨w.heap.size, 3, none⟩) xl).trans q3
      have s3 := (hbel.cell (p := ⟨w.heap.size + 1, 3, none⟩) yl).trans m3
      have HB1 := Lib.hid hbel
      clear q0 q1 q2 q3 m0 m1 m2 m3 x0 y0 hbel
      go_upto_region 9 with fail
      generalize wr = wq at *
      have hwq := HB1.out.size
      go_loopw [6] (fun i wr => ∃ j : Nat, j ≤ ds.length ∧ i = .int .i64 (j : Int) ∧ Below wq.heap.size wq wr) (fun i _ => ds.length - (intOf i).toNat)
      case atStart => exact ⟨0, Nat.zero_le _, rfl, Below.refl _ _⟩
      case round =>
        obtain ⟨j, hj, rfl, hbel⟩ := hrel
        have hba := HB1.out.trans (hbel.mono hwq)
        have r4 := (hbel.cell (p := ⟨w.heap.size, 3, none⟩) (Nat.lt_of_lt_of_le xl hwq)).trans r3
        have s4 := (hbel.cell (p := ⟨w.heap.size + 1, 3, none⟩) (Nat.lt_of_lt_of_le yl hwq)).trans s3
        by_cases hlt : j < ds.length
        · obtain ⟨ad, x, rfl, _, hx, c0⟩ := (H1.out.dl.below hba).of_map hlt
          obtain ⟨ad2, x2, rfl, _, hx2, d0⟩ := (H2.out.dl.below hba).of_map hlt
          obtain rfl : x = x2 := Option.some.inj (hx.out.symm.trans hx2.out)
          have hi2 : (j : Int) < (ds.length : Int) := by omega
          have hnx : ((x.toNat : Int) != (x.toNat : Int)) = false := by simp
          have HB2 := Lib.hid hbel
          clear hx hx2 hbel hba r3 s3
          go_upto_region 11 with fail
          refine wp_region_held_drew (S := (fun W => W.cell? ⟨w.heap.size, 3, none⟩ = some (.slice (some ad) ds.length dc) ∧ W.cell? ⟨w.heap.size + 1, 3, none⟩ = some (.slice (some ad2) ds.length dc') ∧ W.cell? (ad.add j) = some (uv x) ∧ W.cell? (ad2.add j) = some (uv x))) (by kernel_rfl) ⟨r4, s4, c0, d0⟩ (fun hHeld => ?_)
          refine take_at (i := 0) (v := ?_) (some 62) rfl (by kernel_rfl) (by kernel_rfl) (by kernel_rfl) (fun _ _ _ h => h) (by kernel_rfl) (Or.inl ⟨by kernel_rfl, ?_⟩) (by assumption) ?_
          rotate_left
          · (intro w hSw; (try dsimp only at hSw); go_simp <;> with_reducible rfl)
          simp only [Act.put, List.setIfInBounds_toArray, List.set_cons_zero, List.set_cons_succ]
          refine take_at (i := 1) (v := ?_) (some 63) rfl (by kernel_rfl) (by kernel_rfl) (by kernel_rfl) (fun _ _ _ h => h) (by kernel_rfl) (Or.inl ⟨by kernel_rfl, ?_⟩) (by assumption) ?_
          rotate_left
          · (intro w hSw; (try dsimp only at hSw); go_simp <;> with_reducible rfl)
          simp only [Act.put, List.setIfInBounds_toArray, List.set_cons_zero, List.set_cons_succ]
          refine take_at (i := 2) (v := ?_) (some 64) rfl (by kernel_rfl) (by kernel_rfl) (by kernel_rfl) (fun _ _ _ h => h) (by kernel_rfl) (Or.inl ⟨by kernel_rfl, ?_⟩) (by assumption) ?_
          rotate_left
          · (intro w hSw; (try dsimp only at hSw); go_simp <;> with_reducible rfl)
          simp only [Act.put, List.setIfInBounds_toArray, List.set_cons_zero, List.set_cons_succ]
          refine take_at (i := 3) (v := ?_) (some 65) rfl (by kernel_rfl) (by kernel_rfl) (by kernel_rfl) (fun _ _ _ h => h) (by kernel_rfl) (Or.inl ⟨by kernel_rfl, ?_⟩) (by assumption) ?_
          rotate_left
          · (intro w hSw; (try dsimp only at hSw); go_simp <;> with_reducible rfl)
          simp only [Act.put, List.setIfInBounds_toArray, List.set_cons_zero, List.set_cons_succ]
          refine take_at (i := 4) (v := ?_) (some 66) rfl (by kernel_rfl) (by kernel_rfl) (by kernel_rfl) (fun _ _ _ h => h) (by kernel_rfl) (Or.inl ⟨by kernel_rfl, ?_⟩) (by assumption) ?_
          rotate_left
          · (intro w hSw; (try dsimp only at hSw); go_simp <;> with_reducible rfl)
          simp only [Act.put, List.setIfInBounds_toArray, List.set_cons_zero, List.set_cons_succ]
          refine take_at (i := 5) (v := ?_) (some 67) rfl (by kernel_rfl) (by kernel_rfl) (by kernel_rfl) (fun _ _ _ h => h) (by kernel_rfl) (Or.inl ⟨by kernel_rfl, ?_⟩) (by assumption) ?_
          rotate_left
          · (intro w hSw; (try dsimp only at hSw); go_simp <;> with_reducible rfl)
          simp only [Act.put, List.setIfInBounds_toArray, List.set_cons_zero, List.set_cons_succ]
          refine take_at (i := 6) (v := ?_) (some 68) rfl (by kernel_rfl) (by kernel_rfl) (by kernel_rfl) (fun _ _ _ h => h) (by kernel_rfl) (Or.inl ⟨by kernel_rfl, ?_⟩) (by assumption) ?_
          rotate_left
          · (intro w hSw; (try dsimp only at hSw); go_simp <;> with_reducible rfl)
          simp only [Act.put, List.setIfInBounds_toArray, List.set_cons_zero, List.set_cons_succ]
          refine take_at (i := 7) (v := ?_) (some 69) rfl (by kernel_rfl) (by kernel_rfl) (by kernel_rfl) (fun _ _ _ h => h) (by kernel_rfl) (Or.inl ⟨by kernel_rfl, ?_⟩) (by assumption) ?_
          rotate_left
          · (intro w hSw; (try dsimp only at hSw); go_simp <;> with_reducible rfl)
          simp only [Act.put, List.setIfInBounds_toArray, List.set_cons_zero, List.set_cons_succ]
          refine take_at (i := 8) (v := ?_) (some 70) rfl (by kernel_rfl) (by kernel_rfl) (by kernel_rfl) (fun _ _ _ h => h) (by kernel_rfl) (Or.inl ⟨by kernel_rfl, ?_⟩) (by assumption) ?_
          rotate_left
          · (intro w hSw; (try dsimp only at hSw); go_simp <;> with_reducible rfl)
          simp only [Act.put, List.setIfInBounds_toArray, List.set_cons_zero, List.set_cons_succ]
          refine take_at (i := 9) (v := ?_) (some 71) rfl (by kernel_rfl) (by kernel_rfl) (by kernel_rfl) (fun _ _ _ h => h) (by kernel_rfl) (Or.inl ⟨by kernel_rfl, ?_⟩) (by assumption) ?_
          rotate_left
          · (intro w hSw; (try dsimp only at hSw); go_simp <;> with_reducible rfl)
          simp only [Act.put, List.setIfInBounds_toArray, List.set_cons_zero, List.set_cons_succ]
          refine take_at (i := 10) (v := ?_) (some 72) rfl (by kernel_rfl) (by kernel_rfl) (by kernel_rfl) (fun _ _ _ h => h) (by kernel_rfl) (Or.inl ⟨by kernel_rfl, ?_⟩) (by assumption) ?_
          rotate_left
          · (intro w hSw; (try dsimp only at hSw); go_simp <;> with_reducible rfl)
          simp only [Act.put, List.setIfInBounds_toArray, List.set_cons_zero, List.set_cons_succ]
          refine wpAnyH_done (by kernel_rfl) ?_ _
          skip
          go_wp2_with fail
          go_roundw
          case rel => exact ⟨j + 1, by omega, by go_num, below_drew HB2.out⟩
          case measure => simp [intOf]; omega
        · obtain rfl : j = ds.length := by omega
          have hi2 : ¬ (ds.length : Int) < (ds.length : Int) := by omega
          have HBA := Lib.hid (HB.out.trans (hba.mono (by have := HB.out.size; omega)))
          clear hba hbel r3 s3
          go_wp2_with fail
          go_ret
          exact ⟨rfl, HBA.out⟩
end Go.Proofs.YtabljmiiekpgiaaGreatDoor


