/- Layer 13: headOf (its region by tools/gen_data_e.py). It writes nothing that was there. -/
/- Layer 13: two arrays of six numbers are compared. No condition of its own. -/
/- Layer 13: Same (its region by tools/gen_data_g.py). It writes nothing that was there. -/
/- Layer 13: what bytesOf puts and joins: numbers in a new row, four parts in a new row; the bytes of a description. -/
import Derived.Test.YtdcppcoldaaldaaGreatDoorQDA
import Derived.Test.YtdcppcoldaaldaaGreatDoorQNF
import Derived.Deep.RegionHeld3
import Derived.Deep.Cut
import Derived.Laws.StructEq
import Derived.Test.YtdcppcoldaaldaaGreatDoorQA
import Derived.Test.YtdcppcoldaaldaaGreatDoorQTA




namespace Go.Proofs.YtdcppcoldaaldaaGreatDoor
open Go.RowKit

set_option linter.unusedSimpArgs false
/-! ### headOf -/
def hdA (p : Pt) : Array Value := #[.int .u32 ((tyB p).toNat : Int), .int .u32 ((flP p).toNat : Int), uv p.tsn, .int .u32 (p.st.toNat : Int), uv p.sq, uv p.pr]
set_option maxRecDepth 100000 in
set_option maxHeartbeats 4000000 in
theorem headOf_any (p : Pt) (A : Option Addr) (c : Nat) (w : World) : Calls Tryz.prog 117 #[ptV p A c] w fun e w' => e = .returned (.agg (hdA p)) ∧ Below w.heap.size w w' := by
  have b0 : Below w.heap.size w (w.alloc (.cells (ptCells p A c) 34)) := (Below.refl _ w).alloc (Nat.le_refl _) _
  have x0 := Whole.new w 34 (ptCells p A c)
  have b1 := b0.alloc b0.size (.cells #[.int .u32 0, .int .u32 0, .int .u32 0, .int .u32 0, .int .u32 0, .int .u32 0] 161)
  have x1 := x0.alloc (.cells #[.int .u32 0, .int .u32 0, .int .u32 0, .int .u32 0, .int .u32 0, .int .u32 0] 161)
  have y1 := Whole.new (w.alloc (.cells (ptCells p A c) 34)) 161 #[.int .u32 0, .int .u32 0, .int .u32 0, .int .u32 0, .int .u32 0, .int .u32 0]
  rw [World.size_alloc] at y1
  have HT := Lib.hid (typeOf_any p A c)
  have HF := Lib.hid (flagsOf_any p A c)
  unfold hdA
  generalize tyB p = ty at *
  generalize flP p = fl at *
  obtain ⟨inter, tsn, st, sq, pr, bg, en, un, nw, us⟩ := p
  simp only [ptCells, ptV] at *
  have hs1 : w.heap.size + 1 < ((w.alloc (.cells #[.bool inter, uv tsn, hv st, uv sq, uv pr, .bool bg, .bool en, .bool un, .bool nw, .slice A us.length c] 34)).alloc (.cells #[.int .u32 0, .int .u32 0, .int .u32 0, .int .u32 0, .int .u32 0, .int .u32 0] 161)).heap.size := by simp
  go_enter Tryz.func117, Tryz.ntmps117
  go_upto_region 1 with fail
  generalize (w.alloc (.cells #[.bool inter, uv tsn, hv st, uv sq, uv pr, .bool bg, .bool en, .bool un, .bool nw, .slice A us.length c] 34)).alloc (.cells #[.int .u32 0, .int .u32 0, .int .u32 0, .int .u32 0, .int .u32 0, .int .u32 0] 161) = w1 at *
  have KS : Hid (∀ W, Below (w.heap.size + 1) w1 W → W.cell? ⟨w.heap.size, 0, none⟩ = some (.bool inter) ∧ W.cell? ⟨w.heap.size, 1, none⟩ = some (uv tsn) ∧ W.cell? ⟨w.heap.size, 2, none⟩ = some (hv st) ∧ W.cell? ⟨w.heap.size, 3, none⟩ = some (uv sq) ∧ W.cell? ⟨w.heap.size, 4, none⟩ = some (uv pr) ∧ W.cell? ⟨w.heap.size, 5, none⟩ = some (.bool bg) ∧ W.cell? ⟨w.heap.size, 6, none⟩ = some (.bool en) ∧ W.cell? ⟨w.heap.size, 7, none⟩ = some (.bool un) ∧ W.cell? ⟨w.heap.size, 8, none⟩ = some (.bool nw) ∧ W.cell? ⟨w.heap.size, 9, none⟩ = some (.slice A us.length c)) := fun W hW => (x1.below hW (Nat.lt_succ_self _)).cs10
  refine wp_region_held_drew (S := (fun W => W.cell? ⟨w.heap.size, 0, none⟩ = some (.bool inter) ∧ W.cell? ⟨w.heap.size, 1, none⟩ = some (uv tsn) ∧ W.cell? ⟨w.heap.size, 2, none⟩ = some (hv st) ∧ W.cell? ⟨w.heap.size, 3, none⟩ = some (uv sq) ∧ W.cell? ⟨w.heap.size, 4, none⟩ = some (uv pr) ∧ W.cell? ⟨w.heap.size, 5, none⟩ = some (.bool bg) ∧ W.cell? ⟨w.heap.size, 6, none⟩ = some (.bool en) ∧ W.cell? ⟨w.heap.size, 7, none⟩ = some (.bool un) ∧ W.cell? ⟨w.heap.size, 8, none⟩ = some (.bool nw) ∧ W.cell? ⟨w.heap.size, 9, none⟩ = some (.slice A us.length c))) (by kernel_rfl) (KS.out _ (below_drew (Below.refl _ _))) (fun hHeld => ?_)
  refine take_at (i := 0) (v := ?_) (some 3) rfl (by kernel_rfl) (by kernel_rfl) (by kernel_rfl) (fun _ _ _ h => h) (by kernel_rfl) (Or.inl ⟨by kernel_rfl, ?_⟩) (by assumption) ?_
  rotate_left
  · (intro w hSw; (try dsimp only at hSw); go_simp <;> with_reducible rfl)
  simp only [Act.put, List.setIfInBounds_toArray, List.set_cons_zero, List.set_cons_succ]
  refine take_at (i := 3) (v := ?_) (some 6) rfl (by kernel_rfl) (by kernel_rfl) (by kernel_rfl) (fun _ _ _ h => h) (by kernel_rfl) (Or.inl ⟨by kernel_rfl, ?_⟩) (by assumption) ?_
  rotate_left
  · (intro w hSw; (try dsimp only at hSw); go_simp <;> with_reducible rfl)
  simp only [Act.put, List.setIfInBounds_toArray, List.set_cons_zero, List.set_cons_succ]
  refine take_at (i := 6) (v := ?_) (some 9) rfl (by kernel_rfl) (by kernel_rfl) (by kernel_rfl) (fun _ _ _ h => h) (by kernel_rfl) (Or.inl ⟨by kernel_rfl, ?_⟩) (by assumption) ?_
  rotate_left
  · (intro w hSw; (try dsimp only at hSw); go_simp <;> with_reducible rfl)
  simp only [Act.put, List.setIfInBounds_toArray, List.set_cons_zero, List.set_cons_succ]
  refine take_at (i := 7) (v := ?_) (some 10) rfl (by kernel_rfl) (by kernel_rfl) (by kernel_rfl) (fun _ _ _ h => h) (by kernel_rfl) (Or.inl ⟨by kernel_rfl, ?_⟩) (by assumption) ?_
  rotate_left
  · (intro w hSw; (try dsimp only at hSw); go_simp <;> with_reducible rfl)
  simp only [Act.put, List.setIfInBounds_toArray, List.set_cons_zero, List.set_cons_succ]
  refine take_at (i := 8) (v := ?_) (some 11) rfl (by kernel_rfl) (by kernel_rfl) (by kernel_rfl) (fun _ _ _ h => h) (by kernel_rfl) (Or.inl ⟨by kernel_rfl, ?_⟩) (by assumption) ?_
  rotate_left
  · (intro w hSw; (try dsimp only at hSw); go_simp <;> with_reducible rfl)
  simp only [Act.put, List.setIfInBounds_toArray, List.set_cons_zero, List.set_cons_succ]
  refine take_at (i := 9) (v := ?_) (some 12) rfl (by kernel_rfl) (by kernel_rfl) (by kernel_rfl) (fun _ _ _ h => h) (by kernel_rfl) (Or.inl ⟨by kernel_rfl, ?_⟩) (by assumption) ?_
  rotate_left
  · (intro w hSw; (try dsimp only at hSw); go_simp <;> with_reducible rfl)
  simp only [Act.put, List.setIfInBounds_toArray, List.set_cons_zero, List.set_cons_succ]
  refine take_at (i := 10) (v := ?_) (some 13) rfl (by kernel_rfl) (by kernel_rfl) (by kernel_rfl) (fun _ _ _ h => h) (by kernel_rfl) (Or.inl ⟨by kernel_rfl, ?_⟩) (by assumption) ?_
  rotate_left
  · (intro w hSw; (try dsimp only at hSw); go_simp <;> with_reducible rfl)
  simp only [Act.put, List.setIfInBounds_toArray, List.set_cons_zero, List.set_cons_succ]
  refine take_at (i := 11) (v := ?_) (some 14) rfl (by kernel_rfl) (by kernel_rfl) (by kernel_rfl) (fun _ _ _ h => h) (by kernel_rfl) (Or.inl ⟨by kernel_rfl, ?_⟩) (by assumption) ?_
  rotate_left
  · (intro w hSw; (try dsimp only at hSw); go_simp <;> with_reducible rfl)
  simp only [Act.put, List.setIfInBounds_toArray, List.set_cons_zero, List.set_cons_succ]
  refine take_at (i := 12) (v := ?_) (some 15) rfl (by kernel_rfl) (by kernel_rfl) (by kernel_rfl) (fun _ _ _ h => h) (by kernel_rfl) (Or.inl ⟨by kernel_rfl, ?_⟩) (by assumption) ?_
  rotate_left
  · (intro w hSw; (try dsimp only at hSw); go_simp <;> with_reducible rfl)
  simp only [Act.put, List.setIfInBounds_toArray, List.set_cons_zero, List.set_cons_succ]
  refine take_at (i := 13) (v := ?_) (some 16) rfl (by kernel_rfl) (by kernel_rfl) (by kernel_rfl) (fun _ _ _ h => h) (by kernel_rfl) (Or.inl ⟨by kernel_rfl, ?_⟩) (by assumption) ?_
  rotate_left
  · (intro w hSw; (try dsimp only at hSw); go_simp <;> with_reducible rfl)
  simp only [Act.put, List.setIfInBounds_toArray, List.set_cons_zero, List.set_cons_succ]
  refine take_at (i := 14) (v := ?_) (some 17) rfl (by kernel_rfl) (by kernel_rfl) (by kernel_rfl) (fun _ _ _ h => h) (by kernel_rfl) (Or.inl ⟨by kernel_rfl, ?_⟩) (by assumption) ?_
  rotate_left
  · (intro w hSw; (try dsimp only at hSw); go_simp <;> with_reducible rfl)
  simp only [Act.put, List.setIfInBounds_toArray, List.set_cons_zero, List.set_cons_succ]
  refine wpAnyH_ready (rs := [1]) (by kernel_rfl) (by simp) ?_
  refine AllReadyH.cons rfl (fun K hK => ?_) AllReadyH.nil
  go_simp
  go_at_call 64; (with_reducible refine (HT.out _).mono ?_); rintro e w2 ⟨rfl, b2⟩; have R2 : Below (w.heap.size + 1) w1 w2 := (below_undrew13 b2).mono (Nat.le_of_lt hs1)
  go_wp2_with fail
  clear hHeld
  refine hK.out _ _ (KS.out _ R2) (fun hHeld => ?_)
  clear hK K
  try simp only [Act.put, List.setIfInBounds_toArray, List.set_cons_zero, List.set_cons_succ]
  refine take_at (i := 2) (v := ?_) (some 5) rfl (by kernel_rfl) (by kernel_rfl) (by kernel_rfl) (fun _ _ _ h => h) (by kernel_rfl) (Or.inl ⟨by kernel_rfl, ?_⟩) (by assumption) ?_
  rotate_left
  · (intro w hSw; (try dsimp only at hSw); go_simp <;> with_reducible rfl)
  simp only [Act.put, List.setIfInBounds_toArray, List.set_cons_zero, List.set_cons_succ]
  refine wpAnyH_ready (rs := [4]) (by kernel_rfl) (by simp) ?_
  refine AllReadyH.cons rfl (fun K hK => ?_) AllReadyH.nil
  go_simp
  go_at_call 65; (with_reducible refine (HF.out _).mono ?_); rintro e w3 ⟨rfl, b3⟩; have b23 : Below w1.heap.size w1 w3 := (below_undrew13 b2).trans (b3.mono b2.size); have R3 : Below (w.heap.size + 1) w1 w3 := b23.mono (Nat.le_of_lt hs1); have y3 := y1.below b23 y1.lt; have z0 := y3.frozen 0; have z1 := y3.frozen 1; have z2 := y3.frozen 2; have z3 := y3.frozen 3; have z4 := y3.frozen 4; have z5 := y3.frozen 5; have k0 := y3.cell 0; have k1 := y3.cell 1; have k2 := y3.cell 2; have k3 := y3.cell 3; have k4 := y3.cell 4; have k5 := y3.cell 5; simp only [List.getElem?_toArray, List.getElem?_cons_zero, List.getElem?_cons_succ] at k0 k1 k2 k3 k4 k5
  go_wp2_with fail
  clear hHeld
  refine hK.out _ _ (KS.out _ R3) (fun hHeld => ?_)
  clear hK K
  try simp only [Act.put, List.setIfInBounds_toArray, List.set_cons_zero, List.set_cons_succ]
  refine take_at (i := 5) (v := ?_) (some 8) rfl (by kernel_rfl) (by kernel_rfl) (by kernel_rfl) (fun _ _ _ h => h) (by kernel_rfl) (Or.inl ⟨by kernel_rfl, ?_⟩) (by assumption) ?_
  rotate_left
  · (intro w hSw; (try dsimp only at hSw); go_simp <;> with_reducible rfl)
  simp only [Act.put, List.setIfInBounds_toArray, List.set_cons_zero, List.set_cons_succ]
  refine take_at (i := 15) (v := ?_) (some 18) rfl (by kernel_rfl) (by kernel_rfl) (by kernel_rfl) (fun _ _ _ h => h) (by kernel_rfl) (Or.inl ⟨by kernel_rfl, ?_⟩) (by assumption) ?_
  rotate_left
  · (intro w hSw; (try dsimp only at hSw); go_simp <;> with_reducible rfl)
  simp only [Act.put, List.setIfInBounds_toArray, List.set_cons_zero, List.set_cons_succ]
  refine wpAnyH_ready (rs := [16]) (by kernel_rfl) (by simp) ?_
  refine AllReadyH.cons rfl (fun K hK => ?_) AllReadyH.nil
  go_simp
  clear hHeld
  refine hK.out _ _ (KS.out _ ((((((R3.setCell (Nat.le_refl _) _).setCell (Nat.le_refl _) _).setCell (Nat.le_refl _) _).setCell (Nat.le_refl _) _).setCell (Nat.le_refl _) _).setCell (Nat.le_refl _) _)) (fun hHeld => ?_)
  clear hK K
  try simp only [Act.put, List.setIfInBounds_toArray, List.set_cons_zero, List.set_cons_succ]
  refine wpAnyH_done (by kernel_rfl) ?_ _
  go_wp2_with fail
  (try simp only [Exit.inBlock, Exit.then])
  have w32 : ∀ n : Nat, n < 4294967296 → IntKind.u32.wrap (n : Int) = (n : Int) := fun n hn => by unfold IntKind.wrap IntKind.bits; simp [IntKind.signed]; omega
  have ht := w32 ty.toNat (by have := ty.toNat_lt; omega)
  have hf := w32 fl.toNat (by have := fl.toNat_lt; omega)
  have hs := w32 st.toNat (by have := st.toNat_lt; omega)
  refine bodyPost_ret (results_cell_row rfl _ _ (w.heap.size + 1) 161 #[.int .u32 (IntKind.u32.wrap (ty.toNat : Int)), .int .u32 (IntKind.u32.wrap (fl.toNat : Int)), uv tsn, .int .u32 (IntKind.u32.wrap (st.toNat : Int)), uv sq, uv pr] (0, 0) _ rfl ((((((y3.set_ 0 _).set_ 1 _).set_ 2 _).set_ 3 _).set_ 4 _).set_ 5 _) Tryz.underlying161 rfl (by kernel_rfl)) rfl ?_
  rw [ht, hf, hs]
  exact ⟨rfl, b1.trans ((((((((b23.mono (Nat.le_of_lt hs1)).setCell (Nat.le_refl _) _).setCell (Nat.le_refl _) _).setCell (Nat.le_refl _) _).setCell (Nat.le_refl _) _).setCell (Nat.le_refl _) _).setCell (Nat.le_refl _) _).mono (Nat.le_succ _))⟩
end Go.Proofs.YtdcppcoldaaldaaGreatDoor




namespace Go.Proofs.YtdcppcoldaaldaaGreatDoor
open Go.RowKit

theorem size_u32 : (Tryz.prog.info? 22).map (·.size) = some 1 := by kernel_rfl
theorem eq_six (a0 a1 a2 a3 a4 a5 b0 b1 b2 b3 b4 b5 : Int) (k : Nat) (w : World) : (Op.equalIn (k + 2) 161 (.agg #[.int .u32 a0, .int .u32 a1, .int .u32 a2, .int .u32 a3, .int .u32 a4, .int .u32 a5]) (.agg #[.int .u32 b0, .int .u32 b1, .int .u32 b2, .int .u32 b3, .int .u32 b4, .int .u32 b5])).run Tryz.prog w = .ok (a0 == b0 && (a1 == b1 && (a2 == b2 && (a3 == b3 && (a4 == b4 && a5 == b5))))) w := by
  obtain ⟨i, hi, hs⟩ := Option.map_eq_some_iff.1 size_u32
  have hu : ∀ x y, (Op.equalIn (k + 1) 22 (.int .u32 x) (.int .u32 y)).run Tryz.prog w = .ok (x == y) w := fun x y => run_equalIn_int w k 22 .u32 .u32 x y Tryz.underlying22
  unfold Op.equalIn
  simp [go_sem, run_underlying Tryz.underlying161, sizeOf, typeInfo, hi, hs, Std.Legacy.Range.forIn_eq_forIn_range', List.range', hu]
  repeat' split
  all_goals simp_all
/-- all fields but User are the same -/
def hdEq (p q : Pt) : Bool := decide (p.inter = q.inter) && (decide (p.tsn = q.tsn) && (decide (p.st = q.st) && (decide (p.sq = q.sq) && (decide (p.pr = q.pr) && (decide (p.bg = q.bg) && (decide (p.en = q.en) && (decide (p.un = q.un) && decide (p.nw = q.nw))))))))
theorem fl_inj : ∀ a b c d a' b' c' d' : Bool, (orF d (orF c (orF b (orF a 0 1) 2) 4) 8 = orF d' (orF c' (orF b' (orF a' 0 1) 2) 4) 8) ↔ (a = a' ∧ b = b' ∧ c = c' ∧ d = d') := by decide
theorem hd_nums (p q : Pt) : (((tyB p).toNat : Int) == ((tyB q).toNat : Int) && (((flP p).toNat : Int) == ((flP q).toNat : Int) && ((p.tsn.toNat : Int) == (q.tsn.toNat : Int) && ((p.st.toNat : Int) == (q.st.toNat : Int) && ((p.sq.toNat : Int) == (q.sq.toNat : Int) && (p.pr.toNat : Int) == (q.pr.toNat : Int)))))) = hdEq p q := by
  have e1 : ((tyB p).toNat : Int) = ((tyB q).toNat : Int) ↔ p.inter = q.inter := by unfold tyB; cases p.inter <;> cases q.inter <;> simp
  have e2 : ((flP p).toNat : Int) = ((flP q).toNat : Int) ↔ (p.en = q.en ∧ p.bg = q.bg ∧ p.un = q.un ∧ p.nw = q.nw) := by
    rw [← fl_inj]
    exact ⟨fun h => UInt8.toNat_inj.1 (by unfold flP at h; omega), fun h => by unfold flP; rw [h]⟩
  have e3 : (p.tsn.toNat : Int) = (q.tsn.toNat : Int) ↔ p.tsn = q.tsn := ⟨fun h => UInt32.toNat_inj.1 (by omega), fun h => by rw [h]⟩
  have e4 : (p.st.toNat : Int) = (q.st.toNat : Int) ↔ p.st = q.st := ⟨fun h => UInt16.toNat_inj.1 (by omega), fun h => by rw [h]⟩
  have e5 : (p.sq.toNat : Int) = (q.sq.toNat : Int) ↔ p.sq = q.sq := ⟨fun h => UInt32.toNat_inj.1 (by omega), fun h => by rw [h]⟩
  have e6 : (p.pr.toNat : Int) = (q.pr.toNat : Int) ↔ p.pr = q.pr := ⟨fun h => UInt32.toNat_inj.1 (by omega), fun h => by rw [h]⟩
  rw [Bool.eq_iff_iff]
  unfold hdEq
  simp only [Bool.and_eq_true, beq_iff_eq, decide_eq_true_eq, e1, e2, e3, e4, e5, e6]
  constructor
  · rintro ⟨h1, ⟨h2, h3, h4, h5⟩, h6, h7, h8, h9⟩
    exact ⟨h1, h6, h7, h8, h9, h3, h2, h4, h5⟩
  · rintro ⟨h1, h6, h7, h8, h9, h3, h2, h4, h5⟩
    exact ⟨h1, ⟨h2, h3, h4, h5⟩, h6, h7, h8, h9⟩
end Go.Proofs.YtdcppcoldaaldaaGreatDoor







namespace Go.Proofs.YtdcppcoldaaldaaGreatDoor
open Go.RowKit

set_option linter.unusedSimpArgs false
theorem eq_heads (p q : Pt) (w : World) : (Op.equalIn 10000 161 (.agg (hdA p)) (.agg (hdA q))).run Tryz.prog w = .ok (hdEq p q) w := by
  rw [← hd_nums]
  exact eq_six _ _ _ _ _ _ _ _ _ _ _ _ 9998 w
def sameB (p q : Pt) : Bool := hdEq p q && decide (p.us = q.us)
set_option maxRecDepth 100000 in
set_option maxHeartbeats 8000000 in
theorem psame13_any (p q : Pt) (A : Option Addr) (c : Nat) (A' : Option Addr) (c' : Nat) (w : World) (hp : PtL w w.heap.size A c p) (hq : PtL w w.heap.size A' c' q) :
    Calls Tryz.prog 61 #[ptV p A c, ptV q A' c'] w fun e w' => e = .returned (.bool (sameB p q)) ∧ Below w.heap.size w w' := by
  have b0 : Below w.heap.size w ((w.alloc (.cells (ptCells p A c) 34)).alloc (.cells (ptCells q A' c') 34)) := ((Below.refl _ w).alloc (Nat.le_refl _) _).alloc (by simp) _
  have x0 := (Whole.new w 34 (ptCells p A c)).alloc (.cells (ptCells q A' c') 34)
  have y0 := Whole.new (w.alloc (.cells (ptCells p A c) 34)) 34 (ptCells q A' c')
  rw [World.size_alloc] at y0
  have hs1 : ((w.alloc (.cells (ptCells p A c) 34)).alloc (.cells (ptCells q A' c') 34)).heap.size = w.heap.size + 2 := by simp
  have HB : Hid (∀ W, Below (w.heap.size + 2) ((w.alloc (.cells (ptCells p A c) 34)).alloc (.cells (ptCells q A' c') 34)) W → _) := Lib.hid fun W hW => equal_any A A' c c' _ _ p.us q.us W (hp.on (b0.trans (hW.mono (by simp)))).data (hq.on (b0.trans (hW.mono (by simp)))).data
  have HP := Lib.hid (headOf_any p)
  have HQ := Lib.hid (headOf_any q)
  have EH := Lib.hid (eq_heads p q)
  clear hp hq
  unfold sameB
  generalize hdEq p q = v at *
  generalize hdA p = ap at *
  generalize hdA q = aq at *
  obtain ⟨inter, tsn, st, sq, pr, bg, en, un, nw, us⟩ := p
  obtain ⟨inter', tsn', st', sq', pr', bg', en', un', nw', us'⟩ := q
  simp only [ptCells, ptV] at *
  cases v
  · rw [Bool.false_and]
    go_enter Tryz.func61, Tryz.ntmps61
    go_upto_region 1 with fail
    generalize (w.alloc (.cells #[.bool inter, uv tsn, hv st, uv sq, uv pr, .bool bg, .bool en, .bool un, .bool nw, .slice A us.length c] 34)).alloc (.cells #[.bool inter', uv tsn', hv st', uv sq', uv pr', .bool bg', .bool en', .bool un', .bool nw', .slice A' us'.length c'] 34) = w1 at *
    have KS : Hid (∀ W, Below (w.heap.size + 2) w1 W → W.cell? ⟨w.heap.size, 0, none⟩ = some (.bool inter) ∧ W.cell? ⟨w.heap.size, 1, none⟩ = some (uv tsn) ∧ W.cell? ⟨w.heap.size, 2, none⟩ = some (hv st) ∧ W.cell? ⟨w.heap.size, 3, none⟩ = some (uv sq) ∧ W.cell? ⟨w.heap.size, 4, none⟩ = some (uv pr) ∧ W.cell? ⟨w.heap.size, 5, none⟩ = some (.bool bg) ∧ W.cell? ⟨w.heap.size, 6, none⟩ = some (.bool en) ∧ W.cell? ⟨w.heap.size, 7, none⟩ = some (.bool un) ∧ W.cell? ⟨w.heap.size, 8, none⟩ = some (.bool nw) ∧ W.cell? ⟨w.heap.size, 9, none⟩ = some (.slice A us.length c) ∧ W.cell? ⟨w.heap.size + 1, 0, none⟩ = some (.bool inter') ∧ W.cell? ⟨w.heap.size + 1, 1, none⟩ = some (uv tsn') ∧ W.cell? ⟨w.heap.size + 1, 2, none⟩ = some (hv st') ∧ W.cell? ⟨w.heap.size + 1, 3, none⟩ = some (uv sq') ∧ W.cell? ⟨w.heap.size + 1, 4, none⟩ = some (uv pr') ∧ W.cell? ⟨w.heap.size + 1, 5, none⟩ = some (.bool bg') ∧ W.cell? ⟨w.heap.size + 1, 6, none⟩ = some (.bool en') ∧ W.cell? ⟨w.heap.size + 1, 7, none⟩ = some (.bool un') ∧ W.cell? ⟨w.heap.size + 1, 8, none⟩ = some (.bool nw') ∧ W.cell? ⟨w.heap.size + 1, 9, none⟩ = some (.slice A' us'.length c')) := fun W hW => by
      obtain ⟨a0, a1, a2, a3, a4, a5, a6, a7, a8, a9⟩ := (x0.below hW (by omega)).cs10
      obtain ⟨c0, c1, c2, c3, c4, c5, c6, c7, c8, c9⟩ := (y0.below hW (by omega)).cs10
      exact ⟨a0, a1, a2, a3, a4, a5, a6, a7, a8, a9, c0, c1, c2, c3, c4, c5, c6, c7, c8, c9⟩
    refine wp_region_held_drew (S := (fun W => W.cell? ⟨w.heap.size, 0, none⟩ = some (.bool inter) ∧ W.cell? ⟨w.heap.size, 1, none⟩ = some (uv tsn) ∧ W.cell? ⟨w.heap.size, 2, none⟩ = some (hv st) ∧ W.cell? ⟨w.heap.size, 3, none⟩ = some (uv sq) ∧ W.cell? ⟨w.heap.size, 4, none⟩ = some (uv pr) ∧ W.cell? ⟨w.heap.size, 5, none⟩ = some (.bool bg) ∧ W.cell? ⟨w.heap.size, 6, none⟩ = some (.bool en) ∧ W.cell? ⟨w.heap.size, 7, none⟩ = some (.bool un) ∧ W.cell? ⟨w.heap.size, 8, none⟩ = some (.bool nw) ∧ W.cell? ⟨w.heap.size, 9, none⟩ = some (.slice A us.length c) ∧ W.cell? ⟨w.heap.size + 1, 0, none⟩ = some (.bool inter') ∧ W.cell? ⟨w.heap.size + 1, 1, none⟩ = some (uv tsn') ∧ W.cell? ⟨w.heap.size + 1, 2, none⟩ = some (hv st') ∧ W.cell? ⟨w.heap.size + 1, 3, none⟩ = some (uv sq') ∧ W.cell? ⟨w.heap.size + 1, 4, none⟩ = some (uv pr') ∧ W.cell? ⟨w.heap.size + 1, 5, none⟩ = some (.bool bg') ∧ W.cell? ⟨w.heap.size + 1, 6, none⟩ = some (.bool en') ∧ W.cell? ⟨w.heap.size + 1, 7, none⟩ = some (.bool un') ∧ W.cell? ⟨w.heap.size + 1, 8, none⟩ = some (.bool nw') ∧ W.cell? ⟨w.heap.size + 1, 9, none⟩ = some (.slice A' us'.length c'))) (by kernel_rfl) (KS.out _ (below_drew (Below.refl _ _))) (fun hHeld => ?_)
    refine take_at (i := 0) (v := ?_) (some 5) rfl (by kernel_rfl) (by kernel_rfl) (by kernel_rfl) (fun _ _ _ h => h) (by kernel_rfl) (Or.inl ⟨by kernel_rfl, ?_⟩) (by assumption) ?_
    rotate_left
    · (intro w hSw; (try dsimp only at hSw); first | (go_simp <;> with_reducible rfl) | (go_simp; rw [EH.out]; rfl))
    simp only [Act.put, List.setIfInBounds_toArray, List.set_cons_zero, List.set_cons_succ]
    refine take_at (i := 2) (v := ?_) (some 7) rfl (by kernel_rfl) (by kernel_rfl) (by kernel_rfl) (fun _ _ _ h => h) (by kernel_rfl) (Or.inl ⟨by kernel_rfl, ?_⟩) (by assumption) ?_
    rotate_left
    · (intro w hSw; (try dsimp only at hSw); first | (go_simp <;> with_reducible rfl) | (go_simp; rw [EH.out]; rfl))
    simp only [Act.put, List.setIfInBounds_toArray, List.set_cons_zero, List.set_cons_succ]
    refine wpAnyH_ready (rs := [1]) (by kernel_rfl) (by simp) ?_
    refine AllReadyH.cons rfl (fun K hK => ?_) AllReadyH.nil
    go_simp
    go_at_call 117; (with_reducible refine (HP.out _ _ _).mono ?_); rintro e w2 ⟨rfl, b2⟩; have R2 : Below (w.heap.size + 2) w1 w2 := (below_undrew13 b2).mono (Nat.le_of_eq hs1.symm)
    go_wp2_with fail
    clear hHeld
    refine hK.out _ _ (KS.out _ R2) (fun hHeld => ?_)
    clear hK K
    try simp only [Act.put, List.setIfInBounds_toArray, List.set_cons_zero, List.set_cons_succ]
    refine wpAnyH_ready (rs := [3]) (by kernel_rfl) (by simp) ?_
    refine AllReadyH.cons rfl (fun K hK => ?_) AllReadyH.nil
    go_simp
    go_at_call 117; (with_reducible refine (HQ.out _ _ _).mono ?_); rintro e w3 ⟨rfl, b3⟩; have R3 : Below (w.heap.size + 2) w1 w3 := ((below_undrew13 b2).trans (b3.mono b2.size)).mono (Nat.le_of_eq hs1.symm)
    go_wp2_with fail
    clear hHeld
    refine hK.out _ _ (KS.out _ R3) (fun hHeld => ?_)
    clear hK K
    try simp only [Act.put, List.setIfInBounds_toArray, List.set_cons_zero, List.set_cons_succ]
    refine take_at (i := 4) (v := ?_) (some 9) rfl (by kernel_rfl) (by kernel_rfl) (by kernel_rfl) (fun _ _ _ h => h) (by kernel_rfl) (Or.inl ⟨by kernel_rfl, ?_⟩) (by assumption) ?_
    rotate_left
    · (intro w hSw; (try dsimp only at hSw); first | (go_simp <;> with_reducible rfl) | (go_simp; rw [EH.out]; rfl))
    simp only [Act.put, List.setIfInBounds_toArray, List.set_cons_zero, List.set_cons_succ]
    refine take_at (i := 5) (v := ?_) (some 10) rfl (by kernel_rfl) (by kernel_rfl) (by kernel_rfl) (fun _ _ _ h => h) (by kernel_rfl) (Or.inl ⟨by kernel_rfl, ?_⟩) (by assumption) ?_
    rotate_left
    · (intro w hSw; (try dsimp only at hSw); first | (go_simp <;> with_reducible rfl) | (go_simp; rw [EH.out]; rfl))
    simp only [Act.put, List.setIfInBounds_toArray, List.set_cons_zero, List.set_cons_succ]
    refine take_at (i := 6) (v := undef) (some 11) rfl (by kernel_rfl) (by kernel_rfl) (by kernel_rfl) (fun _ _ _ h => h) (by kernel_rfl) (Or.inr ⟨by kernel_rfl, rfl⟩) (by assumption) ?_
    simp only [Act.put, List.setIfInBounds_toArray, List.set_cons_zero, List.set_cons_succ]
    refine take_at (i := 7) (v := undef) (some 12) rfl (by kernel_rfl) (by kernel_rfl) (by kernel_rfl) (fun _ _ _ h => h) (by kernel_rfl) (Or.inr ⟨by kernel_rfl, rfl⟩) (by assumption) ?_
    simp only [Act.put, List.setIfInBounds_toArray, List.set_cons_zero, List.set_cons_succ]
    refine take_at (i := 8) (v := undef) (some 13) rfl (by kernel_rfl) (by kernel_rfl) (by kernel_rfl) (fun _ _ _ h => h) (by kernel_rfl) (Or.inr ⟨by kernel_rfl, rfl⟩) (by assumption) ?_
    simp only [Act.put, List.setIfInBounds_toArray, List.set_cons_zero, List.set_cons_succ]
    refine take_at (i := 9) (v := undef) (some 14) rfl (by kernel_rfl) (by kernel_rfl) (by kernel_rfl) (fun _ _ _ h => h) (by kernel_rfl) (Or.inr ⟨by kernel_rfl, rfl⟩) (by assumption) ?_
    simp only [Act.put, List.setIfInBounds_toArray, List.set_cons_zero, List.set_cons_succ]
    refine take_at (i := 10) (v := undef) (some 15) rfl (by kernel_rfl) (by kernel_rfl) (by kernel_rfl) (fun _ _ _ h => h) (by kernel_rfl) (Or.inr ⟨by kernel_rfl, rfl⟩) (by assumption) ?_
    simp only [Act.put, List.setIfInBounds_toArray, List.set_cons_zero, List.set_cons_succ]
    refine take_at (i := 11) (v := ?_) (some 16) rfl (by kernel_rfl) (by kernel_rfl) (by kernel_rfl) (fun _ _ _ h => h) (by kernel_rfl) (Or.inl ⟨by kernel_rfl, ?_⟩) (by assumption) ?_
    rotate_left
    · (intro w hSw; (try dsimp only at hSw); first | (go_simp <;> with_reducible rfl) | (go_simp; rw [EH.out]; rfl))
    simp only [Act.put, List.setIfInBounds_toArray, List.set_cons_zero, List.set_cons_succ]
    refine take_at (i := 12) (v := ?_) (some 4) rfl (by kernel_rfl) (by kernel_rfl) (by kernel_rfl) (fun _ _ _ h => h) (by kernel_rfl) (Or.inl ⟨by kernel_rfl, ?_⟩) (by assumption) ?_
    rotate_left
    · (intro w hSw; (try dsimp only at hSw); first | (go_simp <;> with_reducible rfl) | (go_simp; rw [EH.out]; rfl))
    simp only [Act.put, List.setIfInBounds_toArray, List.set_cons_zero, List.set_cons_succ]
    refine wpAnyH_done (by kernel_rfl) ?_ _
    go_wp2_with fail
    go_ret
    exact ⟨rfl, b0.trans (R3.mono (by omega))⟩
  · rw [Bool.true_and]
    go_enter Tryz.func61, Tryz.ntmps61
    go_upto_region 1 with fail
    generalize (w.alloc (.cells #[.bool inter, uv tsn, hv st, uv sq, uv pr, .bool bg, .bool en, .bool un, .bool nw, .slice A us.length c] 34)).alloc (.cells #[.bool inter', uv tsn', hv st', uv sq', uv pr', .bool bg', .bool en', .bool un', .bool nw', .slice A' us'.length c'] 34) = w1 at *
    have KS : Hid (∀ W, Below (w.heap.size + 2) w1 W → W.cell? ⟨w.heap.size, 0, none⟩ = some (.bool inter) ∧ W.cell? ⟨w.heap.size, 1, none⟩ = some (uv tsn) ∧ W.cell? ⟨w.heap.size, 2, none⟩ = some (hv st) ∧ W.cell? ⟨w.heap.size, 3, none⟩ = some (uv sq) ∧ W.cell? ⟨w.heap.size, 4, none⟩ = some (uv pr) ∧ W.cell? ⟨w.heap.size, 5, none⟩ = some (.bool bg) ∧ W.cell? ⟨w.heap.size, 6, none⟩ = some (.bool en) ∧ W.cell? ⟨w.heap.size, 7, none⟩ = some (.bool un) ∧ W.cell? ⟨w.heap.size, 8, none⟩ = some (.bool nw) ∧ W.cell? ⟨w.heap.size, 9, none⟩ = some (.slice A us.length c) ∧ W.cell? ⟨w.heap.size + 1, 0, none⟩ = some (.bool inter') ∧ W.cell? ⟨w.heap.size + 1, 1, none⟩ = some (uv tsn') ∧ W.cell? ⟨w.heap.size + 1, 2, none⟩ = some (hv st') ∧ W.cell? ⟨w.heap.size + 1, 3, none⟩ = some (uv sq') ∧ W.cell? ⟨w.heap.size + 1, 4, none⟩ = some (uv pr') ∧ W.cell? ⟨w.heap.size + 1, 5, none⟩ = some (.bool bg') ∧ W.cell? ⟨w.heap.size + 1, 6, none⟩ = some (.bool en') ∧ W.cell? ⟨w.heap.size + 1, 7, none⟩ = some (.bool un') ∧ W.cell? ⟨w.heap.size + 1, 8, none⟩ = some (.bool nw') ∧ W.cell? ⟨w.heap.size + 1, 9, none⟩ = some (.slice A' us'.length c')) := fun W hW => by
      obtain ⟨a0, a1, a2, a3, a4, a5, a6, a7, a8, a9⟩ := (x0.below hW (by omega)).cs10
      obtain ⟨c0, c1, c2, c3, c4, c5, c6, c7, c8, c9⟩ := (y0.below hW (by omega)).cs10
      exact ⟨a0, a1, a2, a3, a4, a5, a6, a7, a8, a9, c0, c1, c2, c3, c4, c5, c6, c7, c8, c9⟩
    refine wp_region_held_drew (S := (fun W => W.cell? ⟨w.heap.size, 0, none⟩ = some (.bool inter) ∧ W.cell? ⟨w.heap.size, 1, none⟩ = some (uv tsn) ∧ W.cell? ⟨w.heap.size, 2, none⟩ = some (hv st) ∧ W.cell? ⟨w.heap.size, 3, none⟩ = some (uv sq) ∧ W.cell? ⟨w.heap.size, 4, none⟩ = some (uv pr) ∧ W.cell? ⟨w.heap.size, 5, none⟩ = some (.bool bg) ∧ W.cell? ⟨w.heap.size, 6, none⟩ = some (.bool en) ∧ W.cell? ⟨w.heap.size, 7, none⟩ = some (.bool un) ∧ W.cell? ⟨w.heap.size, 8, none⟩ = some (.bool nw) ∧ W.cell? ⟨w.heap.size, 9, none⟩ = some (.slice A us.length c) ∧ W.cell? ⟨w.heap.size + 1, 0, none⟩ = some (.bool inter') ∧ W.cell? ⟨w.heap.size + 1, 1, none⟩ = some (uv tsn') ∧ W.cell? ⟨w.heap.size + 1, 2, none⟩ = some (hv st') ∧ W.cell? ⟨w.heap.size + 1, 3, none⟩ = some (uv sq') ∧ W.cell? ⟨w.heap.size + 1, 4, none⟩ = some (uv pr') ∧ W.cell? ⟨w.heap.size + 1, 5, none⟩ = some (.bool bg') ∧ W.cell? ⟨w.heap.size + 1, 6, none⟩ = some (.bool en') ∧ W.cell? ⟨w.heap.size + 1, 7, none⟩ = some (.bool un') ∧ W.cell? ⟨w.heap.size + 1, 8, none⟩ = some (.bool nw') ∧ W.cell? ⟨w.heap.size + 1, 9, none⟩ = some (.slice A' us'.length c'))) (by kernel_rfl) (KS.out _ (below_drew (Below.refl _ _))) (fun hHeld => ?_)
    refine take_at (i := 0) (v := ?_) (some 5) rfl (by kernel_rfl) (by kernel_rfl) (by kernel_rfl) (fun _ _ _ h => h) (by kernel_rfl) (Or.inl ⟨by kernel_rfl, ?_⟩) (by assumption) ?_
    rotate_left
    · (intro w hSw; (try dsimp only at hSw); first | (go_simp <;> with_reducible rfl) | (go_simp; rw [EH.out]; rfl))
    simp only [Act.put, List.setIfInBounds_toArray, List.set_cons_zero, List.set_cons_succ]
    refine take_at (i := 2) (v := ?_) (some 7) rfl (by kernel_rfl) (by kernel_rfl) (by kernel_rfl) (fun _ _ _ h => h) (by kernel_rfl) (Or.inl ⟨by kernel_rfl, ?_⟩) (by assumption) ?_
    rotate_left
    · (intro w hSw; (try dsimp only at hSw); first | (go_simp <;> with_reducible rfl) | (go_simp; rw [EH.out]; rfl))
    simp only [Act.put, List.setIfInBounds_toArray, List.set_cons_zero, List.set_cons_succ]
    refine wpAnyH_ready (rs := [1]) (by kernel_rfl) (by simp) ?_
    refine AllReadyH.cons rfl (fun K hK => ?_) AllReadyH.nil
    go_simp
    go_at_call 117; (with_reducible refine (HP.out _ _ _).mono ?_); rintro e w2 ⟨rfl, b2⟩; have R2 : Below (w.heap.size + 2) w1 w2 := (below_undrew13 b2).mono (Nat.le_of_eq hs1.symm)
    go_wp2_with fail
    clear hHeld
    refine hK.out _ _ (KS.out _ R2) (fun hHeld => ?_)
    clear hK K
    try simp only [Act.put, List.setIfInBounds_toArray, List.set_cons_zero, List.set_cons_succ]
    refine wpAnyH_ready (rs := [3]) (by kernel_rfl) (by simp) ?_
    refine AllReadyH.cons rfl (fun K hK => ?_) AllReadyH.nil
    go_simp
    go_at_call 117; (with_reducible refine (HQ.out _ _ _).mono ?_); rintro e w3 ⟨rfl, b3⟩; have R3 : Below (w.heap.size + 2) w1 w3 := ((below_undrew13 b2).trans (b3.mono b2.size)).mono (Nat.le_of_eq hs1.symm)
    go_wp2_with fail
    clear hHeld
    refine hK.out _ _ (KS.out _ R3) (fun hHeld => ?_)
    clear hK K
    try simp only [Act.put, List.setIfInBounds_toArray, List.set_cons_zero, List.set_cons_succ]
    refine take_at (i := 4) (v := ?_) (some 9) rfl (by kernel_rfl) (by kernel_rfl) (by kernel_rfl) (fun _ _ _ h => h) (by kernel_rfl) (Or.inl ⟨by kernel_rfl, ?_⟩) (by assumption) ?_
    rotate_left
    · (intro w hSw; (try dsimp only at hSw); first | (go_simp <;> with_reducible rfl) | (go_simp; rw [EH.out]; rfl))
    simp only [Act.put, List.setIfInBounds_toArray, List.set_cons_zero, List.set_cons_succ]
    refine take_at (i := 5) (v := ?_) (some 10) rfl (by kernel_rfl) (by kernel_rfl) (by kernel_rfl) (fun _ _ _ h => h) (by kernel_rfl) (Or.inl ⟨by kernel_rfl, ?_⟩) (by assumption) ?_
    rotate_left
    · (intro w hSw; (try dsimp only at hSw); first | (go_simp <;> with_reducible rfl) | (go_simp; rw [EH.out]; rfl))
    simp only [Act.put, List.setIfInBounds_toArray, List.set_cons_zero, List.set_cons_succ]
    refine take_at (i := 6) (v := ?_) (some 11) rfl (by kernel_rfl) (by kernel_rfl) (by kernel_rfl) (fun _ _ _ h => h) (by kernel_rfl) (Or.inl ⟨by kernel_rfl, ?_⟩) (by assumption) ?_
    rotate_left
    · (intro w hSw; (try dsimp only at hSw); first | (go_simp <;> with_reducible rfl) | (go_simp; rw [EH.out]; rfl))
    simp only [Act.put, List.setIfInBounds_toArray, List.set_cons_zero, List.set_cons_succ]
    refine take_at (i := 7) (v := ?_) (some 12) rfl (by kernel_rfl) (by kernel_rfl) (by kernel_rfl) (fun _ _ _ h => h) (by kernel_rfl) (Or.inl ⟨by kernel_rfl, ?_⟩) (by assumption) ?_
    rotate_left
    · (intro w hSw; (try dsimp only at hSw); first | (go_simp <;> with_reducible rfl) | (go_simp; rw [EH.out]; rfl))
    simp only [Act.put, List.setIfInBounds_toArray, List.set_cons_zero, List.set_cons_succ]
    refine take_at (i := 8) (v := ?_) (some 13) rfl (by kernel_rfl) (by kernel_rfl) (by kernel_rfl) (fun _ _ _ h => h) (by kernel_rfl) (Or.inl ⟨by kernel_rfl, ?_⟩) (by assumption) ?_
    rotate_left
    · (intro w hSw; (try dsimp only at hSw); first | (go_simp <;> with_reducible rfl) | (go_simp; rw [EH.out]; rfl))
    simp only [Act.put, List.setIfInBounds_toArray, List.set_cons_zero, List.set_cons_succ]
    refine take_at (i := 9) (v := ?_) (some 14) rfl (by kernel_rfl) (by kernel_rfl) (by kernel_rfl) (fun _ _ _ h => h) (by kernel_rfl) (Or.inl ⟨by kernel_rfl, ?_⟩) (by assumption) ?_
    rotate_left
    · (intro w hSw; (try dsimp only at hSw); first | (go_simp <;> with_reducible rfl) | (go_simp; rw [EH.out]; rfl))
    simp only [Act.put, List.setIfInBounds_toArray, List.set_cons_zero, List.set_cons_succ]
    refine wpAnyH_ready (rs := [10]) (by kernel_rfl) (by simp) ?_
    refine AllReadyH.cons rfl (fun K hK => ?_) AllReadyH.nil
    go_simp
    go_at_call 118; (with_reducible refine (HB.out _ R3).mono ?_); rintro e w4 ⟨rfl, rfl⟩
    go_wp2_with fail
    clear hHeld
    refine hK.out _ _ (KS.out _ R3) (fun hHeld => ?_)
    clear hK K
    try simp only [Act.put, List.setIfInBounds_toArray, List.set_cons_zero, List.set_cons_succ]
    refine take_at (i := 11) (v := ?_) (some 16) rfl (by kernel_rfl) (by kernel_rfl) (by kernel_rfl) (fun _ _ _ h => h) (by kernel_rfl) (Or.inl ⟨by kernel_rfl, ?_⟩) (by assumption) ?_
    rotate_left
    · (intro w hSw; (try dsimp only at hSw); first | (go_simp <;> with_reducible rfl) | (go_simp; rw [EH.out]; rfl))
    simp only [Act.put, List.setIfInBounds_toArray, List.set_cons_zero, List.set_cons_succ]
    refine take_at (i := 12) (v := ?_) (some 4) rfl (by kernel_rfl) (by kernel_rfl) (by kernel_rfl) (fun _ _ _ h => h) (by kernel_rfl) (Or.inl ⟨by kernel_rfl, ?_⟩) (by assumption) ?_
    rotate_left
    · (intro w hSw; (try dsimp only at hSw); first | (go_simp <;> with_reducible rfl) | (go_simp; rw [EH.out]; rfl))
    simp only [Act.put, List.setIfInBounds_toArray, List.set_cons_zero, List.set_cons_succ]
    refine wpAnyH_done (by kernel_rfl) ?_ _
    go_wp2_with fail
    go_ret
    exact ⟨rfl, b0.trans (R3.mono (by omega))⟩
end Go.Proofs.YtdcppcoldaaldaaGreatDoor




namespace Go.Proofs.YtdcppcoldaaldaaGreatDoor
open Go.RowKit

/-- a new row of one or two numbers, put -/
theorem dput_any (k : Nat) (hk : k = 1 ∨ k = 2 ∨ k = 4) (l : List UInt32) (hl : l.length ≤ 1000) (w : World) :
    Calls Tryz.prog 86 #[.int .i64 (k : Int), .slice (some ⟨w.heap.size, 0, none⟩) l.length l.length] (w.alloc (.cells (l.map uv).toArray 22)) fun e w' =>
      ∃ A' c', e = .returned (.slice A' (l.length * k) c') ∧ IsB w' w'.heap.size (.slice A' (l.length * k) c') (puts k l) ∧ Below w.heap.size w w' := by
  have h := (Lies.newN w (l.map uv) 22).more (B' := (w.alloc (.cells (l.map uv).toArray 22)).heap.size) (by simp)
  refine (put_any k hk (some ⟨w.heap.size, 0, none⟩) l.length l _ h (by omega)).mono ?_
  rintro e w' ⟨A', c', rfl, hown, hb⟩
  have hcap := own_cap hown
  exact ⟨A', c', rfl, ⟨A', c', by rw [puts_len], Lies.own hown, by rw [puts_len]; exact hcap.2.1, hcap.2.2⟩, ((Below.refl _ w).alloc (Nat.le_refl _) _).trans (hb.mono (by simp))⟩
theorem parts4 {w : World} (v1 v2 v3 v4 : Value) (p1 p2 p3 p4 : List UInt8) (h1 : IsB w w.heap.size v1 p1) (h2 : IsB w w.heap.size v2 p2) (h3 : IsB w w.heap.size v3 p3) (h4 : IsB w w.heap.size v4 p4) :
    Parts (w.alloc (.cells #[v1, v2, v3, v4] 24)) (w.alloc (.cells #[v1, v2, v3, v4] 24)).heap.size (some ⟨w.heap.size, 0, none⟩) [v1, v2, v3, v4] [p1, p2, p3, p4] := by
  have hb : Below w.heap.size w (w.alloc (.cells #[v1, v2, v3, v4] 24)) := (Below.refl _ w).alloc (Nat.le_refl _) _
  have hmore : ∀ v p, IsB w w.heap.size v p → IsB (w.alloc (.cells #[v1, v2, v3, v4] 24)) (w.alloc (.cells #[v1, v2, v3, v4] 24)).heap.size v p := by
    rintro v p ⟨A, c, h1, h2, h3, h4⟩
    exact ⟨A, c, h1, (h2.below hb).more hb.size, h3, h4⟩
  refine ⟨(Lies.newN w [v1, v2, v3, v4] _).more (by simp), rfl, fun i p hp => ?_⟩
  match i, hp with
  | 0, hp => simp only [List.getElem?_cons_zero, Option.some.injEq] at hp; subst hp; exact ⟨_, rfl, hmore _ _ h1⟩
  | 1, hp => simp only [List.getElem?_cons_succ, List.getElem?_cons_zero, Option.some.injEq] at hp; subst hp; exact ⟨_, rfl, hmore _ _ h2⟩
  | 2, hp => simp only [List.getElem?_cons_succ, List.getElem?_cons_zero, Option.some.injEq] at hp; subst hp; exact ⟨_, rfl, hmore _ _ h3⟩
  | 3, hp => simp only [List.getElem?_cons_succ, List.getElem?_cons_zero, Option.some.injEq] at hp; subst hp; exact ⟨_, rfl, hmore _ _ h4⟩
  | i + 4, hp => simp at hp
theorem tot4 (p q r s : List UInt8) : tot [p, q, r, s] = p.length + q.length + r.length + s.length := by simp [tot]; omega
/-- four parts in a new row, joined -/
theorem djoin_any (v1 v2 v3 v4 : Value) (p1 p2 p3 p4 : List UInt8) (w : World) (h1 : IsB w w.heap.size v1 p1) (h2 : IsB w w.heap.size v2 p2) (h3 : IsB w w.heap.size v3 p3) (h4 : IsB w w.heap.size v4 p4) (n : Nat) (hn : p1.length + p2.length + p3.length + p4.length = n) (hm : n ≤ 100000) :
    Calls Tryz.prog 83 #[.slice (some ⟨w.heap.size, 0, none⟩) 4 4] (w.alloc (.cells #[v1, v2, v3, v4] 24)) fun e w' =>
      ∃ A' c', e = .returned (.slice A' n c') ∧ w'.ownsRow w.heap.size 5 1 (.slice A' n c') n ((p1 ++ p2 ++ p3 ++ p4).map bv) ∧ Below w.heap.size w w' := by
  have hP := parts4 _ _ _ _ _ _ _ _ h1 h2 h3 h4
  have ht : tot [p1, p2, p3, p4] = n := by rw [tot4, hn]
  refine (join_any _ 4 _ _ _ hP (by simp [maxLen]) (by rw [ht]; omega)).mono ?_
  rintro e w' ⟨A', c', rfl, hown, hb⟩
  rw [ht] at hown ⊢
  have e3 : [p1, p2, p3, p4].flatten = p1 ++ p2 ++ p3 ++ p4 := by simp
  rw [e3] at hown
  exact ⟨A', c', rfl, own_base hown (by simp), ((Below.refl _ w).alloc (Nat.le_refl _) _).trans (hb.mono (by simp))⟩
/-- the data of a description's chunk -/
def datB (p : Pt) : List UInt8 := (if p.inter then puts 4 [p.tsn] ++ puts 2 [u32of p.st.toNat, 0] ++ puts 4 [p.sq, p.pr] else puts 4 [p.tsn] ++ puts 2 [u32of p.st.toNat, p.sq] ++ puts 4 [p.pr]) ++ p.us
theorem datB_len (p : Pt) : (datB p).length = (if p.inter then 16 else 12) + p.us.length := by
  unfold datB
  cases p.inter <;> simp [puts_len] <;> omega
end Go.Proofs.YtdcppcoldaaldaaGreatDoor


