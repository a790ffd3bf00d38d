/- Layer 13: the reference's Make (written by tools/gen_data_xm.py). It writes nothing that was there. -/
import Derived.Test.YtdcppcoldaaldaaGreatDoorQDT
import Derived.Test.YtdcppcoldaaldaaGreatDoorQDJ
import Derived.Test.YtdcppcoldaaldaaGreatDoorQWireF
import Derived.Test.YtdcppcoldaaldaaGreatDoorQNF
import Derived.BigGuard
import Derived.Deep.RegionHeld3
import Derived.Deep.Cut
import Derived.Deep.CutRange









namespace Go.Proofs.YtdcppcoldaaldaaGreatDoor
open Go.RowKit

set_option linter.unusedSimpArgs false
/-- the three boxes of the call, and the row of the data so far -/
structure RM (w : World) (p : Pt) (A : Option Addr) (c : Nat) (t fl : Int) (bs : List UInt8) (d : Value) (wx : World) : Prop where
  x : Whole wx w.heap.size 26 (ptCells p A c)
  y : Whole wx (w.heap.size + 1) 31 #[.int .u8 0, .int .u8 0, .slice none 0 0, .slice none 0 0]
  z : Whole wx (w.heap.size + 1 + 1) 31 #[.int .u8 t, .int .u8 fl, d, .slice none 0 0]
  own : wx.ownsRow w.heap.size 5 1 d bs.length (bs.map bv)
  low : Below w.heap.size w wx
theorem RM.below {w wx wy : World} {p : Pt} {A : Option Addr} {c : Nat} {t fl : Int} {bs : List UInt8} {d : Value} (h : RM w p A c t fl bs d wx) (hb : Below wx.heap.size wx wy) : RM w p A c t fl bs d wy :=
  ⟨h.x.below hb h.x.lt, h.y.below hb h.y.lt, h.z.below hb h.z.lt, own_below' h.own hb, h.low.trans (hb.mono h.low.size)⟩
theorem RM.flag {w wx : World} {p : Pt} {A : Option Addr} {c : Nat} {t fl : Int} {bs : List UInt8} {d : Value} (h : RM w p A c t fl bs d wx) (f : Int) : RM w p A c t f bs d (wx.setCell ⟨w.heap.size + 1 + 1, 1, none⟩ (.int .u8 f)) :=
  ⟨h.x.below (B := w.heap.size + 1) ((Below.refl _ wx).setCell (p := ⟨w.heap.size + 1 + 1, 1, none⟩) (Nat.le_succ _) _) (Nat.lt_succ_self _),
   h.y.below (B := w.heap.size + 1 + 1) ((Below.refl _ wx).setCell (p := ⟨w.heap.size + 1 + 1, 1, none⟩) (Nat.le_refl _) _) (Nat.lt_succ_self _),
   h.z.set_ 1 _, own_set13 h.own h.z (by decide), h.low.setCell (p := ⟨w.heap.size + 1 + 1, 1, none⟩) (by show w.heap.size ≤ w.heap.size + 1 + 1; omega) _⟩
theorem RM.type {w wx : World} {p : Pt} {A : Option Addr} {c : Nat} {t fl : Int} {bs : List UInt8} {d : Value} (h : RM w p A c t fl bs d wx) (f : Int) : RM w p A c f fl bs d (wx.setCell ⟨w.heap.size + 1 + 1, 0, none⟩ (.int .u8 f)) :=
  ⟨h.x.below (B := w.heap.size + 1) ((Below.refl _ wx).setCell (p := ⟨w.heap.size + 1 + 1, 0, none⟩) (Nat.le_succ _) _) (Nat.lt_succ_self _),
   h.y.below (B := w.heap.size + 1 + 1) ((Below.refl _ wx).setCell (p := ⟨w.heap.size + 1 + 1, 0, none⟩) (Nat.le_refl _) _) (Nat.lt_succ_self _),
   h.z.set_ 0 _, own_set13 h.own h.z (by decide), h.low.setCell (p := ⟨w.heap.size + 1 + 1, 0, none⟩) (by show w.heap.size ≤ w.heap.size + 1 + 1; omega) _⟩
/-- a row that has grown is laid in the data -/
theorem RM.grow {w wx wy : World} {p : Pt} {A : Option Addr} {c : Nat} {t fl : Int} {bs news : List UInt8} {d e : Value} {v : Value} {n : Nat} {ys : List Value} {B : Nat} (h : RM w p A c t fl bs d wx) (ho : wx.ownsRow B 5 1 v n ys) (hB : w.heap.size ≤ B)
    (hg : wx.grownBy wy v.ownBlock) (he : wy.ownsRow w.heap.size 5 1 e news.length (news.map bv)) : RM w p A c t fl news e (wy.setCell ⟨w.heap.size + 1 + 1, 2, none⟩ e) := by
  have hx : Whole wy w.heap.size 26 (ptCells p A c) := (hg.block _ h.x.lt (fun q => whole_row_ne h.x (by decide) ho (by first | exact q | exact q.symm))).trans h.x
  have hy : Whole wy (w.heap.size + 1) 31 #[.int .u8 0, .int .u8 0, .slice none 0 0, .slice none 0 0] := (hg.block _ h.y.lt (fun q => whole_row_ne h.y (by decide) ho (by first | exact q | exact q.symm))).trans h.y
  have hz : Whole wy (w.heap.size + 1 + 1) 31 #[.int .u8 t, .int .u8 fl, d, .slice none 0 0] := (hg.block _ h.z.lt (fun q => whole_row_ne h.z (by decide) ho (by first | exact q | exact q.symm))).trans h.z
  have hl : Below w.heap.size w wy := h.low.grown hg h.low.size (fun r q => Nat.le_trans hB (ho.lt r q).1)
  exact ⟨hx.below (B := w.heap.size + 1) ((Below.refl _ wy).setCell (p := ⟨w.heap.size + 1 + 1, 2, none⟩) (Nat.le_succ _) _) (Nat.lt_succ_self _),
   hy.below (B := w.heap.size + 1 + 1) ((Below.refl _ wy).setCell (p := ⟨w.heap.size + 1 + 1, 2, none⟩) (Nat.le_refl _) _) (Nat.lt_succ_self _),
   hz.set_ 2 _, own_set13 he hz (by decide), hl.setCell (p := ⟨w.heap.size + 1 + 1, 2, none⟩) (by show w.heap.size ≤ w.heap.size + 1 + 1; omega) _⟩
theorem RM.kept {w wx wy : World} {p : Pt} {A : Option Addr} {c : Nat} {t fl : Int} {bs : List UInt8} {d v : Value} {n : Nat} {ys : List Value} {B : Nat} (h : RM w p A c t fl bs d wx) (ho : wx.ownsRow B 5 1 v n ys) (hg : wx.grownBy wy v.ownBlock) :
    Whole wy w.heap.size 26 (ptCells p A c) ∧ Whole wy (w.heap.size + 1 + 1) 31 #[.int .u8 t, .int .u8 fl, d, .slice none 0 0] :=
  ⟨(hg.block _ h.x.lt (fun q => whole_row_ne h.x (by decide) ho (by first | exact q | exact q.symm))).trans h.x, (hg.block _ h.z.lt (fun q => whole_row_ne h.z (by decide) ho (by first | exact q | exact q.symm))).trans h.z⟩
theorem flP_sum (bg en un nw : Bool) : Value.int .u8 ((((0 : Int) + (if en = true then 1 else 0)) + (if bg = true then 2 else 0)) + (if un = true then 4 else 0) + (if nw = true then 8 else 0)) = bv (flP ⟨false, 0, 0, 0, 0, bg, en, un, nw, []⟩) := by
  cases bg <;> cases en <;> cases un <;> cases nw <;> rfl
theorem be2_0M : be 2 0 = [0, 0] := by decide
theorem own_setRowM {W : World} {base e n g : Nat} {v : Value} {xs : List Value} {t : TypeId} {cs : Array Value} (h : W.ownsRow base e 1 v n xs) (hz : Whole W g t cs) (hte : t ≠ e) (ds : Array Value) : (W.setRow g ds).ownsRow base e 1 v n xs := by
  have hne := whole_row_ne hz hte h
  refine ⟨h.1, ?_⟩
  rcases h.2 with h2 | ⟨q, cap, cur, rfl, h3, h4, h5⟩
  · exact .inl h2
  · exact .inr ⟨q, cap, cur, rfl, h3, by rw [setRow_other _ _ _ _ (fun e => hne (by simp [Value.ownBlock, e]))]; exact h4, h5⟩
set_option maxRecDepth 100000 in
set_option maxHeartbeats 16000000 in
theorem rmake_true (tsn : UInt32) (st : UInt16) (sq pr : UInt32) (bg en un nw : Bool) (us : List UInt8) (hus : us.length ≤ 1000000) (A : Option Addr) (c : Nat) (w : World) (hp : PtL w w.heap.size A c ⟨true, tsn, st, sq, pr, bg, en, un, nw, us⟩) :
    Calls Tryz.prog 22 #[ptV ⟨true, tsn, st, sq, pr, bg, en, un, nw, us⟩ A c] w fun e w' => ∃ A' c' n, e = .returned (.agg #[bv (tyB ⟨true, tsn, st, sq, pr, bg, en, un, nw, us⟩), bv (flP ⟨true, tsn, st, sq, pr, bg, en, un, nw, us⟩), .slice A' n c', .slice none 0 0]) ∧ n = (datB ⟨true, tsn, st, sq, pr, bg, en, un, nw, us⟩).length ∧ w'.ownsRow w.heap.size 5 1 (.slice A' n c') n ((datB ⟨true, tsn, st, sq, pr, bg, en, un, nw, us⟩).map bv) ∧ Below w.heap.size w w' := by
  have b0 : Below w.heap.size w (((w.alloc (.cells (ptCells ⟨true, tsn, st, sq, pr, bg, en, un, nw, us⟩ A c) 26)).alloc (.cells #[.int .u8 0, .int .u8 0, .slice none 0 0, .slice none 0 0] 31)).alloc (.cells #[.int .u8 0, .int .u8 0, .slice none 0 0, .slice none 0 0] 31)) := (((Below.refl _ w).alloc (Nat.le_refl _) _).alloc (by simp) _).alloc (by simp; omega) _
  have x0 := ((Whole.new w 26 (ptCells ⟨true, tsn, st, sq, pr, bg, en, un, nw, us⟩ A c)).alloc (.cells #[.int .u8 0, .int .u8 0, .slice none 0 0, .slice none 0 0] 31)).alloc (.cells #[.int .u8 0, .int .u8 0, .slice none 0 0, .slice none 0 0] 31)
  have y0 := (Whole.new (w.alloc (.cells (ptCells ⟨true, tsn, st, sq, pr, bg, en, un, nw, us⟩ A c) 26)) 31 #[.int .u8 0, .int .u8 0, .slice none 0 0, .slice none 0 0]).alloc (.cells #[.int .u8 0, .int .u8 0, .slice none 0 0, .slice none 0 0] 31)
  have z0 := Whole.new ((w.alloc (.cells (ptCells ⟨true, tsn, st, sq, pr, bg, en, un, nw, us⟩ A c) 26)).alloc (.cells #[.int .u8 0, .int .u8 0, .slice none 0 0, .slice none 0 0] 31)) 31 #[.int .u8 0, .int .u8 0, .slice none 0 0, .slice none 0 0]
  rw [World.size_alloc] at y0
  rw [World.size_alloc, World.size_alloc] at z0
  have r0 : RM w ⟨true, tsn, st, sq, pr, bg, en, un, nw, us⟩ A c 0 0 [] (.slice none 0 0) (((w.alloc (.cells (ptCells ⟨true, tsn, st, sq, pr, bg, en, un, nw, us⟩ A c) 26)).alloc (.cells #[.int .u8 0, .int .u8 0, .slice none 0 0, .slice none 0 0] 31)).alloc (.cells #[.int .u8 0, .int .u8 0, .slice none 0 0, .slice none 0 0] 31)) := ⟨x0, y0, z0, World.ownsRow_nil _ _ _ _, b0⟩
  have HL := Lib.hid (fun (V : World) (hV : Below w.heap.size w V) => hp.on hV)
  have HDc := Lib.hid hp.dc
  have HDm := Lib.hid hp.dm
  clear b0 x0 y0 z0 hp
  simp only [ptV, ptCells] at *
  go_enter Tryz.func22, Tryz.ntmps22
  go_upto_region 2 with fail
  generalize (((w.alloc (.cells #[.bool true, uv tsn, hv st, uv sq, uv pr, .bool bg, .bool en, .bool un, .bool nw, .slice A us.length c] 26)).alloc (.cells #[.int .u8 0, .int .u8 0, .slice none 0 0, .slice none 0 0] 31)).alloc (.cells #[.int .u8 0, .int .u8 0, .slice none 0 0, .slice none 0 0] 31)) = w1 at *
  obtain ⟨q0, q1, q2, q3, q4, q5, q6, q7, q8, q9⟩ := r0.x.cs10
  go_upto_if 6 with fail
  go_cut [] from 7 to 10 (fun wx => ∃ f0 : Int, f0 = (0 : Int) + (if en = true then 1 else 0) ∧ 0 ≤ f0 ∧ f0 ≤ 1 ∧ RM w ⟨true, tsn, st, sq, pr, bg, en, un, nw, us⟩ A c 0 f0 [] (.slice none 0 0) wx)
  case first =>
    cases en with
    | true =>
      obtain ⟨z0, z1, z2, z3⟩ := wh4 r0.z
      have g1 := r0.z.frozen 1
      go_wp2_with fail
      go_meet
      case rel =>
        exact ⟨1, by simp, by omega, by omega, r0.flag 1⟩
    | false =>
      go_wp2_with fail
      go_meet
      case rel => exact ⟨0, by simp, by omega, by omega, r0⟩
  obtain ⟨f0, hf0, hlo0, hhi0, r1⟩ := hcut
  clear r0 q0 q1 q2 q3 q4 q5 q6 q7 q8 q9
  generalize wc = wF0 at *
  have HF0 := Lib.hid hf0
  clear hf0
  obtain ⟨q0, q1, q2, q3, q4, q5, q6, q7, q8, q9⟩ := r1.x.cs10
  go_upto_if 12 with fail
  go_cut [] from 13 to 16 (fun wx => ∃ f1 : Int, f1 = (f0 : Int) + (if bg = true then 2 else 0) ∧ 0 ≤ f1 ∧ f1 ≤ 3 ∧ RM w ⟨true, tsn, st, sq, pr, bg, en, un, nw, us⟩ A c 0 f1 [] (.slice none 0 0) wx)
  case first =>
    cases bg with
    | true =>
      obtain ⟨z0, z1, z2, z3⟩ := wh4 r1.z
      have g1 := r1.z.frozen 1
      go_wp2_with fail
      go_meet
      case rel =>
        exact ⟨f0 + 2, by simp, by omega, by omega, r1.flag _⟩
    | false =>
      go_wp2_with fail
      go_meet
      case rel => exact ⟨f0, by simp, by omega, by omega, r1⟩
  obtain ⟨f1, hf1, hlo1, hhi1, r2⟩ := hcut
  clear r1 q0 q1 q2 q3 q4 q5 q6 q7 q8 q9
  generalize wc = wF1 at *
  have HF1 := Lib.hid hf1
  clear hf1
  obtain ⟨q0, q1, q2, q3, q4, q5, q6, q7, q8, q9⟩ := r2.x.cs10
  go_upto_if 18 with fail
  go_cut [] from 19 to 22 (fun wx => ∃ f2 : Int, f2 = (f1 : Int) + (if un = true then 4 else 0) ∧ 0 ≤ f2 ∧ f2 ≤ 7 ∧ RM w ⟨true, tsn, st, sq, pr, bg, en, un, nw, us⟩ A c 0 f2 [] (.slice none 0 0) wx)
  case first =>
    cases un with
    | true =>
      obtain ⟨z0, z1, z2, z3⟩ := wh4 r2.z
      have g1 := r2.z.frozen 1
      go_wp2_with fail
      go_meet
      case rel =>
        exact ⟨f1 + 4, by simp, by omega, by omega, r2.flag _⟩
    | false =>
      go_wp2_with fail
      go_meet
      case rel => exact ⟨f1, by simp, by omega, by omega, r2⟩
  obtain ⟨f2, hf2, hlo2, hhi2, r3⟩ := hcut
  clear r2 q0 q1 q2 q3 q4 q5 q6 q7 q8 q9
  generalize wc = wF2 at *
  have HF2 := Lib.hid hf2
  clear hf2
  obtain ⟨q0, q1, q2, q3, q4, q5, q6, q7, q8, q9⟩ := r3.x.cs10
  go_upto_if 24 with fail
  go_cut [] from 25 to 28 (fun wx => ∃ f3 : Int, f3 = (f2 : Int) + (if nw = true then 8 else 0) ∧ 0 ≤ f3 ∧ f3 ≤ 15 ∧ RM w ⟨true, tsn, st, sq, pr, bg, en, un, nw, us⟩ A c 0 f3 [] (.slice none 0 0) wx)
  case first =>
    cases nw with
    | true =>
      obtain ⟨z0, z1, z2, z3⟩ := wh4 r3.z
      have g1 := r3.z.frozen 1
      go_wp2_with fail
      go_meet
      case rel =>
        exact ⟨f2 + 8, by simp, by omega, by omega, r3.flag _⟩
    | false =>
      go_wp2_with fail
      go_meet
      case rel => exact ⟨f2, by simp, by omega, by omega, r3⟩
  obtain ⟨f3, hf3, hlo3, hhi3, r4⟩ := hcut
  clear r3 q0 q1 q2 q3 q4 q5 q6 q7 q8 q9
  generalize wc = wF3 at *
  have HF3 := Lib.hid hf3
  clear hf3
  obtain ⟨q0, q1, q2, q3, q4, q5, q6, q7, q8, q9⟩ := r4.x.cs10
  go_upto_region 10 with fail
  have est : Value.int .u32 (IntKind.u32.wrap (st.toNat : Int)) = uv (u32of st.toNat) := by
    have := st.toNat_lt
    rw [uv, u32of_toNat (by omega), IntKind.wrap_u32]
    congr 1
    omega
  have KSa : Hid (∀ W, Whole W w.heap.size 26 (ptCells ⟨true, tsn, st, sq, pr, bg, en, un, nw, us⟩ A c) → W.cell? ⟨w.heap.size, 1, none⟩ = some (uv tsn) ∧ W.cell? ⟨w.heap.size, 2, none⟩ = some (hv st)) := Lib.hid (fun W h => ⟨h.cs10.2.1, h.cs10.2.2.1⟩)
  clear q0 q1 q2 q3 q4 q5 q6 q7 q8 q9
  go_cut [] from 29 to 39 (fun wx => ∃ (A' : Option Addr) (c' : Nat), RM w ⟨true, tsn, st, sq, pr, bg, en, un, nw, us⟩ A c 0 f3 (puts 4 [tsn] ++ puts 2 [u32of st.toNat]) (.slice A' 6 c') wx)
  case first =>
    refine wp_region_held_drew (S := (fun W => W.cell? ⟨w.heap.size, 1, none⟩ = some (uv tsn) ∧ W.cell? ⟨w.heap.size, 2, none⟩ = some (hv st))) (by kernel_rfl) (KSa.out _ r4.x) (fun hHeld => ?_)
    refine take_at (i := 0) (v := ?_) (some 29) rfl (by kernel_rfl) (by kernel_rfl) (by kernel_rfl) (fun _ _ _ h => h) (by kernel_rfl) (Or.inl ⟨by kernel_rfl, ?_⟩) (by assumption) ?_
    rotate_left
    · (intro w hSw; (try dsimp only at hSw); go_simp <;> with_reducible rfl)
    simp only [Act.put, List.setIfInBounds_toArray, List.set_cons_zero, List.set_cons_succ]
    refine take_at (i := 1) (v := ?_) (some 30) rfl (by kernel_rfl) (by kernel_rfl) (by kernel_rfl) (fun _ _ _ h => h) (by kernel_rfl) (Or.inl ⟨by kernel_rfl, ?_⟩) (by assumption) ?_
    rotate_left
    · (intro w hSw; (try dsimp only at hSw); go_simp <;> with_reducible rfl)
    simp only [Act.put, List.setIfInBounds_toArray, List.set_cons_zero, List.set_cons_succ]
    refine take_at (i := 4) (v := ?_) (some 33) rfl (by kernel_rfl) (by kernel_rfl) (by kernel_rfl) (fun _ _ _ h => h) (by kernel_rfl) (Or.inl ⟨by kernel_rfl, ?_⟩) (by assumption) ?_
    rotate_left
    · (intro w hSw; (try dsimp only at hSw); go_simp <;> with_reducible rfl)
    simp only [Act.put, List.setIfInBounds_toArray, List.set_cons_zero, List.set_cons_succ]
    refine take_at (i := 5) (v := ?_) (some 34) rfl (by kernel_rfl) (by kernel_rfl) (by kernel_rfl) (fun _ _ _ h => h) (by kernel_rfl) (Or.inl ⟨by kernel_rfl, ?_⟩) (by assumption) ?_
    rotate_left
    · (intro w hSw; (try dsimp only at hSw); go_simp <;> with_reducible rfl)
    simp only [Act.put, List.setIfInBounds_toArray, List.set_cons_zero, List.set_cons_succ]
    refine take_at (i := 6) (v := ?_) (some 35) rfl (by kernel_rfl) (by kernel_rfl) (by kernel_rfl) (fun _ _ _ h => h) (by kernel_rfl) (Or.inl ⟨by kernel_rfl, ?_⟩) (by assumption) ?_
    rotate_left
    · (intro w hSw; (try dsimp only at hSw); go_simp <;> with_reducible rfl)
    simp only [Act.put, List.setIfInBounds_toArray, List.set_cons_zero, List.set_cons_succ]
    refine wpAnyH_ready (rs := [2, 7]) (by kernel_rfl) (by simp) ?_
    refine AllReadyH.cons rfl (fun K hK => ?_) (AllReadyH.cons rfl (fun K hK => ?_) AllReadyH.nil)
    · go_simp
      have ba2 : Below wF3.heap.size wF3 (wF3.alloc (.cells #[uv tsn] 22)).drew := below_drew ((Below.refl _ _).alloc (Nat.le_refl _) _)
      have La2_2 : Lies (wF3.alloc (.cells #[uv tsn] 22)).drew (wF3.alloc (.cells #[uv tsn] 22)).drew.heap.size (some ⟨wF3.heap.size, 0, none⟩) ([tsn].map uv) := ((lies_new wF3 [tsn]).below (below_drew (Below.refl _ _))).more (by show _ ≤ (wF3.alloc _).heap.size; simp)
      have ra2 := r4.below ba2
      generalize (wF3.alloc (.cells #[uv tsn] 22)).drew = va2 at *
      clear hHeld
      refine hK.out _ _ (KSa.out _ ra2.x) (fun hHeld => ?_)
      clear hK K
      try simp only [Act.put, List.setIfInBounds_toArray, List.set_cons_zero, List.set_cons_succ]
      refine wpAnyH_ready (rs := [3, 7]) (by kernel_rfl) (by simp) ?_
      refine AllReadyH.cons rfl (fun K hK => ?_) (AllReadyH.cons rfl (fun K hK => ?_) AllReadyH.nil)
      · have hP : Calls Tryz.prog 73 #[.int .i64 4, .slice (some ⟨wF3.heap.size, 0, none⟩) 1 1] va2 fun e w' => ∃ A' c', e = .returned (.slice A' 4 c') ∧ w'.ownsRow va2.heap.size 5 1 (.slice A' 4 c') 4 ((puts 4 [tsn]).map bv) ∧ Below va2.heap.size va2 w' := rput_any 4 (.inr (.inr rfl)) _ 1 [tsn] va2 La2_2 (by simp)
        go_simp
        go_at_call 73; (with_reducible refine hP.mono ?_); rintro e va2_3 ⟨P3, m3, rfl, Oa3_2_3, ba2_3⟩
        go_wp2_with fail
        have ra2_3 := ra2.below ba2_3
        clear hP
        clear hHeld
        refine hK.out _ _ (KSa.out _ ra2_3.x) (fun hHeld => ?_)
        clear hK K
        try simp only [Act.put, List.setIfInBounds_toArray, List.set_cons_zero, List.set_cons_succ]
        refine wpAnyH_ready (rs := [7]) (by kernel_rfl) (by simp) ?_
        refine AllReadyH.cons rfl (fun K hK => ?_) AllReadyH.nil
        go_simp
        try rw [est]
        have ba2_3_7 : Below va2_3.heap.size va2_3 (va2_3.alloc (.cells #[uv (u32of st.toNat)] 22)) := (Below.refl _ _).alloc (Nat.le_refl _) _
        have La7_2_3_7 : Lies (va2_3.alloc (.cells #[uv (u32of st.toNat)] 22)) (va2_3.alloc (.cells #[uv (u32of st.toNat)] 22)).heap.size (some ⟨va2_3.heap.size, 0, none⟩) ([u32of st.toNat].map uv) := (lies_new va2_3 [u32of st.toNat]).more (by simp)
        have Oa3_2_3_7 := own_below' Oa3_2_3 ba2_3_7
        have ra2_3_7 := ra2_3.below ba2_3_7
        generalize (va2_3.alloc (.cells #[uv (u32of st.toNat)] 22)) = va2_3_7 at *
        clear hHeld
        refine hK.out _ _ (KSa.out _ ra2_3_7.x) (fun hHeld => ?_)
        clear hK K
        try simp only [Act.put, List.setIfInBounds_toArray, List.set_cons_zero, List.set_cons_succ]
        refine wpAnyH_ready (rs := [8]) (by kernel_rfl) (by simp) ?_
        refine AllReadyH.cons rfl (fun K hK => ?_) AllReadyH.nil
        have hP : Calls Tryz.prog 73 #[.int .i64 2, .slice (some ⟨va2_3.heap.size, 0, none⟩) 1 1] va2_3_7 fun e w' => ∃ A' c', e = .returned (.slice A' 2 c') ∧ w'.ownsRow va2_3_7.heap.size 5 1 (.slice A' 2 c') 2 ((puts 2 [u32of st.toNat]).map bv) ∧ Below va2_3_7.heap.size va2_3_7 w' := rput_any 2 (.inr (.inl rfl)) _ 1 [u32of st.toNat] va2_3_7 La7_2_3_7 (by simp)
        go_simp
        go_at_call 73; (with_reducible refine hP.mono ?_); rintro e va2_3_7_8 ⟨P8, m8, rfl, Oa8_2_3_7_8, ba2_3_7_8⟩
        go_wp2_with fail
        have Oa3_2_3_7_8 := own_below' Oa3_2_3_7 ba2_3_7_8
        have ra2_3_7_8 := ra2_3_7.below ba2_3_7_8
        clear hP
        clear hHeld
        refine hK.out _ _ (KSa.out _ ra2_3_7_8.x) (fun hHeld => ?_)
        clear hK K
        try simp only [Act.put, List.setIfInBounds_toArray, List.set_cons_zero, List.set_cons_succ]
        refine wpAnyH_ready (rs := [9]) (by kernel_rfl) (by simp) ?_
        refine AllReadyH.cons rfl (fun K hK => ?_) AllReadyH.nil
        refine wp_append_lies _ (.tmp 32) (.tmp 37) 24 rfl (va2.heap.size) 5 _ 1 Tryz.underlying24 u8info rfl (.slice P3 4 m3) 4 ((puts 4 [tsn]).map bv) rfl (by first | exact Oa3_2_3_7_8 | simpa [puts_len] using Oa3_2_3_7_8) va2_3_7_8.heap.size P8 2 m8 ((puts 2 [u32of st.toNat]).map bv) rfl (by simp [puts_len]) (Lies.own Oa8_2_3_7_8) (by intro u hu; obtain ⟨_, _, rfl⟩ := List.mem_map.1 hu; rfl) (by omega) (by unfold maxLen; omega) (Nat.le_trans (Nat.le_refl _) (by first | exact Nat.le_trans (Nat.le_trans (ba2_3.size) ba2_3_7.size) ba2_3_7_8.size)) ?_
        intro A9 c9 w9 own9 gr9 _
        have k9 := ra2_3_7_8.kept Oa3_2_3_7_8 gr9
        obtain ⟨e0, e1, e2, e3⟩ := wh4 k9.2
        have f2 := k9.2.frozen 2
        clear hHeld
        refine hK.out _ _ (KSa.out _ k9.1) (fun hHeld => ?_)
        clear hK K
        try simp only [Act.put, List.setIfInBounds_toArray, List.set_cons_zero, List.set_cons_succ]
        refine take_at (i := 10) (v := ?_) (some 39) rfl (by kernel_rfl) (by kernel_rfl) (by kernel_rfl) (fun _ _ _ h => h) (by kernel_rfl) (Or.inl ⟨by kernel_rfl, ?_⟩) (by assumption) ?_
        rotate_left
        · (intro w hSw; (try dsimp only at hSw); go_simp <;> with_reducible rfl)
        simp only [Act.put, List.setIfInBounds_toArray, List.set_cons_zero, List.set_cons_succ]
        refine wpAnyH_ready (rs := [11]) (by kernel_rfl) (by simp) ?_
        refine AllReadyH.cons rfl (fun K hK => ?_) AllReadyH.nil
        go_simp
        have he : w9.ownsRow w.heap.size 5 1 (.slice A9 6 c9) (puts 4 [tsn] ++ puts 2 [u32of st.toNat]).length ((puts 4 [tsn] ++ puts 2 [u32of st.toNat]).map bv) := by
          have h9 := own_base own9 (Nat.le_trans r4.low.size (ba2.size))
          rw [show (puts 4 [tsn] ++ puts 2 [u32of st.toNat]).length = 6 by simp [puts_len]]
          first | exact h9 | simpa [List.map_append, puts_len] using h9
        have rG := ra2_3_7_8.grow Oa3_2_3_7_8 (Nat.le_trans r4.low.size (ba2.size)) gr9 he
        clear hHeld
        refine hK.out _ _ (KSa.out _ rG.x) (fun hHeld => ?_)
        clear hK K
        try simp only [Act.put, List.setIfInBounds_toArray, List.set_cons_zero, List.set_cons_succ]
        refine wpAnyH_done (by kernel_rfl) ?_ _
        go_wp2_with fail
        go_meet
        case rel => exact ⟨A9, c9, rG⟩
      · go_simp
        try rw [est]
        have ba2_7 : Below va2.heap.size va2 (va2.alloc (.cells #[uv (u32of st.toNat)] 22)) := (Below.refl _ _).alloc (Nat.le_refl _) _
        have La7_2_7 : Lies (va2.alloc (.cells #[uv (u32of st.toNat)] 22)) (va2.alloc (.cells #[uv (u32of st.toNat)] 22)).heap.size (some ⟨va2.heap.size, 0, none⟩) ([u32of st.toNat].map uv) := (lies_new va2 [u32of st.toNat]).more (by simp)
        have La2_2_7 := (La2_2.below ba2_7).more ba2_7.size
        have ra2_7 := ra2.below ba2_7
        generalize (va2.alloc (.cells #[uv (u32of st.toNat)] 22)) = va2_7 at *
        clear hHeld
        refine hK.out _ _ (KSa.out _ ra2_7.x) (fun hHeld => ?_)
        clear hK K
        try simp only [Act.put, List.setIfInBounds_toArray, List.set_cons_zero, List.set_cons_succ]
        refine wpAnyH_ready (rs := [3]) (by kernel_rfl) (by simp) ?_
        refine AllReadyH.cons rfl (fun K hK => ?_) AllReadyH.nil
        have hP : Calls Tryz.prog 73 #[.int .i64 4, .slice (some ⟨wF3.heap.size, 0, none⟩) 1 1] va2_7 fun e w' => ∃ A' c', e = .returned (.slice A' 4 c') ∧ w'.ownsRow va2_7.heap.size 5 1 (.slice A' 4 c') 4 ((puts 4 [tsn]).map bv) ∧ Below va2_7.heap.size va2_7 w' := rput_any 4 (.inr (.inr rfl)) _ 1 [tsn] va2_7 La2_2_7 (by simp)
        go_simp
        go_at_call 73; (with_reducible refine hP.mono ?_); rintro e va2_7_3 ⟨P3, m3, rfl, Oa3_2_7_3, ba2_7_3⟩
        go_wp2_with fail
        have La7_2_7_3 := (La7_2_7.below ba2_7_3).more ba2_7_3.size
        have ra2_7_3 := ra2_7.below ba2_7_3
        clear hP
        clear hHeld
        refine hK.out _ _ (KSa.out _ ra2_7_3.x) (fun hHeld => ?_)
        clear hK K
        try simp only [Act.put, List.setIfInBounds_toArray, List.set_cons_zero, List.set_cons_succ]
        refine wpAnyH_ready (rs := [8]) (by kernel_rfl) (by simp) ?_
        refine AllReadyH.cons rfl (fun K hK => ?_) AllReadyH.nil
        have hP : Calls Tryz.prog 73 #[.int .i64 2, .slice (some ⟨va2.heap.size, 0, none⟩) 1 1] va2_7_3 fun e w' => ∃ A' c', e = .returned (.slice A' 2 c') ∧ w'.ownsRow va2_7_3.heap.size 5 1 (.slice A' 2 c') 2 ((puts 2 [u32of st.toNat]).map bv) ∧ Below va2_7_3.heap.size va2_7_3 w' := rput_any 2 (.inr (.inl rfl)) _ 1 [u32of st.toNat] va2_7_3 La7_2_7_3 (by simp)
        go_simp
        go_at_call 73; (with_reducible refine hP.mono ?_); rintro e va2_7_3_8 ⟨P8, m8, rfl, Oa8_2_7_3_8, ba2_7_3_8⟩
        go_wp2_with fail
        have Oa3_2_7_3_8 := own_below' Oa3_2_7_3 ba2_7_3_8
        have ra2_7_3_8 := ra2_7_3.below ba2_7_3_8
        clear hP
        clear hHeld
        refine hK.out _ _ (KSa.out _ ra2_7_3_8.x) (fun hHeld => ?_)
        clear hK K
        try simp only [Act.put, List.setIfInBounds_toArray, List.set_cons_zero, List.set_cons_succ]
        refine wpAnyH_ready (rs := [9]) (by kernel_rfl) (by simp) ?_
        refine AllReadyH.cons rfl (fun K hK => ?_) AllReadyH.nil
        refine wp_append_lies _ (.tmp 32) (.tmp 37) 24 rfl (va2_7.heap.size) 5 _ 1 Tryz.underlying24 u8info rfl (.slice P3 4 m3) 4 ((puts 4 [tsn]).map bv) rfl (by first | exact Oa3_2_7_3_8 | simpa [puts_len] using Oa3_2_7_3_8) va2_7_3_8.heap.size P8 2 m8 ((puts 2 [u32of st.toNat]).map bv) rfl (by simp [puts_len]) (Lies.own Oa8_2_7_3_8) (by intro u hu; obtain ⟨_, _, rfl⟩ := List.mem_map.1 hu; rfl) (by omega) (by unfold maxLen; omega) (Nat.le_trans (Nat.le_refl _) (by first | exact Nat.le_trans (ba2_7_3.size) ba2_7_3_8.size)) ?_
        intro A9 c9 w9 own9 gr9 _
        have k9 := ra2_7_3_8.kept Oa3_2_7_3_8 gr9
        obtain ⟨e0, e1, e2, e3⟩ := wh4 k9.2
        have f2 := k9.2.frozen 2
        clear hHeld
        refine hK.out _ _ (KSa.out _ k9.1) (fun hHeld => ?_)
        clear hK K
        try simp only [Act.put, List.setIfInBounds_toArray, List.set_cons_zero, List.set_cons_succ]
        refine take_at (i := 10) (v := ?_) (some 39) rfl (by kernel_rfl) (by kernel_rfl) (by kernel_rfl) (fun _ _ _ h => h) (by kernel_rfl) (Or.inl ⟨by kernel_rfl, ?_⟩) (by assumption) ?_
        rotate_left
        · (intro w hSw; (try dsimp only at hSw); go_simp <;> with_reducible rfl)
        simp only [Act.put, List.setIfInBounds_toArray, List.set_cons_zero, List.set_cons_succ]
        refine wpAnyH_ready (rs := [11]) (by kernel_rfl) (by simp) ?_
        refine AllReadyH.cons rfl (fun K hK => ?_) AllReadyH.nil
        go_simp
        have he : w9.ownsRow w.heap.size 5 1 (.slice A9 6 c9) (puts 4 [tsn] ++ puts 2 [u32of st.toNat]).length ((puts 4 [tsn] ++ puts 2 [u32of st.toNat]).map bv) := by
          have h9 := own_base own9 (Nat.le_trans r4.low.size (Nat.le_trans (ba2.size) ba2_7.size))
          rw [show (puts 4 [tsn] ++ puts 2 [u32of st.toNat]).length = 6 by simp [puts_len]]
          first | exact h9 | simpa [List.map_append, puts_len] using h9
        have rG := ra2_7_3_8.grow Oa3_2_7_3_8 (Nat.le_trans r4.low.size (Nat.le_trans (ba2.size) ba2_7.size)) gr9 he
        clear hHeld
        refine hK.out _ _ (KSa.out _ rG.x) (fun hHeld => ?_)
        clear hK K
        try simp only [Act.put, List.setIfInBounds_toArray, List.set_cons_zero, List.set_cons_succ]
        refine wpAnyH_done (by kernel_rfl) ?_ _
        go_wp2_with fail
        go_meet
        case rel => exact ⟨A9, c9, rG⟩
    · go_simp
      try rw [est]
      have ba7 : Below wF3.heap.size wF3 (wF3.alloc (.cells #[uv (u32of st.toNat)] 22)).drew := below_drew ((Below.refl _ _).alloc (Nat.le_refl _) _)
      have La7_7 : Lies (wF3.alloc (.cells #[uv (u32of st.toNat)] 22)).drew (wF3.alloc (.cells #[uv (u32of st.toNat)] 22)).drew.heap.size (some ⟨wF3.heap.size, 0, none⟩) ([u32of st.toNat].map uv) := ((lies_new wF3 [u32of st.toNat]).below (below_drew (Below.refl _ _))).more (by show _ ≤ (wF3.alloc _).heap.size; simp)
      have ra7 := r4.below ba7
      generalize (wF3.alloc (.cells #[uv (u32of st.toNat)] 22)).drew = va7 at *
      clear hHeld
      refine hK.out _ _ (KSa.out _ ra7.x) (fun hHeld => ?_)
      clear hK K
      try simp only [Act.put, List.setIfInBounds_toArray, List.set_cons_zero, List.set_cons_succ]
      refine wpAnyH_ready (rs := [2]) (by kernel_rfl) (by simp) ?_
      refine AllReadyH.cons rfl (fun K hK => ?_) AllReadyH.nil
      go_simp
      have ba7_2 : Below va7.heap.size va7 (va7.alloc (.cells #[uv tsn] 22)) := (Below.refl _ _).alloc (Nat.le_refl _) _
      have La2_7_2 : Lies (va7.alloc (.cells #[uv tsn] 22)) (va7.alloc (.cells #[uv tsn] 22)).heap.size (some ⟨va7.heap.size, 0, none⟩) ([tsn].map uv) := (lies_new va7 [tsn]).more (by simp)
      have La7_7_2 := (La7_7.below ba7_2).more ba7_2.size
      have ra7_2 := ra7.below ba7_2
      generalize (va7.alloc (.cells #[uv tsn] 22)) = va7_2 at *
      clear hHeld
      refine hK.out _ _ (KSa.out _ ra7_2.x) (fun hHeld => ?_)
      clear hK K
      try simp only [Act.put, List.setIfInBounds_toArray, List.set_cons_zero, List.set_cons_succ]
      refine wpAnyH_ready (rs := [3]) (by kernel_rfl) (by simp) ?_
      refine AllReadyH.cons rfl (fun K hK => ?_) AllReadyH.nil
      have hP : Calls Tryz.prog 73 #[.int .i64 4, .slice (some ⟨va7.heap.size, 0, none⟩) 1 1] va7_2 fun e w' => ∃ A' c', e = .returned (.slice A' 4 c') ∧ w'.ownsRow va7_2.heap.size 5 1 (.slice A' 4 c') 4 ((puts 4 [tsn]).map bv) ∧ Below va7_2.heap.size va7_2 w' := rput_any 4 (.inr (.inr rfl)) _ 1 [tsn] va7_2 La2_7_2 (by simp)
      go_simp
      go_at_call 73; (with_reducible refine hP.mono ?_); rintro e va7_2_3 ⟨P3, m3, rfl, Oa3_7_2_3, ba7_2_3⟩
      go_wp2_with fail
      have La7_7_2_3 := (La7_7_2.below ba7_2_3).more ba7_2_3.size
      have ra7_2_3 := ra7_2.below ba7_2_3
      clear hP
      clear hHeld
      refine hK.out _ _ (KSa.out _ ra7_2_3.x) (fun hHeld => ?_)
      clear hK K
      try simp only [Act.put, List.setIfInBounds_toArray, List.set_cons_zero, List.set_cons_succ]
      refine wpAnyH_ready (rs := [8]) (by kernel_rfl) (by simp) ?_
      refine AllReadyH.cons rfl (fun K hK => ?_) AllReadyH.nil
      have hP : Calls Tryz.prog 73 #[.int .i64 2, .slice (some ⟨wF3.heap.size, 0, none⟩) 1 1] va7_2_3 fun e w' => ∃ A' c', e = .returned (.slice A' 2 c') ∧ w'.ownsRow va7_2_3.heap.size 5 1 (.slice A' 2 c') 2 ((puts 2 [u32of st.toNat]).map bv) ∧ Below va7_2_3.heap.size va7_2_3 w' := rput_any 2 (.inr (.inl rfl)) _ 1 [u32of st.toNat] va7_2_3 La7_7_2_3 (by simp)
      go_simp
      go_at_call 73; (with_reducible refine hP.mono ?_); rintro e va7_2_3_8 ⟨P8, m8, rfl, Oa8_7_2_3_8, ba7_2_3_8⟩
      go_wp2_with fail
      have Oa3_7_2_3_8 := own_below' Oa3_7_2_3 ba7_2_3_8
      have ra7_2_3_8 := ra7_2_3.below ba7_2_3_8
      clear hP
      clear hHeld
      refine hK.out _ _ (KSa.out _ ra7_2_3_8.x) (fun hHeld => ?_)
      clear hK K
      try simp only [Act.put, List.setIfInBounds_toArray, List.set_cons_zero, List.set_cons_succ]
      refine wpAnyH_ready (rs := [9]) (by kernel_rfl) (by simp) ?_
      refine AllReadyH.cons rfl (fun K hK => ?_) AllReadyH.nil
      refine wp_append_lies _ (.tmp 32) (.tmp 37) 24 rfl (va7_2.heap.size) 5 _ 1 Tryz.underlying24 u8info rfl (.slice P3 4 m3) 4 ((puts 4 [tsn]).map bv) rfl (by first | exact Oa3_7_2_3_8 | simpa [puts_len] using Oa3_7_2_3_8) va7_2_3_8.heap.size P8 2 m8 ((puts 2 [u32of st.toNat]).map bv) rfl (by simp [puts_len]) (Lies.own Oa8_7_2_3_8) (by intro u hu; obtain ⟨_, _, rfl⟩ := List.mem_map.1 hu; rfl) (by omega) (by unfold maxLen; omega) (Nat.le_trans (Nat.le_refl _) (by first | exact Nat.le_trans (ba7_2_3.size) ba7_2_3_8.size)) ?_
      intro A9 c9 w9 own9 gr9 _
      have k9 := ra7_2_3_8.kept Oa3_7_2_3_8 gr9
      obtain ⟨e0, e1, e2, e3⟩ := wh4 k9.2
      have f2 := k9.2.frozen 2
      clear hHeld
      refine hK.out _ _ (KSa.out _ k9.1) (fun hHeld => ?_)
      clear hK K
      try simp only [Act.put, List.setIfInBounds_toArray, List.set_cons_zero, List.set_cons_succ]
      refine take_at (i := 10) (v := ?_) (some 39) rfl (by kernel_rfl) (by kernel_rfl) (by kernel_rfl) (fun _ _ _ h => h) (by kernel_rfl) (Or.inl ⟨by kernel_rfl, ?_⟩) (by assumption) ?_
      rotate_left
      · (intro w hSw; (try dsimp only at hSw); go_simp <;> with_reducible rfl)
      simp only [Act.put, List.setIfInBounds_toArray, List.set_cons_zero, List.set_cons_succ]
      refine wpAnyH_ready (rs := [11]) (by kernel_rfl) (by simp) ?_
      refine AllReadyH.cons rfl (fun K hK => ?_) AllReadyH.nil
      go_simp
      have he : w9.ownsRow w.heap.size 5 1 (.slice A9 6 c9) (puts 4 [tsn] ++ puts 2 [u32of st.toNat]).length ((puts 4 [tsn] ++ puts 2 [u32of st.toNat]).map bv) := by
        have h9 := own_base own9 (Nat.le_trans r4.low.size (Nat.le_trans (ba7.size) ba7_2.size))
        rw [show (puts 4 [tsn] ++ puts 2 [u32of st.toNat]).length = 6 by simp [puts_len]]
        first | exact h9 | simpa [List.map_append, puts_len] using h9
      have rG := ra7_2_3_8.grow Oa3_7_2_3_8 (Nat.le_trans r4.low.size (Nat.le_trans (ba7.size) ba7_2.size)) gr9 he
      clear hHeld
      refine hK.out _ _ (KSa.out _ rG.x) (fun hHeld => ?_)
      clear hK K
      try simp only [Act.put, List.setIfInBounds_toArray, List.set_cons_zero, List.set_cons_succ]
      refine wpAnyH_done (by kernel_rfl) ?_ _
      go_wp2_with fail
      go_meet
      case rel => exact ⟨A9, c9, rG⟩
  obtain ⟨A5, c5, r5⟩ := hcut
  clear r4 KSa
  generalize wc = wG at *
  obtain ⟨q0, q1, q2, q3, q4, q5, q6, q7, q8, q9⟩ := r5.x.cs10
  obtain ⟨z0, z1, z2, z3⟩ := wh4 r5.z
  have g0 := r5.z.frozen 0
  go_upto_region 13 with fail
  have r6 := r5.type 64
  generalize wG.setCell ⟨w.heap.size + 1 + 1, 0, none⟩ (.int .u8 64) = wH at *
  clear r5 z0 z1 z2 z3 g0 q0 q1 q2 q3 q4 q5 q6 q7 q8 q9
  obtain ⟨z0, z1, z2, z3⟩ := wh4 r6.z
  have v6 : Below wH.heap.size wH (wH.alloc (.cells #[.int .u8 0, .int .u8 0] 5)) := (Below.refl _ _).alloc (Nat.le_refl _) _
  have r7 := r6.below v6
  have hsz7 := r7.low.size
  have hown7 : World.ownsRow (wH.alloc (.cells #[.int .u8 0, .int .u8 0] 5)) w.heap.size 5 1 (.slice A5 6 c5) 6 ((puts 4 [tsn] ++ puts 2 [u32of st.toNat]).map bv) := by
    have h9 := r7.own
    rw [show (puts 4 [tsn] ++ puts 2 [u32of st.toNat]).length = 6 by simp [puts_len]] at h9
    exact h9
  go_upto_region 14 with (at_builtin; refine wpList_append_lies _ rfl (.tmp 44) (.tmp 45) 24 rfl w.heap.size 5 _ 1 Tryz.underlying24 u8info rfl _ _ _ rfl hown7 _ _ 2 2 [.int .u8 0, .int .u8 0] rfl rfl (Lies.newN wH [.int .u8 0, .int .u8 0] 5) (by intro u hu; simp at hu; rw [hu]; rfl) (by omega) (by unfold maxLen; omega) hsz7 ?_; intro A9 c9 w9 own9 gr9 _; have k9 := r7.kept hown7 gr9; obtain ⟨e0, e1, e2, e3⟩ := wh4 k9.2; have f2 := k9.2.frozen 2)
  have he : w9.ownsRow w.heap.size 5 1 (.slice A9 8 c9) (puts 4 [tsn] ++ puts 2 [u32of st.toNat] ++ ([0, 0] : List UInt8)).length ((puts 4 [tsn] ++ puts 2 [u32of st.toNat] ++ ([0, 0] : List UInt8)).map bv) := by
    rw [show (puts 4 [tsn] ++ puts 2 [u32of st.toNat] ++ ([0, 0] : List UInt8)).length = 8 by simp [puts_len]]
    rw [List.map_append]
    exact own9
  have r8 := r7.grow hown7 (Nat.le_refl _) gr9 he
  generalize w9.setCell ⟨w.heap.size + 1 + 1, 2, none⟩ (.slice A9 8 c9) = wI at *
  clear e0 e1 e2 e3 f2 k9 gr9 own9 he r7 r6 v6 hown7 hsz7 z0 z1 z2 z3
  have KSb : Hid (∀ W, Whole W w.heap.size 26 (ptCells ⟨true, tsn, st, sq, pr, bg, en, un, nw, us⟩ A c) → W.cell? ⟨w.heap.size, 3, none⟩ = some (uv sq)) := Lib.hid (fun W h => h.cs10.2.2.2.1)
  go_cut [] from 48 to 55 (fun wx => ∃ (A' : Option Addr) (c' : Nat), RM w ⟨true, tsn, st, sq, pr, bg, en, un, nw, us⟩ A c 64 f3 (puts 4 [tsn] ++ puts 2 [u32of st.toNat] ++ ([0, 0] : List UInt8) ++ puts 4 [sq]) (.slice A' 12 c') wx)
  case first =>
    refine wp_region_held_drew (S := (fun W => W.cell? ⟨w.heap.size, 3, none⟩ = some (uv sq))) (by kernel_rfl) (KSb.out _ r8.x) (fun hHeld => ?_)
    refine take_at (i := 0) (v := ?_) (some 48) rfl (by kernel_rfl) (by kernel_rfl) (by kernel_rfl) (fun _ _ _ h => h) (by kernel_rfl) (Or.inl ⟨by kernel_rfl, ?_⟩) (by assumption) ?_
    rotate_left
    · (intro w hSw; (try dsimp only at hSw); go_simp <;> with_reducible rfl)
    simp only [Act.put, List.setIfInBounds_toArray, List.set_cons_zero, List.set_cons_succ]
    refine take_at (i := 2) (v := ?_) (some 50) rfl (by kernel_rfl) (by kernel_rfl) (by kernel_rfl) (fun _ _ _ h => h) (by kernel_rfl) (Or.inl ⟨by kernel_rfl, ?_⟩) (by assumption) ?_
    rotate_left
    · (intro w hSw; (try dsimp only at hSw); go_simp <;> with_reducible rfl)
    simp only [Act.put, List.setIfInBounds_toArray, List.set_cons_zero, List.set_cons_succ]
    refine take_at (i := 3) (v := ?_) (some 51) rfl (by kernel_rfl) (by kernel_rfl) (by kernel_rfl) (fun _ _ _ h => h) (by kernel_rfl) (Or.inl ⟨by kernel_rfl, ?_⟩) (by assumption) ?_
    rotate_left
    · (intro w hSw; (try dsimp only at hSw); go_simp <;> with_reducible rfl)
    simp only [Act.put, List.setIfInBounds_toArray, List.set_cons_zero, List.set_cons_succ]
    refine wpAnyH_ready (rs := [1, 4]) (by kernel_rfl) (by simp) ?_
    refine AllReadyH.cons rfl (fun K hK => ?_) (AllReadyH.cons rfl (fun K hK => ?_) AllReadyH.nil)
    · have rb1 := r8.below (below_drew (Below.refl wI.heap.size wI))
      obtain ⟨k0, k1, k2, k3⟩ := wh4 rb1.z
      go_simp
      clear k0 k1 k2 k3
      generalize wI.drew = vb1 at *
      clear hHeld
      refine hK.out _ _ (KSb.out _ rb1.x) (fun hHeld => ?_)
      clear hK K
      try simp only [Act.put, List.setIfInBounds_toArray, List.set_cons_zero, List.set_cons_succ]
      refine wpAnyH_ready (rs := [4]) (by kernel_rfl) (by simp) ?_
      refine AllReadyH.cons rfl (fun K hK => ?_) AllReadyH.nil
      go_simp
      have bb1_4 : Below vb1.heap.size vb1 (vb1.alloc (.cells #[uv sq] 22)) := (Below.refl _ _).alloc (Nat.le_refl _) _
      have Lb4_1_4 : Lies (vb1.alloc (.cells #[uv sq] 22)) (vb1.alloc (.cells #[uv sq] 22)).heap.size (some ⟨vb1.heap.size, 0, none⟩) ([sq].map uv) := (lies_new vb1 [sq]).more (by simp)
      have rb1_4 := rb1.below bb1_4
      generalize (vb1.alloc (.cells #[uv sq] 22)) = vb1_4 at *
      clear hHeld
      refine hK.out _ _ (KSb.out _ rb1_4.x) (fun hHeld => ?_)
      clear hK K
      try simp only [Act.put, List.setIfInBounds_toArray, List.set_cons_zero, List.set_cons_succ]
      refine wpAnyH_ready (rs := [5]) (by kernel_rfl) (by simp) ?_
      refine AllReadyH.cons rfl (fun K hK => ?_) AllReadyH.nil
      have hP : Calls Tryz.prog 73 #[.int .i64 4, .slice (some ⟨vb1.heap.size, 0, none⟩) 1 1] vb1_4 fun e w' => ∃ A' c', e = .returned (.slice A' 4 c') ∧ w'.ownsRow vb1_4.heap.size 5 1 (.slice A' 4 c') 4 ((puts 4 [sq]).map bv) ∧ Below vb1_4.heap.size vb1_4 w' := rput_any 4 (.inr (.inr rfl)) _ 1 [sq] vb1_4 Lb4_1_4 (by simp)
      go_simp
      go_at_call 73; (with_reducible refine hP.mono ?_); rintro e vb1_4_5 ⟨P5, m5, rfl, Ob5_1_4_5, bb1_4_5⟩
      go_wp2_with fail
      have rb1_4_5 := rb1_4.below bb1_4_5
      clear hP
      clear hHeld
      refine hK.out _ _ (KSb.out _ rb1_4_5.x) (fun hHeld => ?_)
      clear hK K
      try simp only [Act.put, List.setIfInBounds_toArray, List.set_cons_zero, List.set_cons_succ]
      refine wpAnyH_ready (rs := [6]) (by kernel_rfl) (by simp) ?_
      refine AllReadyH.cons rfl (fun K hK => ?_) AllReadyH.nil
      refine wp_append_lies _ (.tmp 49) (.tmp 53) 24 rfl (w.heap.size) 5 _ 1 Tryz.underlying24 u8info rfl (.slice A9 8 c9) 8 ((puts 4 [tsn] ++ puts 2 [u32of st.toNat] ++ ([0, 0] : List UInt8)).map bv) rfl (by first | exact rb1_4_5.own | simpa [puts_len] using rb1_4_5.own) vb1_4_5.heap.size P5 4 m5 ((puts 4 [sq]).map bv) rfl (by simp [puts_len]) (Lies.own Ob5_1_4_5) (by intro u hu; obtain ⟨_, _, rfl⟩ := List.mem_map.1 hu; rfl) (by omega) (by unfold maxLen; omega) rb1_4_5.low.size ?_
      intro A19 c19 w19 own19 gr19 _
      have k9 := rb1_4_5.kept rb1_4_5.own gr19
      obtain ⟨e0, e1, e2, e3⟩ := wh4 k9.2
      have f2 := k9.2.frozen 2
      clear hHeld
      refine hK.out _ _ (KSb.out _ k9.1) (fun hHeld => ?_)
      clear hK K
      try simp only [Act.put, List.setIfInBounds_toArray, List.set_cons_zero, List.set_cons_succ]
      refine take_at (i := 7) (v := ?_) (some 55) rfl (by kernel_rfl) (by kernel_rfl) (by kernel_rfl) (fun _ _ _ h => h) (by kernel_rfl) (Or.inl ⟨by kernel_rfl, ?_⟩) (by assumption) ?_
      rotate_left
      · (intro w hSw; (try dsimp only at hSw); go_simp <;> with_reducible rfl)
      simp only [Act.put, List.setIfInBounds_toArray, List.set_cons_zero, List.set_cons_succ]
      refine wpAnyH_ready (rs := [8]) (by kernel_rfl) (by simp) ?_
      refine AllReadyH.cons rfl (fun K hK => ?_) AllReadyH.nil
      go_simp
      have he : w19.ownsRow w.heap.size 5 1 (.slice A19 12 c19) (puts 4 [tsn] ++ puts 2 [u32of st.toNat] ++ ([0, 0] : List UInt8) ++ puts 4 [sq]).length ((puts 4 [tsn] ++ puts 2 [u32of st.toNat] ++ ([0, 0] : List UInt8) ++ puts 4 [sq]).map bv) := by
        have h9 := own_base own19 (Nat.le_refl _)
        rw [show (puts 4 [tsn] ++ puts 2 [u32of st.toNat] ++ ([0, 0] : List UInt8) ++ puts 4 [sq]).length = 12 by simp [puts_len]]
        first | exact h9 | simpa [List.map_append, puts_len] using h9
      have rG := rb1_4_5.grow rb1_4_5.own (Nat.le_refl _) gr19 he
      clear hHeld
      refine hK.out _ _ (KSb.out _ rG.x) (fun hHeld => ?_)
      clear hK K
      try simp only [Act.put, List.setIfInBounds_toArray, List.set_cons_zero, List.set_cons_succ]
      refine wpAnyH_done (by kernel_rfl) ?_ _
      go_wp2_with fail
      go_meet
      case rel => exact ⟨A19, c19, rG⟩
    · go_simp
      have bb4 : Below wI.heap.size wI (wI.alloc (.cells #[uv sq] 22)).drew := below_drew ((Below.refl _ _).alloc (Nat.le_refl _) _)
      have Lb4_4 : Lies (wI.alloc (.cells #[uv sq] 22)).drew (wI.alloc (.cells #[uv sq] 22)).drew.heap.size (some ⟨wI.heap.size, 0, none⟩) ([sq].map uv) := ((lies_new wI [sq]).below (below_drew (Below.refl _ _))).more (by show _ ≤ (wI.alloc _).heap.size; simp)
      have rb4 := r8.below bb4
      generalize (wI.alloc (.cells #[uv sq] 22)).drew = vb4 at *
      clear hHeld
      refine hK.out _ _ (KSb.out _ rb4.x) (fun hHeld => ?_)
      clear hK K
      try simp only [Act.put, List.setIfInBounds_toArray, List.set_cons_zero, List.set_cons_succ]
      refine wpAnyH_ready (rs := [1, 5]) (by kernel_rfl) (by simp) ?_
      refine AllReadyH.cons rfl (fun K hK => ?_) (AllReadyH.cons rfl (fun K hK => ?_) AllReadyH.nil)
      · obtain ⟨k0, k1, k2, k3⟩ := wh4 rb4.z
        go_simp
        clear k0 k1 k2 k3
        clear hHeld
        refine hK.out _ _ (KSb.out _ rb4.x) (fun hHeld => ?_)
        clear hK K
        try simp only [Act.put, List.setIfInBounds_toArray, List.set_cons_zero, List.set_cons_succ]
        refine wpAnyH_ready (rs := [5]) (by kernel_rfl) (by simp) ?_
        refine AllReadyH.cons rfl (fun K hK => ?_) AllReadyH.nil
        have hP : Calls Tryz.prog 73 #[.int .i64 4, .slice (some ⟨wI.heap.size, 0, none⟩) 1 1] vb4 fun e w' => ∃ A' c', e = .returned (.slice A' 4 c') ∧ w'.ownsRow vb4.heap.size 5 1 (.slice A' 4 c') 4 ((puts 4 [sq]).map bv) ∧ Below vb4.heap.size vb4 w' := rput_any 4 (.inr (.inr rfl)) _ 1 [sq] vb4 Lb4_4 (by simp)
        go_simp
        go_at_call 73; (with_reducible refine hP.mono ?_); rintro e vb4_1_5 ⟨P5, m5, rfl, Ob5_4_1_5, bb4_1_5⟩
        go_wp2_with fail
        have rb4_1_5 := rb4.below bb4_1_5
        clear hP
        clear hHeld
        refine hK.out _ _ (KSb.out _ rb4_1_5.x) (fun hHeld => ?_)
        clear hK K
        try simp only [Act.put, List.setIfInBounds_toArray, List.set_cons_zero, List.set_cons_succ]
        refine wpAnyH_ready (rs := [6]) (by kernel_rfl) (by simp) ?_
        refine AllReadyH.cons rfl (fun K hK => ?_) AllReadyH.nil
        refine wp_append_lies _ (.tmp 49) (.tmp 53) 24 rfl (w.heap.size) 5 _ 1 Tryz.underlying24 u8info rfl (.slice A9 8 c9) 8 ((puts 4 [tsn] ++ puts 2 [u32of st.toNat] ++ ([0, 0] : List UInt8)).map bv) rfl (by first | exact rb4_1_5.own | simpa [puts_len] using rb4_1_5.own) vb4_1_5.heap.size P5 4 m5 ((puts 4 [sq]).map bv) rfl (by simp [puts_len]) (Lies.own Ob5_4_1_5) (by intro u hu; obtain ⟨_, _, rfl⟩ := List.mem_map.1 hu; rfl) (by omega) (by unfold maxLen; omega) rb4_1_5.low.size ?_
        intro A19 c19 w19 own19 gr19 _
        have k9 := rb4_1_5.kept rb4_1_5.own gr19
        obtain ⟨e0, e1, e2, e3⟩ := wh4 k9.2
        have f2 := k9.2.frozen 2
        clear hHeld
        refine hK.out _ _ (KSb.out _ k9.1) (fun hHeld => ?_)
        clear hK K
        try simp only [Act.put, List.setIfInBounds_toArray, List.set_cons_zero, List.set_cons_succ]
        refine take_at (i := 7) (v := ?_) (some 55) rfl (by kernel_rfl) (by kernel_rfl) (by kernel_rfl) (fun _ _ _ h => h) (by kernel_rfl) (Or.inl ⟨by kernel_rfl, ?_⟩) (by assumption) ?_
        rotate_left
        · (intro w hSw; (try dsimp only at hSw); go_simp <;> with_reducible rfl)
        simp only [Act.put, List.setIfInBounds_toArray, List.set_cons_zero, List.set_cons_succ]
        refine wpAnyH_ready (rs := [8]) (by kernel_rfl) (by simp) ?_
        refine AllReadyH.cons rfl (fun K hK => ?_) AllReadyH.nil
        go_simp
        have he : w19.ownsRow w.heap.size 5 1 (.slice A19 12 c19) (puts 4 [tsn] ++ puts 2 [u32of st.toNat] ++ ([0, 0] : List UInt8) ++ puts 4 [sq]).length ((puts 4 [tsn] ++ puts 2 [u32of st.toNat] ++ ([0, 0] : List UInt8) ++ puts 4 [sq]).map bv) := by
          have h9 := own_base own19 (Nat.le_refl _)
          rw [show (puts 4 [tsn] ++ puts 2 [u32of st.toNat] ++ ([0, 0] : List UInt8) ++ puts 4 [sq]).length = 12 by simp [puts_len]]
          first | exact h9 | simpa [List.map_append, puts_len] using h9
        have rG := rb4_1_5.grow rb4_1_5.own (Nat.le_refl _) gr19 he
        clear hHeld
        refine hK.out _ _ (KSb.out _ rG.x) (fun hHeld => ?_)
        clear hK K
        try simp only [Act.put, List.setIfInBounds_toArray, List.set_cons_zero, List.set_cons_succ]
        refine wpAnyH_done (by kernel_rfl) ?_ _
        go_wp2_with fail
        go_meet
        case rel => exact ⟨A19, c19, rG⟩
      · have hP : Calls Tryz.prog 73 #[.int .i64 4, .slice (some ⟨wI.heap.size, 0, none⟩) 1 1] vb4 fun e w' => ∃ A' c', e = .returned (.slice A' 4 c') ∧ w'.ownsRow vb4.heap.size 5 1 (.slice A' 4 c') 4 ((puts 4 [sq]).map bv) ∧ Below vb4.heap.size vb4 w' := rput_any 4 (.inr (.inr rfl)) _ 1 [sq] vb4 Lb4_4 (by simp)
        go_simp
        go_at_call 73; (with_reducible refine hP.mono ?_); rintro e vb4_5 ⟨P5, m5, rfl, Ob5_4_5, bb4_5⟩
        go_wp2_with fail
        have rb4_5 := rb4.below bb4_5
        clear hP
        clear hHeld
        refine hK.out _ _ (KSb.out _ rb4_5.x) (fun hHeld => ?_)
        clear hK K
        try simp only [Act.put, List.setIfInBounds_toArray, List.set_cons_zero, List.set_cons_succ]
        refine wpAnyH_ready (rs := [1]) (by kernel_rfl) (by simp) ?_
        refine AllReadyH.cons rfl (fun K hK => ?_) AllReadyH.nil
        obtain ⟨k0, k1, k2, k3⟩ := wh4 rb4_5.z
        go_simp
        clear k0 k1 k2 k3
        clear hHeld
        refine hK.out _ _ (KSb.out _ rb4_5.x) (fun hHeld => ?_)
        clear hK K
        try simp only [Act.put, List.setIfInBounds_toArray, List.set_cons_zero, List.set_cons_succ]
        refine wpAnyH_ready (rs := [6]) (by kernel_rfl) (by simp) ?_
        refine AllReadyH.cons rfl (fun K hK => ?_) AllReadyH.nil
        refine wp_append_lies _ (.tmp 49) (.tmp 53) 24 rfl (w.heap.size) 5 _ 1 Tryz.underlying24 u8info rfl (.slice A9 8 c9) 8 ((puts 4 [tsn] ++ puts 2 [u32of st.toNat] ++ ([0, 0] : List UInt8)).map bv) rfl (by first | exact rb4_5.own | simpa [puts_len] using rb4_5.own) vb4_5.heap.size P5 4 m5 ((puts 4 [sq]).map bv) rfl (by simp [puts_len]) (Lies.own Ob5_4_5) (by intro u hu; obtain ⟨_, _, rfl⟩ := List.mem_map.1 hu; rfl) (by omega) (by unfold maxLen; omega) rb4_5.low.size ?_
        intro A19 c19 w19 own19 gr19 _
        have k9 := rb4_5.kept rb4_5.own gr19
        obtain ⟨e0, e1, e2, e3⟩ := wh4 k9.2
        have f2 := k9.2.frozen 2
        clear hHeld
        refine hK.out _ _ (KSb.out _ k9.1) (fun hHeld => ?_)
        clear hK K
        try simp only [Act.put, List.setIfInBounds_toArray, List.set_cons_zero, List.set_cons_succ]
        refine take_at (i := 7) (v := ?_) (some 55) rfl (by kernel_rfl) (by kernel_rfl) (by kernel_rfl) (fun _ _ _ h => h) (by kernel_rfl) (Or.inl ⟨by kernel_rfl, ?_⟩) (by assumption) ?_
        rotate_left
        · (intro w hSw; (try dsimp only at hSw); go_simp <;> with_reducible rfl)
        simp only [Act.put, List.setIfInBounds_toArray, List.set_cons_zero, List.set_cons_succ]
        refine wpAnyH_ready (rs := [8]) (by kernel_rfl) (by simp) ?_
        refine AllReadyH.cons rfl (fun K hK => ?_) AllReadyH.nil
        go_simp
        have he : w19.ownsRow w.heap.size 5 1 (.slice A19 12 c19) (puts 4 [tsn] ++ puts 2 [u32of st.toNat] ++ ([0, 0] : List UInt8) ++ puts 4 [sq]).length ((puts 4 [tsn] ++ puts 2 [u32of st.toNat] ++ ([0, 0] : List UInt8) ++ puts 4 [sq]).map bv) := by
          have h9 := own_base own19 (Nat.le_refl _)
          rw [show (puts 4 [tsn] ++ puts 2 [u32of st.toNat] ++ ([0, 0] : List UInt8) ++ puts 4 [sq]).length = 12 by simp [puts_len]]
          first | exact h9 | simpa [List.map_append, puts_len] using h9
        have rG := rb4_5.grow rb4_5.own (Nat.le_refl _) gr19 he
        clear hHeld
        refine hK.out _ _ (KSb.out _ rG.x) (fun hHeld => ?_)
        clear hK K
        try simp only [Act.put, List.setIfInBounds_toArray, List.set_cons_zero, List.set_cons_succ]
        refine wpAnyH_done (by kernel_rfl) ?_ _
        go_wp2_with fail
        go_meet
        case rel => exact ⟨A19, c19, rG⟩
  obtain ⟨A6, c6, r10⟩ := hcut
  generalize wc = wJ at *
  clear KSb r8
  have KSc : Hid (∀ W, Whole W w.heap.size 26 (ptCells ⟨true, tsn, st, sq, pr, bg, en, un, nw, us⟩ A c) → W.cell? ⟨w.heap.size, 4, none⟩ = some (uv pr)) := Lib.hid (fun W h => h.cs10.2.2.2.2.1)
  go_upto_region 16 with fail
  go_cut [] from 64 to 71 (fun wx => ∃ (A' : Option Addr) (c' : Nat), RM w ⟨true, tsn, st, sq, pr, bg, en, un, nw, us⟩ A c 64 f3 (puts 4 [tsn] ++ puts 2 [u32of st.toNat] ++ ([0, 0] : List UInt8) ++ puts 4 [sq] ++ puts 4 [pr]) (.slice A' 16 c') wx)
  case first =>
    refine wp_region_held_drew (S := (fun W => W.cell? ⟨w.heap.size, 4, none⟩ = some (uv pr))) (by kernel_rfl) (KSc.out _ r10.x) (fun hHeld => ?_)
    refine take_at (i := 0) (v := ?_) (some 64) rfl (by kernel_rfl) (by kernel_rfl) (by kernel_rfl) (fun _ _ _ h => h) (by kernel_rfl) (Or.inl ⟨by kernel_rfl, ?_⟩) (by assumption) ?_
    rotate_left
    · (intro w hSw; (try dsimp only at hSw); go_simp <;> with_reducible rfl)
    simp only [Act.put, List.setIfInBounds_toArray, List.set_cons_zero, List.set_cons_succ]
    refine take_at (i := 2) (v := ?_) (some 66) rfl (by kernel_rfl) (by kernel_rfl) (by kernel_rfl) (fun _ _ _ h => h) (by kernel_rfl) (Or.inl ⟨by kernel_rfl, ?_⟩) (by assumption) ?_
    rotate_left
    · (intro w hSw; (try dsimp only at hSw); go_simp <;> with_reducible rfl)
    simp only [Act.put, List.setIfInBounds_toArray, List.set_cons_zero, List.set_cons_succ]
    refine take_at (i := 3) (v := ?_) (some 67) rfl (by kernel_rfl) (by kernel_rfl) (by kernel_rfl) (fun _ _ _ h => h) (by kernel_rfl) (Or.inl ⟨by kernel_rfl, ?_⟩) (by assumption) ?_
    rotate_left
    · (intro w hSw; (try dsimp only at hSw); go_simp <;> with_reducible rfl)
    simp only [Act.put, List.setIfInBounds_toArray, List.set_cons_zero, List.set_cons_succ]
    refine wpAnyH_ready (rs := [1, 4]) (by kernel_rfl) (by simp) ?_
    refine AllReadyH.cons rfl (fun K hK => ?_) (AllReadyH.cons rfl (fun K hK => ?_) AllReadyH.nil)
    · have rc1 := r10.below (below_drew (Below.refl wJ.heap.size wJ))
      obtain ⟨k0, k1, k2, k3⟩ := wh4 rc1.z
      go_simp
      clear k0 k1 k2 k3
      generalize wJ.drew = vc1 at *
      clear hHeld
      refine hK.out _ _ (KSc.out _ rc1.x) (fun hHeld => ?_)
      clear hK K
      try simp only [Act.put, List.setIfInBounds_toArray, List.set_cons_zero, List.set_cons_succ]
      refine wpAnyH_ready (rs := [4]) (by kernel_rfl) (by simp) ?_
      refine AllReadyH.cons rfl (fun K hK => ?_) AllReadyH.nil
      go_simp
      have bc1_4 : Below vc1.heap.size vc1 (vc1.alloc (.cells #[uv pr] 22)) := (Below.refl _ _).alloc (Nat.le_refl _) _
      have Lc4_1_4 : Lies (vc1.alloc (.cells #[uv pr] 22)) (vc1.alloc (.cells #[uv pr] 22)).heap.size (some ⟨vc1.heap.size, 0, none⟩) ([pr].map uv) := (lies_new vc1 [pr]).more (by simp)
      have rc1_4 := rc1.below bc1_4
      generalize (vc1.alloc (.cells #[uv pr] 22)) = vc1_4 at *
      clear hHeld
      refine hK.out _ _ (KSc.out _ rc1_4.x) (fun hHeld => ?_)
      clear hK K
      try simp only [Act.put, List.setIfInBounds_toArray, List.set_cons_zero, List.set_cons_succ]
      refine wpAnyH_ready (rs := [5]) (by kernel_rfl) (by simp) ?_
      refine AllReadyH.cons rfl (fun K hK => ?_) AllReadyH.nil
      have hP : Calls Tryz.prog 73 #[.int .i64 4, .slice (some ⟨vc1.heap.size, 0, none⟩) 1 1] vc1_4 fun e w' => ∃ A' c', e = .returned (.slice A' 4 c') ∧ w'.ownsRow vc1_4.heap.size 5 1 (.slice A' 4 c') 4 ((puts 4 [pr]).map bv) ∧ Below vc1_4.heap.size vc1_4 w' := rput_any 4 (.inr (.inr rfl)) _ 1 [pr] vc1_4 Lc4_1_4 (by simp)
      go_simp
      go_at_call 73; (with_reducible refine hP.mono ?_); rintro e vc1_4_5 ⟨P5, m5, rfl, Oc5_1_4_5, bc1_4_5⟩
      go_wp2_with fail
      have rc1_4_5 := rc1_4.below bc1_4_5
      clear hP
      clear hHeld
      refine hK.out _ _ (KSc.out _ rc1_4_5.x) (fun hHeld => ?_)
      clear hK K
      try simp only [Act.put, List.setIfInBounds_toArray, List.set_cons_zero, List.set_cons_succ]
      refine wpAnyH_ready (rs := [6]) (by kernel_rfl) (by simp) ?_
      refine AllReadyH.cons rfl (fun K hK => ?_) AllReadyH.nil
      refine wp_append_lies _ (.tmp 65) (.tmp 69) 24 rfl (w.heap.size) 5 _ 1 Tryz.underlying24 u8info rfl (.slice A6 12 c6) 12 ((puts 4 [tsn] ++ puts 2 [u32of st.toNat] ++ ([0, 0] : List UInt8) ++ puts 4 [sq]).map bv) rfl (by first | exact rc1_4_5.own | simpa [puts_len] using rc1_4_5.own) vc1_4_5.heap.size P5 4 m5 ((puts 4 [pr]).map bv) rfl (by simp [puts_len]) (Lies.own Oc5_1_4_5) (by intro u hu; obtain ⟨_, _, rfl⟩ := List.mem_map.1 hu; rfl) (by omega) (by unfold maxLen; omega) rc1_4_5.low.size ?_
      intro A9 c9 w9 own9 gr9 _
      have k9 := rc1_4_5.kept rc1_4_5.own gr9
      obtain ⟨e0, e1, e2, e3⟩ := wh4 k9.2
      have f2 := k9.2.frozen 2
      clear hHeld
      refine hK.out _ _ (KSc.out _ k9.1) (fun hHeld => ?_)
      clear hK K
      try simp only [Act.put, List.setIfInBounds_toArray, List.set_cons_zero, List.set_cons_succ]
      refine take_at (i := 7) (v := ?_) (some 71) rfl (by kernel_rfl) (by kernel_rfl) (by kernel_rfl) (fun _ _ _ h => h) (by kernel_rfl) (Or.inl ⟨by kernel_rfl, ?_⟩) (by assumption) ?_
      rotate_left
      · (intro w hSw; (try dsimp only at hSw); go_simp <;> with_reducible rfl)
      simp only [Act.put, List.setIfInBounds_toArray, List.set_cons_zero, List.set_cons_succ]
      refine wpAnyH_ready (rs := [8]) (by kernel_rfl) (by simp) ?_
      refine AllReadyH.cons rfl (fun K hK => ?_) AllReadyH.nil
      go_simp
      have he : w9.ownsRow w.heap.size 5 1 (.slice A9 16 c9) (puts 4 [tsn] ++ puts 2 [u32of st.toNat] ++ ([0, 0] : List UInt8) ++ puts 4 [sq] ++ puts 4 [pr]).length ((puts 4 [tsn] ++ puts 2 [u32of st.toNat] ++ ([0, 0] : List UInt8) ++ puts 4 [sq] ++ puts 4 [pr]).map bv) := by
        have h9 := own_base own9 (Nat.le_refl _)
        rw [show (puts 4 [tsn] ++ puts 2 [u32of st.toNat] ++ ([0, 0] : List UInt8) ++ puts 4 [sq] ++ puts 4 [pr]).length = 16 by simp [puts_len]]
        first | exact h9 | simpa [List.map_append, puts_len] using h9
      have rG := rc1_4_5.grow rc1_4_5.own (Nat.le_refl _) gr9 he
      clear hHeld
      refine hK.out _ _ (KSc.out _ rG.x) (fun hHeld => ?_)
      clear hK K
      try simp only [Act.put, List.setIfInBounds_toArray, List.set_cons_zero, List.set_cons_succ]
      refine wpAnyH_done (by kernel_rfl) ?_ _
      go_wp2_with fail
      go_meet
      case rel => exact ⟨A9, c9, rG⟩
    · go_simp
      have bc4 : Below wJ.heap.size wJ (wJ.alloc (.cells #[uv pr] 22)).drew := below_drew ((Below.refl _ _).alloc (Nat.le_refl _) _)
      have Lc4_4 : Lies (wJ.alloc (.cells #[uv pr] 22)).drew (wJ.alloc (.cells #[uv pr] 22)).drew.heap.size (some ⟨wJ.heap.size, 0, none⟩) ([pr].map uv) := ((lies_new wJ [pr]).below (below_drew (Below.refl _ _))).more (by show _ ≤ (wJ.alloc _).heap.size; simp)
      have rc4 := r10.below bc4
      generalize (wJ.alloc (.cells #[uv pr] 22)).drew = vc4 at *
      clear hHeld
      refine hK.out _ _ (KSc.out _ rc4.x) (fun hHeld => ?_)
      clear hK K
      try simp only [Act.put, List.setIfInBounds_toArray, List.set_cons_zero, List.set_cons_succ]
      refine wpAnyH_ready (rs := [1, 5]) (by kernel_rfl) (by simp) ?_
      refine AllReadyH.cons rfl (fun K hK => ?_) (AllReadyH.cons rfl (fun K hK => ?_) AllReadyH.nil)
      · obtain ⟨k0, k1, k2, k3⟩ := wh4 rc4.z
        go_simp
        clear k0 k1 k2 k3
        clear hHeld
        refine hK.out _ _ (KSc.out _ rc4.x) (fun hHeld => ?_)
        clear hK K
        try simp only [Act.put, List.setIfInBounds_toArray, List.set_cons_zero, List.set_cons_succ]
        refine wpAnyH_ready (rs := [5]) (by kernel_rfl) (by simp) ?_
        refine AllReadyH.cons rfl (fun K hK => ?_) AllReadyH.nil
        have hP : Calls Tryz.prog 73 #[.int .i64 4, .slice (some ⟨wJ.heap.size, 0, none⟩) 1 1] vc4 fun e w' => ∃ A' c', e = .returned (.slice A' 4 c') ∧ w'.ownsRow vc4.heap.size 5 1 (.slice A' 4 c') 4 ((puts 4 [pr]).map bv) ∧ Below vc4.heap.size vc4 w' := rput_any 4 (.inr (.inr rfl)) _ 1 [pr] vc4 Lc4_4 (by simp)
        go_simp
        go_at_call 73; (with_reducible refine hP.mono ?_); rintro e vc4_1_5 ⟨P5, m5, rfl, Oc5_4_1_5, bc4_1_5⟩
        go_wp2_with fail
        have rc4_1_5 := rc4.below bc4_1_5
        clear hP
        clear hHeld
        refine hK.out _ _ (KSc.out _ rc4_1_5.x) (fun hHeld => ?_)
        clear hK K
        try simp only [Act.put, List.setIfInBounds_toArray, List.set_cons_zero, List.set_cons_succ]
        refine wpAnyH_ready (rs := [6]) (by kernel_rfl) (by simp) ?_
        refine AllReadyH.cons rfl (fun K hK => ?_) AllReadyH.nil
        refine wp_append_lies _ (.tmp 65) (.tmp 69) 24 rfl (w.heap.size) 5 _ 1 Tryz.underlying24 u8info rfl (.slice A6 12 c6) 12 ((puts 4 [tsn] ++ puts 2 [u32of st.toNat] ++ ([0, 0] : List UInt8) ++ puts 4 [sq]).map bv) rfl (by first | exact rc4_1_5.own | simpa [puts_len] using rc4_1_5.own) vc4_1_5.heap.size P5 4 m5 ((puts 4 [pr]).map bv) rfl (by simp [puts_len]) (Lies.own Oc5_4_1_5) (by intro u hu; obtain ⟨_, _, rfl⟩ := List.mem_map.1 hu; rfl) (by omega) (by unfold maxLen; omega) rc4_1_5.low.size ?_
        intro A9 c9 w9 own9 gr9 _
        have k9 := rc4_1_5.kept rc4_1_5.own gr9
        obtain ⟨e0, e1, e2, e3⟩ := wh4 k9.2
        have f2 := k9.2.frozen 2
        clear hHeld
        refine hK.out _ _ (KSc.out _ k9.1) (fun hHeld => ?_)
        clear hK K
        try simp only [Act.put, List.setIfInBounds_toArray, List.set_cons_zero, List.set_cons_succ]
        refine take_at (i := 7) (v := ?_) (some 71) rfl (by kernel_rfl) (by kernel_rfl) (by kernel_rfl) (fun _ _ _ h => h) (by kernel_rfl) (Or.inl ⟨by kernel_rfl, ?_⟩) (by assumption) ?_
        rotate_left
        · (intro w hSw; (try dsimp only at hSw); go_simp <;> with_reducible rfl)
        simp only [Act.put, List.setIfInBounds_toArray, List.set_cons_zero, List.set_cons_succ]
        refine wpAnyH_ready (rs := [8]) (by kernel_rfl) (by simp) ?_
        refine AllReadyH.cons rfl (fun K hK => ?_) AllReadyH.nil
        go_simp
        have he : w9.ownsRow w.heap.size 5 1 (.slice A9 16 c9) (puts 4 [tsn] ++ puts 2 [u32of st.toNat] ++ ([0, 0] : List UInt8) ++ puts 4 [sq] ++ puts 4 [pr]).length ((puts 4 [tsn] ++ puts 2 [u32of st.toNat] ++ ([0, 0] : List UInt8) ++ puts 4 [sq] ++ puts 4 [pr]).map bv) := by
          have h9 := own_base own9 (Nat.le_refl _)
          rw [show (puts 4 [tsn] ++ puts 2 [u32of st.toNat] ++ ([0, 0] : List UInt8) ++ puts 4 [sq] ++ puts 4 [pr]).length = 16 by simp [puts_len]]
          first | exact h9 | simpa [List.map_append, puts_len] using h9
        have rG := rc4_1_5.grow rc4_1_5.own (Nat.le_refl _) gr9 he
        clear hHeld
        refine hK.out _ _ (KSc.out _ rG.x) (fun hHeld => ?_)
        clear hK K
        try simp only [Act.put, List.setIfInBounds_toArray, List.set_cons_zero, List.set_cons_succ]
        refine wpAnyH_done (by kernel_rfl) ?_ _
        go_wp2_with fail
        go_meet
        case rel => exact ⟨A9, c9, rG⟩
      · have hP : Calls Tryz.prog 73 #[.int .i64 4, .slice (some ⟨wJ.heap.size, 0, none⟩) 1 1] vc4 fun e w' => ∃ A' c', e = .returned (.slice A' 4 c') ∧ w'.ownsRow vc4.heap.size 5 1 (.slice A' 4 c') 4 ((puts 4 [pr]).map bv) ∧ Below vc4.heap.size vc4 w' := rput_any 4 (.inr (.inr rfl)) _ 1 [pr] vc4 Lc4_4 (by simp)
        go_simp
        go_at_call 73; (with_reducible refine hP.mono ?_); rintro e vc4_5 ⟨P5, m5, rfl, Oc5_4_5, bc4_5⟩
        go_wp2_with fail
        have rc4_5 := rc4.below bc4_5
        clear hP
        clear hHeld
        refine hK.out _ _ (KSc.out _ rc4_5.x) (fun hHeld => ?_)
        clear hK K
        try simp only [Act.put, List.setIfInBounds_toArray, List.set_cons_zero, List.set_cons_succ]
        refine wpAnyH_ready (rs := [1]) (by kernel_rfl) (by simp) ?_
        refine AllReadyH.cons rfl (fun K hK => ?_) AllReadyH.nil
        obtain ⟨k0, k1, k2, k3⟩ := wh4 rc4_5.z
        go_simp
        clear k0 k1 k2 k3
        clear hHeld
        refine hK.out _ _ (KSc.out _ rc4_5.x) (fun hHeld => ?_)
        clear hK K
        try simp only [Act.put, List.setIfInBounds_toArray, List.set_cons_zero, List.set_cons_succ]
        refine wpAnyH_ready (rs := [6]) (by kernel_rfl) (by simp) ?_
        refine AllReadyH.cons rfl (fun K hK => ?_) AllReadyH.nil
        refine wp_append_lies _ (.tmp 65) (.tmp 69) 24 rfl (w.heap.size) 5 _ 1 Tryz.underlying24 u8info rfl (.slice A6 12 c6) 12 ((puts 4 [tsn] ++ puts 2 [u32of st.toNat] ++ ([0, 0] : List UInt8) ++ puts 4 [sq]).map bv) rfl (by first | exact rc4_5.own | simpa [puts_len] using rc4_5.own) vc4_5.heap.size P5 4 m5 ((puts 4 [pr]).map bv) rfl (by simp [puts_len]) (Lies.own Oc5_4_5) (by intro u hu; obtain ⟨_, _, rfl⟩ := List.mem_map.1 hu; rfl) (by omega) (by unfold maxLen; omega) rc4_5.low.size ?_
        intro A9 c9 w9 own9 gr9 _
        have k9 := rc4_5.kept rc4_5.own gr9
        obtain ⟨e0, e1, e2, e3⟩ := wh4 k9.2
        have f2 := k9.2.frozen 2
        clear hHeld
        refine hK.out _ _ (KSc.out _ k9.1) (fun hHeld => ?_)
        clear hK K
        try simp only [Act.put, List.setIfInBounds_toArray, List.set_cons_zero, List.set_cons_succ]
        refine take_at (i := 7) (v := ?_) (some 71) rfl (by kernel_rfl) (by kernel_rfl) (by kernel_rfl) (fun _ _ _ h => h) (by kernel_rfl) (Or.inl ⟨by kernel_rfl, ?_⟩) (by assumption) ?_
        rotate_left
        · (intro w hSw; (try dsimp only at hSw); go_simp <;> with_reducible rfl)
        simp only [Act.put, List.setIfInBounds_toArray, List.set_cons_zero, List.set_cons_succ]
        refine wpAnyH_ready (rs := [8]) (by kernel_rfl) (by simp) ?_
        refine AllReadyH.cons rfl (fun K hK => ?_) AllReadyH.nil
        go_simp
        have he : w9.ownsRow w.heap.size 5 1 (.slice A9 16 c9) (puts 4 [tsn] ++ puts 2 [u32of st.toNat] ++ ([0, 0] : List UInt8) ++ puts 4 [sq] ++ puts 4 [pr]).length ((puts 4 [tsn] ++ puts 2 [u32of st.toNat] ++ ([0, 0] : List UInt8) ++ puts 4 [sq] ++ puts 4 [pr]).map bv) := by
          have h9 := own_base own9 (Nat.le_refl _)
          rw [show (puts 4 [tsn] ++ puts 2 [u32of st.toNat] ++ ([0, 0] : List UInt8) ++ puts 4 [sq] ++ puts 4 [pr]).length = 16 by simp [puts_len]]
          first | exact h9 | simpa [List.map_append, puts_len] using h9
        have rG := rc4_5.grow rc4_5.own (Nat.le_refl _) gr9 he
        clear hHeld
        refine hK.out _ _ (KSc.out _ rG.x) (fun hHeld => ?_)
        clear hK K
        try simp only [Act.put, List.setIfInBounds_toArray, List.set_cons_zero, List.set_cons_succ]
        refine wpAnyH_done (by kernel_rfl) ?_ _
        go_wp2_with fail
        go_meet
        case rel => exact ⟨A9, c9, rG⟩
  obtain ⟨A7, c7, r11⟩ := hcut
  generalize wc = wK at *
  clear KSc r10
  go_upto_region 17 with fail
  obtain ⟨z0, z1, z2, z3⟩ := wh4 r11.z
  have q9 := r11.x.cs10.2.2.2.2.2.2.2.2.2
  have hsz11 := r11.low.size
  have hlie := (HL.out wK r11.low).data
  have hown11 : wK.ownsRow w.heap.size 5 1 (.slice A7 16 c7) 16 ((puts 4 [tsn] ++ puts 2 [u32of st.toNat] ++ ([0, 0] : List UInt8) ++ puts 4 [sq] ++ puts 4 [pr]).map bv) := by
    have h9 := r11.own
    rw [show (puts 4 [tsn] ++ puts 2 [u32of st.toNat] ++ ([0, 0] : List UInt8) ++ puts 4 [sq] ++ puts 4 [pr]).length = 16 by simp [puts_len]] at h9
    exact h9
  simp only at hlie q9
  go_upto_region 18 with (at_builtin; refine wpList_append_lies _ rfl (.tmp 73) (.tmp 75) 24 rfl w.heap.size 5 _ 1 Tryz.underlying24 u8info rfl _ _ _ rfl hown11 _ _ us.length c (us.map bv) rfl (by simp) hlie (by intro u hu; obtain ⟨_, _, rfl⟩ := List.mem_map.1 hu; rfl) (by omega) (by unfold maxLen; omega) hsz11 ?_; intro A9 c9 w9 own9 gr9 _; have k9 := r11.kept hown11 gr9; obtain ⟨e0, e1, e2, e3⟩ := wh4 k9.2; have f2 := k9.2.frozen 2)
  have he : w9.ownsRow w.heap.size 5 1 (.slice A9 (16 + us.length) c9) (puts 4 [tsn] ++ puts 2 [u32of st.toNat] ++ ([0, 0] : List UInt8) ++ puts 4 [sq] ++ puts 4 [pr] ++ us).length ((puts 4 [tsn] ++ puts 2 [u32of st.toNat] ++ ([0, 0] : List UInt8) ++ puts 4 [sq] ++ puts 4 [pr] ++ us).map bv) := by
    rw [show (puts 4 [tsn] ++ puts 2 [u32of st.toNat] ++ ([0, 0] : List UInt8) ++ puts 4 [sq] ++ puts 4 [pr] ++ us).length = 16 + us.length by simp [puts_len]; omega]
    rw [List.map_append]
    exact own9
  have r12 := r11.grow hown11 (Nat.le_refl _) gr9 he
  generalize w9.setCell ⟨w.heap.size + 1 + 1, 2, none⟩ (.slice A9 (16 + us.length) c9) = wL at *
  clear e0 e1 e2 e3 f2 k9 gr9 own9 he r11 hown11 hsz11 z0 z1 z2 z3 hlie q9
  obtain ⟨z0, z1, z2, z3⟩ := wh4 r12.z
  have y12 := r12.y
  go_wp2_with (first | (refine wpList_store_row rfl 31 _ _ rfl (w.heap.size + 1) #[.int .u8 64, .int .u8 f3, .slice A9 (16 + us.length) c9, .slice none 0 0] rfl rfl _ _ y12 (by kernel_rfl) rfl (by simp [Value.oneCell']) ?_) | fail)
  (try simp only [Exit.inBlock, Exit.then])
  refine bodyPost_ret (results_row13 rfl _ _ (w.heap.size + 1) 31 _ _ rfl (y12.setRow _) Tryz.underlying31 rfl (by kernel_rfl)) rfl ?_
  have hfl : Value.int .u8 f3 = bv (flP ⟨true, tsn, st, sq, pr, bg, en, un, nw, us⟩) := by
    rw [HF3.out, HF2.out, HF1.out, HF0.out]
    exact flP_sum bg en un nw
  have hdt : datB ⟨true, tsn, st, sq, pr, bg, en, un, nw, us⟩ = puts 4 [tsn] ++ puts 2 [u32of st.toNat] ++ ([0, 0] : List UInt8) ++ puts 4 [sq] ++ puts 4 [pr] ++ us := by
    unfold datB
    simp [puts, be2_0M]
  have hln : (puts 4 [tsn] ++ puts 2 [u32of st.toNat] ++ ([0, 0] : List UInt8) ++ puts 4 [sq] ++ puts 4 [pr] ++ us).length = 16 + us.length := by simp [puts_len]; omega
  have hown := r12.own
  rw [hln] at hown
  refine ⟨A9, c9, 16 + us.length, by rw [← hfl]; rfl, by rw [hdt, hln], ?_, below_setRow r12.low (Nat.le_succ _) _⟩
  rw [hdt]
  exact own_setRowM hown y12 (by decide) _
set_option maxRecDepth 100000 in
set_option maxHeartbeats 16000000 in
theorem rmake_false (tsn : UInt32) (st : UInt16) (sq pr : UInt32) (bg en un nw : Bool) (us : List UInt8) (hus : us.length ≤ 1000000) (A : Option Addr) (c : Nat) (w : World) (hp : PtL w w.heap.size A c ⟨false, tsn, st, sq, pr, bg, en, un, nw, us⟩) :
    Calls Tryz.prog 22 #[ptV ⟨false, tsn, st, sq, pr, bg, en, un, nw, us⟩ A c] w fun e w' => ∃ A' c' n, e = .returned (.agg #[bv (tyB ⟨false, tsn, st, sq, pr, bg, en, un, nw, us⟩), bv (flP ⟨false, tsn, st, sq, pr, bg, en, un, nw, us⟩), .slice A' n c', .slice none 0 0]) ∧ n = (datB ⟨false, tsn, st, sq, pr, bg, en, un, nw, us⟩).length ∧ w'.ownsRow w.heap.size 5 1 (.slice A' n c') n ((datB ⟨false, tsn, st, sq, pr, bg, en, un, nw, us⟩).map bv) ∧ Below w.heap.size w w' := by
  have b0 : Below w.heap.size w (((w.alloc (.cells (ptCells ⟨false, tsn, st, sq, pr, bg, en, un, nw, us⟩ A c) 26)).alloc (.cells #[.int .u8 0, .int .u8 0, .slice none 0 0, .slice none 0 0] 31)).alloc (.cells #[.int .u8 0, .int .u8 0, .slice none 0 0, .slice none 0 0] 31)) := (((Below.refl _ w).alloc (Nat.le_refl _) _).alloc (by simp) _).alloc (by simp; omega) _
  have x0 := ((Whole.new w 26 (ptCells ⟨false, tsn, st, sq, pr, bg, en, un, nw, us⟩ A c)).alloc (.cells #[.int .u8 0, .int .u8 0, .slice none 0 0, .slice none 0 0] 31)).alloc (.cells #[.int .u8 0, .int .u8 0, .slice none 0 0, .slice none 0 0] 31)
  have y0 := (Whole.new (w.alloc (.cells (ptCells ⟨false, tsn, st, sq, pr, bg, en, un, nw, us⟩ A c) 26)) 31 #[.int .u8 0, .int .u8 0, .slice none 0 0, .slice none 0 0]).alloc (.cells #[.int .u8 0, .int .u8 0, .slice none 0 0, .slice none 0 0] 31)
  have z0 := Whole.new ((w.alloc (.cells (ptCells ⟨false, tsn, st, sq, pr, bg, en, un, nw, us⟩ A c) 26)).alloc (.cells #[.int .u8 0, .int .u8 0, .slice none 0 0, .slice none 0 0] 31)) 31 #[.int .u8 0, .int .u8 0, .slice none 0 0, .slice none 0 0]
  rw [World.size_alloc] at y0
  rw [World.size_alloc, World.size_alloc] at z0
  have r0 : RM w ⟨false, tsn, st, sq, pr, bg, en, un, nw, us⟩ A c 0 0 [] (.slice none 0 0) (((w.alloc (.cells (ptCells ⟨false, tsn, st, sq, pr, bg, en, un, nw, us⟩ A c) 26)).alloc (.cells #[.int .u8 0, .int .u8 0, .slice none 0 0, .slice none 0 0] 31)).alloc (.cells #[.int .u8 0, .int .u8 0, .slice none 0 0, .slice none 0 0] 31)) := ⟨x0, y0, z0, World.ownsRow_nil _ _ _ _, b0⟩
  have HL := Lib.hid (fun (V : World) (hV : Below w.heap.size w V) => hp.on hV)
  have HDc := Lib.hid hp.dc
  have HDm := Lib.hid hp.dm
  clear b0 x0 y0 z0 hp
  simp only [ptV, ptCells] at *
  go_enter Tryz.func22, Tryz.ntmps22
  go_upto_region 2 with fail
  generalize (((w.alloc (.cells #[.bool false, uv tsn, hv st, uv sq, uv pr, .bool bg, .bool en, .bool un, .bool nw, .slice A us.length c] 26)).alloc (.cells #[.int .u8 0, .int .u8 0, .slice none 0 0, .slice none 0 0] 31)).alloc (.cells #[.int .u8 0, .int .u8 0, .slice none 0 0, .slice none 0 0] 31)) = w1 at *
  obtain ⟨q0, q1, q2, q3, q4, q5, q6, q7, q8, q9⟩ := r0.x.cs10
  go_upto_if 6 with fail
  go_cut [] from 7 to 10 (fun wx => ∃ f0 : Int, f0 = (0 : Int) + (if en = true then 1 else 0) ∧ 0 ≤ f0 ∧ f0 ≤ 1 ∧ RM w ⟨false, tsn, st, sq, pr, bg, en, un, nw, us⟩ A c 0 f0 [] (.slice none 0 0) wx)
  case first =>
    cases en with
    | true =>
      obtain ⟨z0, z1, z2, z3⟩ := wh4 r0.z
      have g1 := r0.z.frozen 1
      go_wp2_with fail
      go_meet
      case rel =>
        exact ⟨1, by simp, by omega, by omega, r0.flag 1⟩
    | false =>
      go_wp2_with fail
      go_meet
      case rel => exact ⟨0, by simp, by omega, by omega, r0⟩
  obtain ⟨f0, hf0, hlo0, hhi0, r1⟩ := hcut
  clear r0 q0 q1 q2 q3 q4 q5 q6 q7 q8 q9
  generalize wc = wF0 at *
  have HF0 := Lib.hid hf0
  clear hf0
  obtain ⟨q0, q1, q2, q3, q4, q5, q6, q7, q8, q9⟩ := r1.x.cs10
  go_upto_if 12 with fail
  go_cut [] from 13 to 16 (fun wx => ∃ f1 : Int, f1 = (f0 : Int) + (if bg = true then 2 else 0) ∧ 0 ≤ f1 ∧ f1 ≤ 3 ∧ RM w ⟨false, tsn, st, sq, pr, bg, en, un, nw, us⟩ A c 0 f1 [] (.slice none 0 0) wx)
  case first =>
    cases bg with
    | true =>
      obtain ⟨z0, z1, z2, z3⟩ := wh4 r1.z
      have g1 := r1.z.frozen 1
      go_wp2_with fail
      go_meet
      case rel =>
        exact ⟨f0 + 2, by simp, by omega, by omega, r1.flag _⟩
    | false =>
      go_wp2_with fail
      go_meet
      case rel => exact ⟨f0, by simp, by omega, by omega, r1⟩
  obtain ⟨f1, hf1, hlo1, hhi1, r2⟩ := hcut
  clear r1 q0 q1 q2 q3 q4 q5 q6 q7 q8 q9
  generalize wc = wF1 at *
  have HF1 := Lib.hid hf1
  clear hf1
  obtain ⟨q0, q1, q2, q3, q4, q5, q6, q7, q8, q9⟩ := r2.x.cs10
  go_upto_if 18 with fail
  go_cut [] from 19 to 22 (fun wx => ∃ f2 : Int, f2 = (f1 : Int) + (if un = true then 4 else 0) ∧ 0 ≤ f2 ∧ f2 ≤ 7 ∧ RM w ⟨false, tsn, st, sq, pr, bg, en, un, nw, us⟩ A c 0 f2 [] (.slice none 0 0) wx)
  case first =>
    cases un with
    | true =>
      obtain ⟨z0, z1, z2, z3⟩ := wh4 r2.z
      have g1 := r2.z.frozen 1
      go_wp2_with fail
      go_meet
      case rel =>
        exact ⟨f1 + 4, by simp, by omega, by omega, r2.flag _⟩
    | false =>
      go_wp2_with fail
      go_meet
      case rel => exact ⟨f1, by simp, by omega, by omega, r2⟩
  obtain ⟨f2, hf2, hlo2, hhi2, r3⟩ := hcut
  clear r2 q0 q1 q2 q3 q4 q5 q6 q7 q8 q9
  generalize wc = wF2 at *
  have HF2 := Lib.hid hf2
  clear hf2
  obtain ⟨q0, q1, q2, q3, q4, q5, q6, q7, q8, q9⟩ := r3.x.cs10
  go_upto_if 24 with fail
  go_cut [] from 25 to 28 (fun wx => ∃ f3 : Int, f3 = (f2 : Int) + (if nw = true then 8 else 0) ∧ 0 ≤ f3 ∧ f3 ≤ 15 ∧ RM w ⟨false, tsn, st, sq, pr, bg, en, un, nw, us⟩ A c 0 f3 [] (.slice none 0 0) wx)
  case first =>
    cases nw with
    | true =>
      obtain ⟨z0, z1, z2, z3⟩ := wh4 r3.z
      have g1 := r3.z.frozen 1
      go_wp2_with fail
      go_meet
      case rel =>
        exact ⟨f2 + 8, by simp, by omega, by omega, r3.flag _⟩
    | false =>
      go_wp2_with fail
      go_meet
      case rel => exact ⟨f2, by simp, by omega, by omega, r3⟩
  obtain ⟨f3, hf3, hlo3, hhi3, r4⟩ := hcut
  clear r3 q0 q1 q2 q3 q4 q5 q6 q7 q8 q9
  generalize wc = wF3 at *
  have HF3 := Lib.hid hf3
  clear hf3
  obtain ⟨q0, q1, q2, q3, q4, q5, q6, q7, q8, q9⟩ := r4.x.cs10
  go_upto_region 10 with fail
  have est : Value.int .u32 (IntKind.u32.wrap (st.toNat : Int)) = uv (u32of st.toNat) := by
    have := st.toNat_lt
    rw [uv, u32of_toNat (by omega), IntKind.wrap_u32]
    congr 1
    omega
  have KSa : Hid (∀ W, Whole W w.heap.size 26 (ptCells ⟨false, tsn, st, sq, pr, bg, en, un, nw, us⟩ A c) → W.cell? ⟨w.heap.size, 1, none⟩ = some (uv tsn) ∧ W.cell? ⟨w.heap.size, 2, none⟩ = some (hv st)) := Lib.hid (fun W h => ⟨h.cs10.2.1, h.cs10.2.2.1⟩)
  clear q0 q1 q2 q3 q4 q5 q6 q7 q8 q9
  go_cut [] from 29 to 39 (fun wx => ∃ (A' : Option Addr) (c' : Nat), RM w ⟨false, tsn, st, sq, pr, bg, en, un, nw, us⟩ A c 0 f3 (puts 4 [tsn] ++ puts 2 [u32of st.toNat]) (.slice A' 6 c') wx)
  case first =>
    refine wp_region_held_drew (S := (fun W => W.cell? ⟨w.heap.size, 1, none⟩ = some (uv tsn) ∧ W.cell? ⟨w.heap.size, 2, none⟩ = some (hv st))) (by kernel_rfl) (KSa.out _ r4.x) (fun hHeld => ?_)
    refine take_at (i := 0) (v := ?_) (some 29) rfl (by kernel_rfl) (by kernel_rfl) (by kernel_rfl) (fun _ _ _ h => h) (by kernel_rfl) (Or.inl ⟨by kernel_rfl, ?_⟩) (by assumption) ?_
    rotate_left
    · (intro w hSw; (try dsimp only at hSw); go_simp <;> with_reducible rfl)
    simp only [Act.put, List.setIfInBounds_toArray, List.set_cons_zero, List.set_cons_succ]
    refine take_at (i := 1) (v := ?_) (some 30) rfl (by kernel_rfl) (by kernel_rfl) (by kernel_rfl) (fun _ _ _ h => h) (by kernel_rfl) (Or.inl ⟨by kernel_rfl, ?_⟩) (by assumption) ?_
    rotate_left
    · (intro w hSw; (try dsimp only at hSw); go_simp <;> with_reducible rfl)
    simp only [Act.put, List.setIfInBounds_toArray, List.set_cons_zero, List.set_cons_succ]
    refine take_at (i := 4) (v := ?_) (some 33) rfl (by kernel_rfl) (by kernel_rfl) (by kernel_rfl) (fun _ _ _ h => h) (by kernel_rfl) (Or.inl ⟨by kernel_rfl, ?_⟩) (by assumption) ?_
    rotate_left
    · (intro w hSw; (try dsimp only at hSw); go_simp <;> with_reducible rfl)
    simp only [Act.put, List.setIfInBounds_toArray, List.set_cons_zero, List.set_cons_succ]
    refine take_at (i := 5) (v := ?_) (some 34) rfl (by kernel_rfl) (by kernel_rfl) (by kernel_rfl) (fun _ _ _ h => h) (by kernel_rfl) (Or.inl ⟨by kernel_rfl, ?_⟩) (by assumption) ?_
    rotate_left
    · (intro w hSw; (try dsimp only at hSw); go_simp <;> with_reducible rfl)
    simp only [Act.put, List.setIfInBounds_toArray, List.set_cons_zero, List.set_cons_succ]
    refine take_at (i := 6) (v := ?_) (some 35) rfl (by kernel_rfl) (by kernel_rfl) (by kernel_rfl) (fun _ _ _ h => h) (by kernel_rfl) (Or.inl ⟨by kernel_rfl, ?_⟩) (by assumption) ?_
    rotate_left
    · (intro w hSw; (try dsimp only at hSw); go_simp <;> with_reducible rfl)
    simp only [Act.put, List.setIfInBounds_toArray, List.set_cons_zero, List.set_cons_succ]
    refine wpAnyH_ready (rs := [2, 7]) (by kernel_rfl) (by simp) ?_
    refine AllReadyH.cons rfl (fun K hK => ?_) (AllReadyH.cons rfl (fun K hK => ?_) AllReadyH.nil)
    · go_simp
      have ba2 : Below wF3.heap.size wF3 (wF3.alloc (.cells #[uv tsn] 22)).drew := below_drew ((Below.refl _ _).alloc (Nat.le_refl _) _)
      have La2_2 : Lies (wF3.alloc (.cells #[uv tsn] 22)).drew (wF3.alloc (.cells #[uv tsn] 22)).drew.heap.size (some ⟨wF3.heap.size, 0, none⟩) ([tsn].map uv) := ((lies_new wF3 [tsn]).below (below_drew (Below.refl _ _))).more (by show _ ≤ (wF3.alloc _).heap.size; simp)
      have ra2 := r4.below ba2
      generalize (wF3.alloc (.cells #[uv tsn] 22)).drew = va2 at *
      clear hHeld
      refine hK.out _ _ (KSa.out _ ra2.x) (fun hHeld => ?_)
      clear hK K
      try simp only [Act.put, List.setIfInBounds_toArray, List.set_cons_zero, List.set_cons_succ]
      refine wpAnyH_ready (rs := [3, 7]) (by kernel_rfl) (by simp) ?_
      refine AllReadyH.cons rfl (fun K hK => ?_) (AllReadyH.cons rfl (fun K hK => ?_) AllReadyH.nil)
      · have hP : Calls Tryz.prog 73 #[.int .i64 4, .slice (some ⟨wF3.heap.size, 0, none⟩) 1 1] va2 fun e w' => ∃ A' c', e = .returned (.slice A' 4 c') ∧ w'.ownsRow va2.heap.size 5 1 (.slice A' 4 c') 4 ((puts 4 [tsn]).map bv) ∧ Below va2.heap.size va2 w' := rput_any 4 (.inr (.inr rfl)) _ 1 [tsn] va2 La2_2 (by simp)
        go_simp
        go_at_call 73; (with_reducible refine hP.mono ?_); rintro e va2_3 ⟨P3, m3, rfl, Oa3_2_3, ba2_3⟩
        go_wp2_with fail
        have ra2_3 := ra2.below ba2_3
        clear hP
        clear hHeld
        refine hK.out _ _ (KSa.out _ ra2_3.x) (fun hHeld => ?_)
        clear hK K
        try simp only [Act.put, List.setIfInBounds_toArray, List.set_cons_zero, List.set_cons_succ]
        refine wpAnyH_ready (rs := [7]) (by kernel_rfl) (by simp) ?_
        refine AllReadyH.cons rfl (fun K hK => ?_) AllReadyH.nil
        go_simp
        try rw [est]
        have ba2_3_7 : Below va2_3.heap.size va2_3 (va2_3.alloc (.cells #[uv (u32of st.toNat)] 22)) := (Below.refl _ _).alloc (Nat.le_refl _) _
        have La7_2_3_7 : Lies (va2_3.alloc (.cells #[uv (u32of st.toNat)] 22)) (va2_3.alloc (.cells #[uv (u32of st.toNat)] 22)).heap.size (some ⟨va2_3.heap.size, 0, none⟩) ([u32of st.toNat].map uv) := (lies_new va2_3 [u32of st.toNat]).more (by simp)
        have Oa3_2_3_7 := own_below' Oa3_2_3 ba2_3_7
        have ra2_3_7 := ra2_3.below ba2_3_7
        generalize (va2_3.alloc (.cells #[uv (u32of st.toNat)] 22)) = va2_3_7 at *
        clear hHeld
        refine hK.out _ _ (KSa.out _ ra2_3_7.x) (fun hHeld => ?_)
        clear hK K
        try simp only [Act.put, List.setIfInBounds_toArray, List.set_cons_zero, List.set_cons_succ]
        refine wpAnyH_ready (rs := [8]) (by kernel_rfl) (by simp) ?_
        refine AllReadyH.cons rfl (fun K hK => ?_) AllReadyH.nil
        have hP : Calls Tryz.prog 73 #[.int .i64 2, .slice (some ⟨va2_3.heap.size, 0, none⟩) 1 1] va2_3_7 fun e w' => ∃ A' c', e = .returned (.slice A' 2 c') ∧ w'.ownsRow va2_3_7.heap.size 5 1 (.slice A' 2 c') 2 ((puts 2 [u32of st.toNat]).map bv) ∧ Below va2_3_7.heap.size va2_3_7 w' := rput_any 2 (.inr (.inl rfl)) _ 1 [u32of st.toNat] va2_3_7 La7_2_3_7 (by simp)
        go_simp
        go_at_call 73; (with_reducible refine hP.mono ?_); rintro e va2_3_7_8 ⟨P8, m8, rfl, Oa8_2_3_7_8, ba2_3_7_8⟩
        go_wp2_with fail
        have Oa3_2_3_7_8 := own_below' Oa3_2_3_7 ba2_3_7_8
        have ra2_3_7_8 := ra2_3_7.below ba2_3_7_8
        clear hP
        clear hHeld
        refine hK.out _ _ (KSa.out _ ra2_3_7_8.x) (fun hHeld => ?_)
        clear hK K
        try simp only [Act.put, List.setIfInBounds_toArray, List.set_cons_zero, List.set_cons_succ]
        refine wpAnyH_ready (rs := [9]) (by kernel_rfl) (by simp) ?_
        refine AllReadyH.cons rfl (fun K hK => ?_) AllReadyH.nil
        refine wp_append_lies _ (.tmp 32) (.tmp 37) 24 rfl (va2.heap.size) 5 _ 1 Tryz.underlying24 u8info rfl (.slice P3 4 m3) 4 ((puts 4 [tsn]).map bv) rfl (by first | exact Oa3_2_3_7_8 | simpa [puts_len] using Oa3_2_3_7_8) va2_3_7_8.heap.size P8 2 m8 ((puts 2 [u32of st.toNat]).map bv) rfl (by simp [puts_len]) (Lies.own Oa8_2_3_7_8) (by intro u hu; obtain ⟨_, _, rfl⟩ := List.mem_map.1 hu; rfl) (by omega) (by unfold maxLen; omega) (Nat.le_trans (Nat.le_refl _) (by first | exact Nat.le_trans (Nat.le_trans (ba2_3.size) ba2_3_7.size) ba2_3_7_8.size)) ?_
        intro A9 c9 w9 own9 gr9 _
        have k9 := ra2_3_7_8.kept Oa3_2_3_7_8 gr9
        obtain ⟨e0, e1, e2, e3⟩ := wh4 k9.2
        have f2 := k9.2.frozen 2
        clear hHeld
        refine hK.out _ _ (KSa.out _ k9.1) (fun hHeld => ?_)
        clear hK K
        try simp only [Act.put, List.setIfInBounds_toArray, List.set_cons_zero, List.set_cons_succ]
        refine take_at (i := 10) (v := ?_) (some 39) rfl (by kernel_rfl) (by kernel_rfl) (by kernel_rfl) (fun _ _ _ h => h) (by kernel_rfl) (Or.inl ⟨by kernel_rfl, ?_⟩) (by assumption) ?_
        rotate_left
        · (intro w hSw; (try dsimp only at hSw); go_simp <;> with_reducible rfl)
        simp only [Act.put, List.setIfInBounds_toArray, List.set_cons_zero, List.set_cons_succ]
        refine wpAnyH_ready (rs := [11]) (by kernel_rfl) (by simp) ?_
        refine AllReadyH.cons rfl (fun K hK => ?_) AllReadyH.nil
        go_simp
        have he : w9.ownsRow w.heap.size 5 1 (.slice A9 6 c9) (puts 4 [tsn] ++ puts 2 [u32of st.toNat]).length ((puts 4 [tsn] ++ puts 2 [u32of st.toNat]).map bv) := by
          have h9 := own_base own9 (Nat.le_trans r4.low.size (ba2.size))
          rw [show (puts 4 [tsn] ++ puts 2 [u32of st.toNat]).length = 6 by simp [puts_len]]
          first | exact h9 | simpa [List.map_append, puts_len] using h9
        have rG := ra2_3_7_8.grow Oa3_2_3_7_8 (Nat.le_trans r4.low.size (ba2.size)) gr9 he
        clear hHeld
        refine hK.out _ _ (KSa.out _ rG.x) (fun hHeld => ?_)
        clear hK K
        try simp only [Act.put, List.setIfInBounds_toArray, List.set_cons_zero, List.set_cons_succ]
        refine wpAnyH_done (by kernel_rfl) ?_ _
        go_wp2_with fail
        go_meet
        case rel => exact ⟨A9, c9, rG⟩
      · go_simp
        try rw [est]
        have ba2_7 : Below va2.heap.size va2 (va2.alloc (.cells #[uv (u32of st.toNat)] 22)) := (Below.refl _ _).alloc (Nat.le_refl _) _
        have La7_2_7 : Lies (va2.alloc (.cells #[uv (u32of st.toNat)] 22)) (va2.alloc (.cells #[uv (u32of st.toNat)] 22)).heap.size (some ⟨va2.heap.size, 0, none⟩) ([u32of st.toNat].map uv) := (lies_new va2 [u32of st.toNat]).more (by simp)
        have La2_2_7 := (La2_2.below ba2_7).more ba2_7.size
        have ra2_7 := ra2.below ba2_7
        generalize (va2.alloc (.cells #[uv (u32of st.toNat)] 22)) = va2_7 at *
        clear hHeld
        refine hK.out _ _ (KSa.out _ ra2_7.x) (fun hHeld => ?_)
        clear hK K
        try simp only [Act.put, List.setIfInBounds_toArray, List.set_cons_zero, List.set_cons_succ]
        refine wpAnyH_ready (rs := [3]) (by kernel_rfl) (by simp) ?_
        refine AllReadyH.cons rfl (fun K hK => ?_) AllReadyH.nil
        have hP : Calls Tryz.prog 73 #[.int .i64 4, .slice (some ⟨wF3.heap.size, 0, none⟩) 1 1] va2_7 fun e w' => ∃ A' c', e = .returned (.slice A' 4 c') ∧ w'.ownsRow va2_7.heap.size 5 1 (.slice A' 4 c') 4 ((puts 4 [tsn]).map bv) ∧ Below va2_7.heap.size va2_7 w' := rput_any 4 (.inr (.inr rfl)) _ 1 [tsn] va2_7 La2_2_7 (by simp)
        go_simp
        go_at_call 73; (with_reducible refine hP.mono ?_); rintro e va2_7_3 ⟨P3, m3, rfl, Oa3_2_7_3, ba2_7_3⟩
        go_wp2_with fail
        have La7_2_7_3 := (La7_2_7.below ba2_7_3).more ba2_7_3.size
        have ra2_7_3 := ra2_7.below ba2_7_3
        clear hP
        clear hHeld
        refine hK.out _ _ (KSa.out _ ra2_7_3.x) (fun hHeld => ?_)
        clear hK K
        try simp only [Act.put, List.setIfInBounds_toArray, List.set_cons_zero, List.set_cons_succ]
        refine wpAnyH_ready (rs := [8]) (by kernel_rfl) (by simp) ?_
        refine AllReadyH.cons rfl (fun K hK => ?_) AllReadyH.nil
        have hP : Calls Tryz.prog 73 #[.int .i64 2, .slice (some ⟨va2.heap.size, 0, none⟩) 1 1] va2_7_3 fun e w' => ∃ A' c', e = .returned (.slice A' 2 c') ∧ w'.ownsRow va2_7_3.heap.size 5 1 (.slice A' 2 c') 2 ((puts 2 [u32of st.toNat]).map bv) ∧ Below va2_7_3.heap.size va2_7_3 w' := rput_any 2 (.inr (.inl rfl)) _ 1 [u32of st.toNat] va2_7_3 La7_2_7_3 (by simp)
        go_simp
        go_at_call 73; (with_reducible refine hP.mono ?_); rintro e va2_7_3_8 ⟨P8, m8, rfl, Oa8_2_7_3_8, ba2_7_3_8⟩
        go_wp2_with fail
        have Oa3_2_7_3_8 := own_below' Oa3_2_7_3 ba2_7_3_8
        have ra2_7_3_8 := ra2_7_3.below ba2_7_3_8
        clear hP
        clear hHeld
        refine hK.out _ _ (KSa.out _ ra2_7_3_8.x) (fun hHeld => ?_)
        clear hK K
        try simp only [Act.put, List.setIfInBounds_toArray, List.set_cons_zero, List.set_cons_succ]
        refine wpAnyH_ready (rs := [9]) (by kernel_rfl) (by simp) ?_
        refine AllReadyH.cons rfl (fun K hK => ?_) AllReadyH.nil
        refine wp_append_lies _ (.tmp 32) (.tmp 37) 24 rfl (va2_7.heap.size) 5 _ 1 Tryz.underlying24 u8info rfl (.slice P3 4 m3) 4 ((puts 4 [tsn]).map bv) rfl (by first | exact Oa3_2_7_3_8 | simpa [puts_len] using Oa3_2_7_3_8) va2_7_3_8.heap.size P8 2 m8 ((puts 2 [u32of st.toNat]).map bv) rfl (by simp [puts_len]) (Lies.own Oa8_2_7_3_8) (by intro u hu; obtain ⟨_, _, rfl⟩ := List.mem_map.1 hu; rfl) (by omega) (by unfold maxLen; omega) (Nat.le_trans (Nat.le_refl _) (by first | exact Nat.le_trans (ba2_7_3.size) ba2_7_3_8.size)) ?_
        intro A9 c9 w9 own9 gr9 _
        have k9 := ra2_7_3_8.kept Oa3_2_7_3_8 gr9
        obtain ⟨e0, e1, e2, e3⟩ := wh4 k9.2
        have f2 := k9.2.frozen 2
        clear hHeld
        refine hK.out _ _ (KSa.out _ k9.1) (fun hHeld => ?_)
        clear hK K
        try simp only [Act.put, List.setIfInBounds_toArray, List.set_cons_zero, List.set_cons_succ]
        refine take_at (i := 10) (v := ?_) (some 39) rfl (by kernel_rfl) (by kernel_rfl) (by kernel_rfl) (fun _ _ _ h => h) (by kernel_rfl) (Or.inl ⟨by kernel_rfl, ?_⟩) (by assumption) ?_
        rotate_left
        · (intro w hSw; (try dsimp only at hSw); go_simp <;> with_reducible rfl)
        simp only [Act.put, List.setIfInBounds_toArray, List.set_cons_zero, List.set_cons_succ]
        refine wpAnyH_ready (rs := [11]) (by kernel_rfl) (by simp) ?_
        refine AllReadyH.cons rfl (fun K hK => ?_) AllReadyH.nil
        go_simp
        have he : w9.ownsRow w.heap.size 5 1 (.slice A9 6 c9) (puts 4 [tsn] ++ puts 2 [u32of st.toNat]).length ((puts 4 [tsn] ++ puts 2 [u32of st.toNat]).map bv) := by
          have h9 := own_base own9 (Nat.le_trans r4.low.size (Nat.le_trans (ba2.size) ba2_7.size))
          rw [show (puts 4 [tsn] ++ puts 2 [u32of st.toNat]).length = 6 by simp [puts_len]]
          first | exact h9 | simpa [List.map_append, puts_len] using h9
        have rG := ra2_7_3_8.grow Oa3_2_7_3_8 (Nat.le_trans r4.low.size (Nat.le_trans (ba2.size) ba2_7.size)) gr9 he
        clear hHeld
        refine hK.out _ _ (KSa.out _ rG.x) (fun hHeld => ?_)
        clear hK K
        try simp only [Act.put, List.setIfInBounds_toArray, List.set_cons_zero, List.set_cons_succ]
        refine wpAnyH_done (by kernel_rfl) ?_ _
        go_wp2_with fail
        go_meet
        case rel => exact ⟨A9, c9, rG⟩
    · go_simp
      try rw [est]
      have ba7 : Below wF3.heap.size wF3 (wF3.alloc (.cells #[uv (u32of st.toNat)] 22)).drew := below_drew ((Below.refl _ _).alloc (Nat.le_refl _) _)
      have La7_7 : Lies (wF3.alloc (.cells #[uv (u32of st.toNat)] 22)).drew (wF3.alloc (.cells #[uv (u32of st.toNat)] 22)).drew.heap.size (some ⟨wF3.heap.size, 0, none⟩) ([u32of st.toNat].map uv) := ((lies_new wF3 [u32of st.toNat]).below (below_drew (Below.refl _ _))).more (by show _ ≤ (wF3.alloc _).heap.size; simp)
      have ra7 := r4.below ba7
      generalize (wF3.alloc (.cells #[uv (u32of st.toNat)] 22)).drew = va7 at *
      clear hHeld
      refine hK.out _ _ (KSa.out _ ra7.x) (fun hHeld => ?_)
      clear hK K
      try simp only [Act.put, List.setIfInBounds_toArray, List.set_cons_zero, List.set_cons_succ]
      refine wpAnyH_ready (rs := [2]) (by kernel_rfl) (by simp) ?_
      refine AllReadyH.cons rfl (fun K hK => ?_) AllReadyH.nil
      go_simp
      have ba7_2 : Below va7.heap.size va7 (va7.alloc (.cells #[uv tsn] 22)) := (Below.refl _ _).alloc (Nat.le_refl _) _
      have La2_7_2 : Lies (va7.alloc (.cells #[uv tsn] 22)) (va7.alloc (.cells #[uv tsn] 22)).heap.size (some ⟨va7.heap.size, 0, none⟩) ([tsn].map uv) := (lies_new va7 [tsn]).more (by simp)
      have La7_7_2 := (La7_7.below ba7_2).more ba7_2.size
      have ra7_2 := ra7.below ba7_2
      generalize (va7.alloc (.cells #[uv tsn] 22)) = va7_2 at *
      clear hHeld
      refine hK.out _ _ (KSa.out _ ra7_2.x) (fun hHeld => ?_)
      clear hK K
      try simp only [Act.put, List.setIfInBounds_toArray, List.set_cons_zero, List.set_cons_succ]
      refine wpAnyH_ready (rs := [3]) (by kernel_rfl) (by simp) ?_
      refine AllReadyH.cons rfl (fun K hK => ?_) AllReadyH.nil
      have hP : Calls Tryz.prog 73 #[.int .i64 4, .slice (some ⟨va7.heap.size, 0, none⟩) 1 1] va7_2 fun e w' => ∃ A' c', e = .returned (.slice A' 4 c') ∧ w'.ownsRow va7_2.heap.size 5 1 (.slice A' 4 c') 4 ((puts 4 [tsn]).map bv) ∧ Below va7_2.heap.size va7_2 w' := rput_any 4 (.inr (.inr rfl)) _ 1 [tsn] va7_2 La2_7_2 (by simp)
      go_simp
      go_at_call 73; (with_reducible refine hP.mono ?_); rintro e va7_2_3 ⟨P3, m3, rfl, Oa3_7_2_3, ba7_2_3⟩
      go_wp2_with fail
      have La7_7_2_3 := (La7_7_2.below ba7_2_3).more ba7_2_3.size
      have ra7_2_3 := ra7_2.below ba7_2_3
      clear hP
      clear hHeld
      refine hK.out _ _ (KSa.out _ ra7_2_3.x) (fun hHeld => ?_)
      clear hK K
      try simp only [Act.put, List.setIfInBounds_toArray, List.set_cons_zero, List.set_cons_succ]
      refine wpAnyH_ready (rs := [8]) (by kernel_rfl) (by simp) ?_
      refine AllReadyH.cons rfl (fun K hK => ?_) AllReadyH.nil
      have hP : Calls Tryz.prog 73 #[.int .i64 2, .slice (some ⟨wF3.heap.size, 0, none⟩) 1 1] va7_2_3 fun e w' => ∃ A' c', e = .returned (.slice A' 2 c') ∧ w'.ownsRow va7_2_3.heap.size 5 1 (.slice A' 2 c') 2 ((puts 2 [u32of st.toNat]).map bv) ∧ Below va7_2_3.heap.size va7_2_3 w' := rput_any 2 (.inr (.inl rfl)) _ 1 [u32of st.toNat] va7_2_3 La7_7_2_3 (by simp)
      go_simp
      go_at_call 73; (with_reducible refine hP.mono ?_); rintro e va7_2_3_8 ⟨P8, m8, rfl, Oa8_7_2_3_8, ba7_2_3_8⟩
      go_wp2_with fail
      have Oa3_7_2_3_8 := own_below' Oa3_7_2_3 ba7_2_3_8
      have ra7_2_3_8 := ra7_2_3.below ba7_2_3_8
      clear hP
      clear hHeld
      refine hK.out _ _ (KSa.out _ ra7_2_3_8.x) (fun hHeld => ?_)
      clear hK K
      try simp only [Act.put, List.setIfInBounds_toArray, List.set_cons_zero, List.set_cons_succ]
      refine wpAnyH_ready (rs := [9]) (by kernel_rfl) (by simp) ?_
      refine AllReadyH.cons rfl (fun K hK => ?_) AllReadyH.nil
      refine wp_append_lies _ (.tmp 32) (.tmp 37) 24 rfl (va7_2.heap.size) 5 _ 1 Tryz.underlying24 u8info rfl (.slice P3 4 m3) 4 ((puts 4 [tsn]).map bv) rfl (by first | exact Oa3_7_2_3_8 | simpa [puts_len] using Oa3_7_2_3_8) va7_2_3_8.heap.size P8 2 m8 ((puts 2 [u32of st.toNat]).map bv) rfl (by simp [puts_len]) (Lies.own Oa8_7_2_3_8) (by intro u hu; obtain ⟨_, _, rfl⟩ := List.mem_map.1 hu; rfl) (by omega) (by unfold maxLen; omega) (Nat.le_trans (Nat.le_refl _) (by first | exact Nat.le_trans (ba7_2_3.size) ba7_2_3_8.size)) ?_
      intro A9 c9 w9 own9 gr9 _
      have k9 := ra7_2_3_8.kept Oa3_7_2_3_8 gr9
      obtain ⟨e0, e1, e2, e3⟩ := wh4 k9.2
      have f2 := k9.2.frozen 2
      clear hHeld
      refine hK.out _ _ (KSa.out _ k9.1) (fun hHeld => ?_)
      clear hK K
      try simp only [Act.put, List.setIfInBounds_toArray, List.set_cons_zero, List.set_cons_succ]
      refine take_at (i := 10) (v := ?_) (some 39) rfl (by kernel_rfl) (by kernel_rfl) (by kernel_rfl) (fun _ _ _ h => h) (by kernel_rfl) (Or.inl ⟨by kernel_rfl, ?_⟩) (by assumption) ?_
      rotate_left
      · (intro w hSw; (try dsimp only at hSw); go_simp <;> with_reducible rfl)
      simp only [Act.put, List.setIfInBounds_toArray, List.set_cons_zero, List.set_cons_succ]
      refine wpAnyH_ready (rs := [11]) (by kernel_rfl) (by simp) ?_
      refine AllReadyH.cons rfl (fun K hK => ?_) AllReadyH.nil
      go_simp
      have he : w9.ownsRow w.heap.size 5 1 (.slice A9 6 c9) (puts 4 [tsn] ++ puts 2 [u32of st.toNat]).length ((puts 4 [tsn] ++ puts 2 [u32of st.toNat]).map bv) := by
        have h9 := own_base own9 (Nat.le_trans r4.low.size (Nat.le_trans (ba7.size) ba7_2.size))
        rw [show (puts 4 [tsn] ++ puts 2 [u32of st.toNat]).length = 6 by simp [puts_len]]
        first | exact h9 | simpa [List.map_append, puts_len] using h9
      have rG := ra7_2_3_8.grow Oa3_7_2_3_8 (Nat.le_trans r4.low.size (Nat.le_trans (ba7.size) ba7_2.size)) gr9 he
      clear hHeld
      refine hK.out _ _ (KSa.out _ rG.x) (fun hHeld => ?_)
      clear hK K
      try simp only [Act.put, List.setIfInBounds_toArray, List.set_cons_zero, List.set_cons_succ]
      refine wpAnyH_done (by kernel_rfl) ?_ _
      go_wp2_with fail
      go_meet
      case rel => exact ⟨A9, c9, rG⟩
  obtain ⟨A5, c5, r5⟩ := hcut
  clear r4 KSa
  generalize wc = wG at *
  obtain ⟨q0, q1, q2, q3, q4, q5, q6, q7, q8, q9⟩ := r5.x.cs10
  go_upto_region 15 with fail
  clear q0 q1 q2 q3 q4 q5 q6 q7 q8 q9
  have KSb : Hid (∀ W, Whole W w.heap.size 26 (ptCells ⟨false, tsn, st, sq, pr, bg, en, un, nw, us⟩ A c) → W.cell? ⟨w.heap.size, 3, none⟩ = some (uv sq)) := Lib.hid (fun W h => h.cs10.2.2.2.1)
  go_cut [] from 56 to 63 (fun wx => ∃ (A' : Option Addr) (c' : Nat), RM w ⟨false, tsn, st, sq, pr, bg, en, un, nw, us⟩ A c 0 f3 (puts 4 [tsn] ++ puts 2 [u32of st.toNat] ++ puts 2 [sq]) (.slice A' 8 c') wx)
  case first =>
    refine wp_region_held_drew (S := (fun W => W.cell? ⟨w.heap.size, 3, none⟩ = some (uv sq))) (by kernel_rfl) (KSb.out _ r5.x) (fun hHeld => ?_)
    refine take_at (i := 0) (v := ?_) (some 56) rfl (by kernel_rfl) (by kernel_rfl) (by kernel_rfl) (fun _ _ _ h => h) (by kernel_rfl) (Or.inl ⟨by kernel_rfl, ?_⟩) (by assumption) ?_
    rotate_left
    · (intro w hSw; (try dsimp only at hSw); go_simp <;> with_reducible rfl)
    simp only [Act.put, List.setIfInBounds_toArray, List.set_cons_zero, List.set_cons_succ]
    refine take_at (i := 2) (v := ?_) (some 58) rfl (by kernel_rfl) (by kernel_rfl) (by kernel_rfl) (fun _ _ _ h => h) (by kernel_rfl) (Or.inl ⟨by kernel_rfl, ?_⟩) (by assumption) ?_
    rotate_left
    · (intro w hSw; (try dsimp only at hSw); go_simp <;> with_reducible rfl)
    simp only [Act.put, List.setIfInBounds_toArray, List.set_cons_zero, List.set_cons_succ]
    refine take_at (i := 3) (v := ?_) (some 59) rfl (by kernel_rfl) (by kernel_rfl) (by kernel_rfl) (fun _ _ _ h => h) (by kernel_rfl) (Or.inl ⟨by kernel_rfl, ?_⟩) (by assumption) ?_
    rotate_left
    · (intro w hSw; (try dsimp only at hSw); go_simp <;> with_reducible rfl)
    simp only [Act.put, List.setIfInBounds_toArray, List.set_cons_zero, List.set_cons_succ]
    refine wpAnyH_ready (rs := [1, 4]) (by kernel_rfl) (by simp) ?_
    refine AllReadyH.cons rfl (fun K hK => ?_) (AllReadyH.cons rfl (fun K hK => ?_) AllReadyH.nil)
    · have rb1 := r5.below (below_drew (Below.refl wG.heap.size wG))
      obtain ⟨k0, k1, k2, k3⟩ := wh4 rb1.z
      go_simp
      clear k0 k1 k2 k3
      generalize wG.drew = vb1 at *
      clear hHeld
      refine hK.out _ _ (KSb.out _ rb1.x) (fun hHeld => ?_)
      clear hK K
      try simp only [Act.put, List.setIfInBounds_toArray, List.set_cons_zero, List.set_cons_succ]
      refine wpAnyH_ready (rs := [4]) (by kernel_rfl) (by simp) ?_
      refine AllReadyH.cons rfl (fun K hK => ?_) AllReadyH.nil
      go_simp
      have bb1_4 : Below vb1.heap.size vb1 (vb1.alloc (.cells #[uv sq] 22)) := (Below.refl _ _).alloc (Nat.le_refl _) _
      have Lb4_1_4 : Lies (vb1.alloc (.cells #[uv sq] 22)) (vb1.alloc (.cells #[uv sq] 22)).heap.size (some ⟨vb1.heap.size, 0, none⟩) ([sq].map uv) := (lies_new vb1 [sq]).more (by simp)
      have rb1_4 := rb1.below bb1_4
      generalize (vb1.alloc (.cells #[uv sq] 22)) = vb1_4 at *
      clear hHeld
      refine hK.out _ _ (KSb.out _ rb1_4.x) (fun hHeld => ?_)
      clear hK K
      try simp only [Act.put, List.setIfInBounds_toArray, List.set_cons_zero, List.set_cons_succ]
      refine wpAnyH_ready (rs := [5]) (by kernel_rfl) (by simp) ?_
      refine AllReadyH.cons rfl (fun K hK => ?_) AllReadyH.nil
      have hP : Calls Tryz.prog 73 #[.int .i64 2, .slice (some ⟨vb1.heap.size, 0, none⟩) 1 1] vb1_4 fun e w' => ∃ A' c', e = .returned (.slice A' 2 c') ∧ w'.ownsRow vb1_4.heap.size 5 1 (.slice A' 2 c') 2 ((puts 2 [sq]).map bv) ∧ Below vb1_4.heap.size vb1_4 w' := rput_any 2 (.inr (.inl rfl)) _ 1 [sq] vb1_4 Lb4_1_4 (by simp)
      go_simp
      go_at_call 73; (with_reducible refine hP.mono ?_); rintro e vb1_4_5 ⟨P5, m5, rfl, Ob5_1_4_5, bb1_4_5⟩
      go_wp2_with fail
      have rb1_4_5 := rb1_4.below bb1_4_5
      clear hP
      clear hHeld
      refine hK.out _ _ (KSb.out _ rb1_4_5.x) (fun hHeld => ?_)
      clear hK K
      try simp only [Act.put, List.setIfInBounds_toArray, List.set_cons_zero, List.set_cons_succ]
      refine wpAnyH_ready (rs := [6]) (by kernel_rfl) (by simp) ?_
      refine AllReadyH.cons rfl (fun K hK => ?_) AllReadyH.nil
      refine wp_append_lies _ (.tmp 57) (.tmp 61) 24 rfl (w.heap.size) 5 _ 1 Tryz.underlying24 u8info rfl (.slice A5 6 c5) 6 ((puts 4 [tsn] ++ puts 2 [u32of st.toNat]).map bv) rfl (by first | exact rb1_4_5.own | simpa [puts_len] using rb1_4_5.own) vb1_4_5.heap.size P5 2 m5 ((puts 2 [sq]).map bv) rfl (by simp [puts_len]) (Lies.own Ob5_1_4_5) (by intro u hu; obtain ⟨_, _, rfl⟩ := List.mem_map.1 hu; rfl) (by omega) (by unfold maxLen; omega) rb1_4_5.low.size ?_
      intro A9 c9 w9 own9 gr9 _
      have k9 := rb1_4_5.kept rb1_4_5.own gr9
      obtain ⟨e0, e1, e2, e3⟩ := wh4 k9.2
      have f2 := k9.2.frozen 2
      clear hHeld
      refine hK.out _ _ (KSb.out _ k9.1) (fun hHeld => ?_)
      clear hK K
      try simp only [Act.put, List.setIfInBounds_toArray, List.set_cons_zero, List.set_cons_succ]
      refine take_at (i := 7) (v := ?_) (some 63) rfl (by kernel_rfl) (by kernel_rfl) (by kernel_rfl) (fun _ _ _ h => h) (by kernel_rfl) (Or.inl ⟨by kernel_rfl, ?_⟩) (by assumption) ?_
      rotate_left
      · (intro w hSw; (try dsimp only at hSw); go_simp <;> with_reducible rfl)
      simp only [Act.put, List.setIfInBounds_toArray, List.set_cons_zero, List.set_cons_succ]
      refine wpAnyH_ready (rs := [8]) (by kernel_rfl) (by simp) ?_
      refine AllReadyH.cons rfl (fun K hK => ?_) AllReadyH.nil
      go_simp
      have he : w9.ownsRow w.heap.size 5 1 (.slice A9 8 c9) (puts 4 [tsn] ++ puts 2 [u32of st.toNat] ++ puts 2 [sq]).length ((puts 4 [tsn] ++ puts 2 [u32of st.toNat] ++ puts 2 [sq]).map bv) := by
        have h9 := own_base own9 (Nat.le_refl _)
        rw [show (puts 4 [tsn] ++ puts 2 [u32of st.toNat] ++ puts 2 [sq]).length = 8 by simp [puts_len]]
        first | exact h9 | simpa [List.map_append, puts_len] using h9
      have rG := rb1_4_5.grow rb1_4_5.own (Nat.le_refl _) gr9 he
      clear hHeld
      refine hK.out _ _ (KSb.out _ rG.x) (fun hHeld => ?_)
      clear hK K
      try simp only [Act.put, List.setIfInBounds_toArray, List.set_cons_zero, List.set_cons_succ]
      refine wpAnyH_done (by kernel_rfl) ?_ _
      go_wp2_with fail
      go_meet
      case rel => exact ⟨A9, c9, rG⟩
    · go_simp
      have bb4 : Below wG.heap.size wG (wG.alloc (.cells #[uv sq] 22)).drew := below_drew ((Below.refl _ _).alloc (Nat.le_refl _) _)
      have Lb4_4 : Lies (wG.alloc (.cells #[uv sq] 22)).drew (wG.alloc (.cells #[uv sq] 22)).drew.heap.size (some ⟨wG.heap.size, 0, none⟩) ([sq].map uv) := ((lies_new wG [sq]).below (below_drew (Below.refl _ _))).more (by show _ ≤ (wG.alloc _).heap.size; simp)
      have rb4 := r5.below bb4
      generalize (wG.alloc (.cells #[uv sq] 22)).drew = vb4 at *
      clear hHeld
      refine hK.out _ _ (KSb.out _ rb4.x) (fun hHeld => ?_)
      clear hK K
      try simp only [Act.put, List.setIfInBounds_toArray, List.set_cons_zero, List.set_cons_succ]
      refine wpAnyH_ready (rs := [1, 5]) (by kernel_rfl) (by simp) ?_
      refine AllReadyH.cons rfl (fun K hK => ?_) (AllReadyH.cons rfl (fun K hK => ?_) AllReadyH.nil)
      · obtain ⟨k0, k1, k2, k3⟩ := wh4 rb4.z
        go_simp
        clear k0 k1 k2 k3
        clear hHeld
        refine hK.out _ _ (KSb.out _ rb4.x) (fun hHeld => ?_)
        clear hK K
        try simp only [Act.put, List.setIfInBounds_toArray, List.set_cons_zero, List.set_cons_succ]
        refine wpAnyH_ready (rs := [5]) (by kernel_rfl) (by simp) ?_
        refine AllReadyH.cons rfl (fun K hK => ?_) AllReadyH.nil
        have hP : Calls Tryz.prog 73 #[.int .i64 2, .slice (some ⟨wG.heap.size, 0, none⟩) 1 1] vb4 fun e w' => ∃ A' c', e = .returned (.slice A' 2 c') ∧ w'.ownsRow vb4.heap.size 5 1 (.slice A' 2 c') 2 ((puts 2 [sq]).map bv) ∧ Below vb4.heap.size vb4 w' := rput_any 2 (.inr (.inl rfl)) _ 1 [sq] vb4 Lb4_4 (by simp)
        go_simp
        go_at_call 73; (with_reducible refine hP.mono ?_); rintro e vb4_1_5 ⟨P5, m5, rfl, Ob5_4_1_5, bb4_1_5⟩
        go_wp2_with fail
        have rb4_1_5 := rb4.below bb4_1_5
        clear hP
        clear hHeld
        refine hK.out _ _ (KSb.out _ rb4_1_5.x) (fun hHeld => ?_)
        clear hK K
        try simp only [Act.put, List.setIfInBounds_toArray, List.set_cons_zero, List.set_cons_succ]
        refine wpAnyH_ready (rs := [6]) (by kernel_rfl) (by simp) ?_
        refine AllReadyH.cons rfl (fun K hK => ?_) AllReadyH.nil
        refine wp_append_lies _ (.tmp 57) (.tmp 61) 24 rfl (w.heap.size) 5 _ 1 Tryz.underlying24 u8info rfl (.slice A5 6 c5) 6 ((puts 4 [tsn] ++ puts 2 [u32of st.toNat]).map bv) rfl (by first | exact rb4_1_5.own | simpa [puts_len] using rb4_1_5.own) vb4_1_5.heap.size P5 2 m5 ((puts 2 [sq]).map bv) rfl (by simp [puts_len]) (Lies.own Ob5_4_1_5) (by intro u hu; obtain ⟨_, _, rfl⟩ := List.mem_map.1 hu; rfl) (by omega) (by unfold maxLen; omega) rb4_1_5.low.size ?_
        intro A9 c9 w9 own9 gr9 _
        have k9 := rb4_1_5.kept rb4_1_5.own gr9
        obtain ⟨e0, e1, e2, e3⟩ := wh4 k9.2
        have f2 := k9.2.frozen 2
        clear hHeld
        refine hK.out _ _ (KSb.out _ k9.1) (fun hHeld => ?_)
        clear hK K
        try simp only [Act.put, List.setIfInBounds_toArray, List.set_cons_zero, List.set_cons_succ]
        refine take_at (i := 7) (v := ?_) (some 63) rfl (by kernel_rfl) (by kernel_rfl) (by kernel_rfl) (fun _ _ _ h => h) (by kernel_rfl) (Or.inl ⟨by kernel_rfl, ?_⟩) (by assumption) ?_
        rotate_left
        · (intro w hSw; (try dsimp only at hSw); go_simp <;> with_reducible rfl)
        simp only [Act.put, List.setIfInBounds_toArray, List.set_cons_zero, List.set_cons_succ]
        refine wpAnyH_ready (rs := [8]) (by kernel_rfl) (by simp) ?_
        refine AllReadyH.cons rfl (fun K hK => ?_) AllReadyH.nil
        go_simp
        have he : w9.ownsRow w.heap.size 5 1 (.slice A9 8 c9) (puts 4 [tsn] ++ puts 2 [u32of st.toNat] ++ puts 2 [sq]).length ((puts 4 [tsn] ++ puts 2 [u32of st.toNat] ++ puts 2 [sq]).map bv) := by
          have h9 := own_base own9 (Nat.le_refl _)
          rw [show (puts 4 [tsn] ++ puts 2 [u32of st.toNat] ++ puts 2 [sq]).length = 8 by simp [puts_len]]
          first | exact h9 | simpa [List.map_append, puts_len] using h9
        have rG := rb4_1_5.grow rb4_1_5.own (Nat.le_refl _) gr9 he
        clear hHeld
        refine hK.out _ _ (KSb.out _ rG.x) (fun hHeld => ?_)
        clear hK K
        try simp only [Act.put, List.setIfInBounds_toArray, List.set_cons_zero, List.set_cons_succ]
        refine wpAnyH_done (by kernel_rfl) ?_ _
        go_wp2_with fail
        go_meet
        case rel => exact ⟨A9, c9, rG⟩
      · have hP : Calls Tryz.prog 73 #[.int .i64 2, .slice (some ⟨wG.heap.size, 0, none⟩) 1 1] vb4 fun e w' => ∃ A' c', e = .returned (.slice A' 2 c') ∧ w'.ownsRow vb4.heap.size 5 1 (.slice A' 2 c') 2 ((puts 2 [sq]).map bv) ∧ Below vb4.heap.size vb4 w' := rput_any 2 (.inr (.inl rfl)) _ 1 [sq] vb4 Lb4_4 (by simp)
        go_simp
        go_at_call 73; (with_reducible refine hP.mono ?_); rintro e vb4_5 ⟨P5, m5, rfl, Ob5_4_5, bb4_5⟩
        go_wp2_with fail
        have rb4_5 := rb4.below bb4_5
        clear hP
        clear hHeld
        refine hK.out _ _ (KSb.out _ rb4_5.x) (fun hHeld => ?_)
        clear hK K
        try simp only [Act.put, List.setIfInBounds_toArray, List.set_cons_zero, List.set_cons_succ]
        refine wpAnyH_ready (rs := [1]) (by kernel_rfl) (by simp) ?_
        refine AllReadyH.cons rfl (fun K hK => ?_) AllReadyH.nil
        obtain ⟨k0, k1, k2, k3⟩ := wh4 rb4_5.z
        go_simp
        clear k0 k1 k2 k3
        clear hHeld
        refine hK.out _ _ (KSb.out _ rb4_5.x) (fun hHeld => ?_)
        clear hK K
        try simp only [Act.put, List.setIfInBounds_toArray, List.set_cons_zero, List.set_cons_succ]
        refine wpAnyH_ready (rs := [6]) (by kernel_rfl) (by simp) ?_
        refine AllReadyH.cons rfl (fun K hK => ?_) AllReadyH.nil
        refine wp_append_lies _ (.tmp 57) (.tmp 61) 24 rfl (w.heap.size) 5 _ 1 Tryz.underlying24 u8info rfl (.slice A5 6 c5) 6 ((puts 4 [tsn] ++ puts 2 [u32of st.toNat]).map bv) rfl (by first | exact rb4_5.own | simpa [puts_len] using rb4_5.own) vb4_5.heap.size P5 2 m5 ((puts 2 [sq]).map bv) rfl (by simp [puts_len]) (Lies.own Ob5_4_5) (by intro u hu; obtain ⟨_, _, rfl⟩ := List.mem_map.1 hu; rfl) (by omega) (by unfold maxLen; omega) rb4_5.low.size ?_
        intro A9 c9 w9 own9 gr9 _
        have k9 := rb4_5.kept rb4_5.own gr9
        obtain ⟨e0, e1, e2, e3⟩ := wh4 k9.2
        have f2 := k9.2.frozen 2
        clear hHeld
        refine hK.out _ _ (KSb.out _ k9.1) (fun hHeld => ?_)
        clear hK K
        try simp only [Act.put, List.setIfInBounds_toArray, List.set_cons_zero, List.set_cons_succ]
        refine take_at (i := 7) (v := ?_) (some 63) rfl (by kernel_rfl) (by kernel_rfl) (by kernel_rfl) (fun _ _ _ h => h) (by kernel_rfl) (Or.inl ⟨by kernel_rfl, ?_⟩) (by assumption) ?_
        rotate_left
        · (intro w hSw; (try dsimp only at hSw); go_simp <;> with_reducible rfl)
        simp only [Act.put, List.setIfInBounds_toArray, List.set_cons_zero, List.set_cons_succ]
        refine wpAnyH_ready (rs := [8]) (by kernel_rfl) (by simp) ?_
        refine AllReadyH.cons rfl (fun K hK => ?_) AllReadyH.nil
        go_simp
        have he : w9.ownsRow w.heap.size 5 1 (.slice A9 8 c9) (puts 4 [tsn] ++ puts 2 [u32of st.toNat] ++ puts 2 [sq]).length ((puts 4 [tsn] ++ puts 2 [u32of st.toNat] ++ puts 2 [sq]).map bv) := by
          have h9 := own_base own9 (Nat.le_refl _)
          rw [show (puts 4 [tsn] ++ puts 2 [u32of st.toNat] ++ puts 2 [sq]).length = 8 by simp [puts_len]]
          first | exact h9 | simpa [List.map_append, puts_len] using h9
        have rG := rb4_5.grow rb4_5.own (Nat.le_refl _) gr9 he
        clear hHeld
        refine hK.out _ _ (KSb.out _ rG.x) (fun hHeld => ?_)
        clear hK K
        try simp only [Act.put, List.setIfInBounds_toArray, List.set_cons_zero, List.set_cons_succ]
        refine wpAnyH_done (by kernel_rfl) ?_ _
        go_wp2_with fail
        go_meet
        case rel => exact ⟨A9, c9, rG⟩
  obtain ⟨A6, c6, r10⟩ := hcut
  generalize wc = wJ at *
  clear KSb r5
  have KSc : Hid (∀ W, Whole W w.heap.size 26 (ptCells ⟨false, tsn, st, sq, pr, bg, en, un, nw, us⟩ A c) → W.cell? ⟨w.heap.size, 4, none⟩ = some (uv pr)) := Lib.hid (fun W h => h.cs10.2.2.2.2.1)
  go_upto_region 16 with fail
  go_cut [] from 64 to 71 (fun wx => ∃ (A' : Option Addr) (c' : Nat), RM w ⟨false, tsn, st, sq, pr, bg, en, un, nw, us⟩ A c 0 f3 (puts 4 [tsn] ++ puts 2 [u32of st.toNat] ++ puts 2 [sq] ++ puts 4 [pr]) (.slice A' 12 c') wx)
  case first =>
    refine wp_region_held_drew (S := (fun W => W.cell? ⟨w.heap.size, 4, none⟩ = some (uv pr))) (by kernel_rfl) (KSc.out _ r10.x) (fun hHeld => ?_)
    refine take_at (i := 0) (v := ?_) (some 64) rfl (by kernel_rfl) (by kernel_rfl) (by kernel_rfl) (fun _ _ _ h => h) (by kernel_rfl) (Or.inl ⟨by kernel_rfl, ?_⟩) (by assumption) ?_
    rotate_left
    · (intro w hSw; (try dsimp only at hSw); go_simp <;> with_reducible rfl)
    simp only [Act.put, List.setIfInBounds_toArray, List.set_cons_zero, List.set_cons_succ]
    refine take_at (i := 2) (v := ?_) (some 66) rfl (by kernel_rfl) (by kernel_rfl) (by kernel_rfl) (fun _ _ _ h => h) (by kernel_rfl) (Or.inl ⟨by kernel_rfl, ?_⟩) (by assumption) ?_
    rotate_left
    · (intro w hSw; (try dsimp only at hSw); go_simp <;> with_reducible rfl)
    simp only [Act.put, List.setIfInBounds_toArray, List.set_cons_zero, List.set_cons_succ]
    refine take_at (i := 3) (v := ?_) (some 67) rfl (by kernel_rfl) (by kernel_rfl) (by kernel_rfl) (fun _ _ _ h => h) (by kernel_rfl) (Or.inl ⟨by kernel_rfl, ?_⟩) (by assumption) ?_
    rotate_left
    · (intro w hSw; (try dsimp only at hSw); go_simp <;> with_reducible rfl)
    simp only [Act.put, List.setIfInBounds_toArray, List.set_cons_zero, List.set_cons_succ]
    refine wpAnyH_ready (rs := [1, 4]) (by kernel_rfl) (by simp) ?_
    refine AllReadyH.cons rfl (fun K hK => ?_) (AllReadyH.cons rfl (fun K hK => ?_) AllReadyH.nil)
    · have rc1 := r10.below (below_drew (Below.refl wJ.heap.size wJ))
      obtain ⟨k0, k1, k2, k3⟩ := wh4 rc1.z
      go_simp
      clear k0 k1 k2 k3
      generalize wJ.drew = vc1 at *
      clear hHeld
      refine hK.out _ _ (KSc.out _ rc1.x) (fun hHeld => ?_)
      clear hK K
      try simp only [Act.put, List.setIfInBounds_toArray, List.set_cons_zero, List.set_cons_succ]
      refine wpAnyH_ready (rs := [4]) (by kernel_rfl) (by simp) ?_
      refine AllReadyH.cons rfl (fun K hK => ?_) AllReadyH.nil
      go_simp
      have bc1_4 : Below vc1.heap.size vc1 (vc1.alloc (.cells #[uv pr] 22)) := (Below.refl _ _).alloc (Nat.le_refl _) _
      have Lc4_1_4 : Lies (vc1.alloc (.cells #[uv pr] 22)) (vc1.alloc (.cells #[uv pr] 22)).heap.size (some ⟨vc1.heap.size, 0, none⟩) ([pr].map uv) := (lies_new vc1 [pr]).more (by simp)
      have rc1_4 := rc1.below bc1_4
      generalize (vc1.alloc (.cells #[uv pr] 22)) = vc1_4 at *
      clear hHeld
      refine hK.out _ _ (KSc.out _ rc1_4.x) (fun hHeld => ?_)
      clear hK K
      try simp only [Act.put, List.setIfInBounds_toArray, List.set_cons_zero, List.set_cons_succ]
      refine wpAnyH_ready (rs := [5]) (by kernel_rfl) (by simp) ?_
      refine AllReadyH.cons rfl (fun K hK => ?_) AllReadyH.nil
      have hP : Calls Tryz.prog 73 #[.int .i64 4, .slice (some ⟨vc1.heap.size, 0, none⟩) 1 1] vc1_4 fun e w' => ∃ A' c', e = .returned (.slice A' 4 c') ∧ w'.ownsRow vc1_4.heap.size 5 1 (.slice A' 4 c') 4 ((puts 4 [pr]).map bv) ∧ Below vc1_4.heap.size vc1_4 w' := rput_any 4 (.inr (.inr rfl)) _ 1 [pr] vc1_4 Lc4_1_4 (by simp)
      go_simp
      go_at_call 73; (with_reducible refine hP.mono ?_); rintro e vc1_4_5 ⟨P5, m5, rfl, Oc5_1_4_5, bc1_4_5⟩
      go_wp2_with fail
      have rc1_4_5 := rc1_4.below bc1_4_5
      clear hP
      clear hHeld
      refine hK.out _ _ (KSc.out _ rc1_4_5.x) (fun hHeld => ?_)
      clear hK K
      try simp only [Act.put, List.setIfInBounds_toArray, List.set_cons_zero, List.set_cons_succ]
      refine wpAnyH_ready (rs := [6]) (by kernel_rfl) (by simp) ?_
      refine AllReadyH.cons rfl (fun K hK => ?_) AllReadyH.nil
      refine wp_append_lies _ (.tmp 65) (.tmp 69) 24 rfl (w.heap.size) 5 _ 1 Tryz.underlying24 u8info rfl (.slice A6 8 c6) 8 ((puts 4 [tsn] ++ puts 2 [u32of st.toNat] ++ puts 2 [sq]).map bv) rfl (by first | exact rc1_4_5.own | simpa [puts_len] using rc1_4_5.own) vc1_4_5.heap.size P5 4 m5 ((puts 4 [pr]).map bv) rfl (by simp [puts_len]) (Lies.own Oc5_1_4_5) (by intro u hu; obtain ⟨_, _, rfl⟩ := List.mem_map.1 hu; rfl) (by omega) (by unfold maxLen; omega) rc1_4_5.low.size ?_
      intro A9 c9 w9 own9 gr9 _
      have k9 := rc1_4_5.kept rc1_4_5.own gr9
      obtain ⟨e0, e1, e2, e3⟩ := wh4 k9.2
      have f2 := k9.2.frozen 2
      clear hHeld
      refine hK.out _ _ (KSc.out _ k9.1) (fun hHeld => ?_)
      clear hK K
      try simp only [Act.put, List.setIfInBounds_toArray, List.set_cons_zero, List.set_cons_succ]
      refine take_at (i := 7) (v := ?_) (some 71) rfl (by kernel_rfl) (by kernel_rfl) (by kernel_rfl) (fun _ _ _ h => h) (by kernel_rfl) (Or.inl ⟨by kernel_rfl, ?_⟩) (by assumption) ?_
      rotate_left
      · (intro w hSw; (try dsimp only at hSw); go_simp <;> with_reducible rfl)
      simp only [Act.put, List.setIfInBounds_toArray, List.set_cons_zero, List.set_cons_succ]
      refine wpAnyH_ready (rs := [8]) (by kernel_rfl) (by simp) ?_
      refine AllReadyH.cons rfl (fun K hK => ?_) AllReadyH.nil
      go_simp
      have he : w9.ownsRow w.heap.size 5 1 (.slice A9 12 c9) (puts 4 [tsn] ++ puts 2 [u32of st.toNat] ++ puts 2 [sq] ++ puts 4 [pr]).length ((puts 4 [tsn] ++ puts 2 [u32of st.toNat] ++ puts 2 [sq] ++ puts 4 [pr]).map bv) := by
        have h9 := own_base own9 (Nat.le_refl _)
        rw [show (puts 4 [tsn] ++ puts 2 [u32of st.toNat] ++ puts 2 [sq] ++ puts 4 [pr]).length = 12 by simp [puts_len]]
        first | exact h9 | simpa [List.map_append, puts_len] using h9
      have rG := rc1_4_5.grow rc1_4_5.own (Nat.le_refl _) gr9 he
      clear hHeld
      refine hK.out _ _ (KSc.out _ rG.x) (fun hHeld => ?_)
      clear hK K
      try simp only [Act.put, List.setIfInBounds_toArray, List.set_cons_zero, List.set_cons_succ]
      refine wpAnyH_done (by kernel_rfl) ?_ _
      go_wp2_with fail
      go_meet
      case rel => exact ⟨A9, c9, rG⟩
    · go_simp
      have bc4 : Below wJ.heap.size wJ (wJ.alloc (.cells #[uv pr] 22)).drew := below_drew ((Below.refl _ _).alloc (Nat.le_refl _) _)
      have Lc4_4 : Lies (wJ.alloc (.cells #[uv pr] 22)).drew (wJ.alloc (.cells #[uv pr] 22)).drew.heap.size (some ⟨wJ.heap.size, 0, none⟩) ([pr].map uv) := ((lies_new wJ [pr]).below (below_drew (Below.refl _ _))).more (by show _ ≤ (wJ.alloc _).heap.size; simp)
      have rc4 := r10.below bc4
      generalize (wJ.alloc (.cells #[uv pr] 22)).drew = vc4 at *
      clear hHeld
      refine hK.out _ _ (KSc.out _ rc4.x) (fun hHeld => ?_)
      clear hK K
      try simp only [Act.put, List.setIfInBounds_toArray, List.set_cons_zero, List.set_cons_succ]
      refine wpAnyH_ready (rs := [1, 5]) (by kernel_rfl) (by simp) ?_
      refine AllReadyH.cons rfl (fun K hK => ?_) (AllReadyH.cons rfl (fun K hK => ?_) AllReadyH.nil)
      · obtain ⟨k0, k1, k2, k3⟩ := wh4 rc4.z
        go_simp
        clear k0 k1 k2 k3
        clear hHeld
        refine hK.out _ _ (KSc.out _ rc4.x) (fun hHeld => ?_)
        clear hK K
        try simp only [Act.put, List.setIfInBounds_toArray, List.set_cons_zero, List.set_cons_succ]
        refine wpAnyH_ready (rs := [5]) (by kernel_rfl) (by simp) ?_
        refine AllReadyH.cons rfl (fun K hK => ?_) AllReadyH.nil
        have hP : Calls Tryz.prog 73 #[.int .i64 4, .slice (some ⟨wJ.heap.size, 0, none⟩) 1 1] vc4 fun e w' => ∃ A' c', e = .returned (.slice A' 4 c') ∧ w'.ownsRow vc4.heap.size 5 1 (.slice A' 4 c') 4 ((puts 4 [pr]).map bv) ∧ Below vc4.heap.size vc4 w' := rput_any 4 (.inr (.inr rfl)) _ 1 [pr] vc4 Lc4_4 (by simp)
        go_simp
        go_at_call 73; (with_reducible refine hP.mono ?_); rintro e vc4_1_5 ⟨P5, m5, rfl, Oc5_4_1_5, bc4_1_5⟩
        go_wp2_with fail
        have rc4_1_5 := rc4.below bc4_1_5
        clear hP
        clear hHeld
        refine hK.out _ _ (KSc.out _ rc4_1_5.x) (fun hHeld => ?_)
        clear hK K
        try simp only [Act.put, List.setIfInBounds_toArray, List.set_cons_zero, List.set_cons_succ]
        refine wpAnyH_ready (rs := [6]) (by kernel_rfl) (by simp) ?_
        refine AllReadyH.cons rfl (fun K hK => ?_) AllReadyH.nil
        refine wp_append_lies _ (.tmp 65) (.tmp 69) 24 rfl (w.heap.size) 5 _ 1 Tryz.underlying24 u8info rfl (.slice A6 8 c6) 8 ((puts 4 [tsn] ++ puts 2 [u32of st.toNat] ++ puts 2 [sq]).map bv) rfl (by first | exact rc4_1_5.own | simpa [puts_len] using rc4_1_5.own) vc4_1_5.heap.size P5 4 m5 ((puts 4 [pr]).map bv) rfl (by simp [puts_len]) (Lies.own Oc5_4_1_5) (by intro u hu; obtain ⟨_, _, rfl⟩ := List.mem_map.1 hu; rfl) (by omega) (by unfold maxLen; omega) rc4_1_5.low.size ?_
        intro A9 c9 w9 own9 gr9 _
        have k9 := rc4_1_5.kept rc4_1_5.own gr9
        obtain ⟨e0, e1, e2, e3⟩ := wh4 k9.2
        have f2 := k9.2.frozen 2
        clear hHeld
        refine hK.out _ _ (KSc.out _ k9.1) (fun hHeld => ?_)
        clear hK K
        try simp only [Act.put, List.setIfInBounds_toArray, List.set_cons_zero, List.set_cons_succ]
        refine take_at (i := 7) (v := ?_) (some 71) rfl (by kernel_rfl) (by kernel_rfl) (by kernel_rfl) (fun _ _ _ h => h) (by kernel_rfl) (Or.inl ⟨by kernel_rfl, ?_⟩) (by assumption) ?_
        rotate_left
        · (intro w hSw; (try dsimp only at hSw); go_simp <;> with_reducible rfl)
        simp only [Act.put, List.setIfInBounds_toArray, List.set_cons_zero, List.set_cons_succ]
        refine wpAnyH_ready (rs := [8]) (by kernel_rfl) (by simp) ?_
        refine AllReadyH.cons rfl (fun K hK => ?_) AllReadyH.nil
        go_simp
        have he : w9.ownsRow w.heap.size 5 1 (.slice A9 12 c9) (puts 4 [tsn] ++ puts 2 [u32of st.toNat] ++ puts 2 [sq] ++ puts 4 [pr]).length ((puts 4 [tsn] ++ puts 2 [u32of st.toNat] ++ puts 2 [sq] ++ puts 4 [pr]).map bv) := by
          have h9 := own_base own9 (Nat.le_refl _)
          rw [show (puts 4 [tsn] ++ puts 2 [u32of st.toNat] ++ puts 2 [sq] ++ puts 4 [pr]).length = 12 by simp [puts_len]]
          first | exact h9 | simpa [List.map_append, puts_len] using h9
        have rG := rc4_1_5.grow rc4_1_5.own (Nat.le_refl _) gr9 he
        clear hHeld
        refine hK.out _ _ (KSc.out _ rG.x) (fun hHeld => ?_)
        clear hK K
        try simp only [Act.put, List.setIfInBounds_toArray, List.set_cons_zero, List.set_cons_succ]
        refine wpAnyH_done (by kernel_rfl) ?_ _
        go_wp2_with fail
        go_meet
        case rel => exact ⟨A9, c9, rG⟩
      · have hP : Calls Tryz.prog 73 #[.int .i64 4, .slice (some ⟨wJ.heap.size, 0, none⟩) 1 1] vc4 fun e w' => ∃ A' c', e = .returned (.slice A' 4 c') ∧ w'.ownsRow vc4.heap.size 5 1 (.slice A' 4 c') 4 ((puts 4 [pr]).map bv) ∧ Below vc4.heap.size vc4 w' := rput_any 4 (.inr (.inr rfl)) _ 1 [pr] vc4 Lc4_4 (by simp)
        go_simp
        go_at_call 73; (with_reducible refine hP.mono ?_); rintro e vc4_5 ⟨P5, m5, rfl, Oc5_4_5, bc4_5⟩
        go_wp2_with fail
        have rc4_5 := rc4.below bc4_5
        clear hP
        clear hHeld
        refine hK.out _ _ (KSc.out _ rc4_5.x) (fun hHeld => ?_)
        clear hK K
        try simp only [Act.put, List.setIfInBounds_toArray, List.set_cons_zero, List.set_cons_succ]
        refine wpAnyH_ready (rs := [1]) (by kernel_rfl) (by simp) ?_
        refine AllReadyH.cons rfl (fun K hK => ?_) AllReadyH.nil
        obtain ⟨k0, k1, k2, k3⟩ := wh4 rc4_5.z
        go_simp
        clear k0 k1 k2 k3
        clear hHeld
        refine hK.out _ _ (KSc.out _ rc4_5.x) (fun hHeld => ?_)
        clear hK K
        try simp only [Act.put, List.setIfInBounds_toArray, List.set_cons_zero, List.set_cons_succ]
        refine wpAnyH_ready (rs := [6]) (by kernel_rfl) (by simp) ?_
        refine AllReadyH.cons rfl (fun K hK => ?_) AllReadyH.nil
        refine wp_append_lies _ (.tmp 65) (.tmp 69) 24 rfl (w.heap.size) 5 _ 1 Tryz.underlying24 u8info rfl (.slice A6 8 c6) 8 ((puts 4 [tsn] ++ puts 2 [u32of st.toNat] ++ puts 2 [sq]).map bv) rfl (by first | exact rc4_5.own | simpa [puts_len] using rc4_5.own) vc4_5.heap.size P5 4 m5 ((puts 4 [pr]).map bv) rfl (by simp [puts_len]) (Lies.own Oc5_4_5) (by intro u hu; obtain ⟨_, _, rfl⟩ := List.mem_map.1 hu; rfl) (by omega) (by unfold maxLen; omega) rc4_5.low.size ?_
        intro A9 c9 w9 own9 gr9 _
        have k9 := rc4_5.kept rc4_5.own gr9
        obtain ⟨e0, e1, e2, e3⟩ := wh4 k9.2
        have f2 := k9.2.frozen 2
        clear hHeld
        refine hK.out _ _ (KSc.out _ k9.1) (fun hHeld => ?_)
        clear hK K
        try simp only [Act.put, List.setIfInBounds_toArray, List.set_cons_zero, List.set_cons_succ]
        refine take_at (i := 7) (v := ?_) (some 71) rfl (by kernel_rfl) (by kernel_rfl) (by kernel_rfl) (fun _ _ _ h => h) (by kernel_rfl) (Or.inl ⟨by kernel_rfl, ?_⟩) (by assumption) ?_
        rotate_left
        · (intro w hSw; (try dsimp only at hSw); go_simp <;> with_reducible rfl)
        simp only [Act.put, List.setIfInBounds_toArray, List.set_cons_zero, List.set_cons_succ]
        refine wpAnyH_ready (rs := [8]) (by kernel_rfl) (by simp) ?_
        refine AllReadyH.cons rfl (fun K hK => ?_) AllReadyH.nil
        go_simp
        have he : w9.ownsRow w.heap.size 5 1 (.slice A9 12 c9) (puts 4 [tsn] ++ puts 2 [u32of st.toNat] ++ puts 2 [sq] ++ puts 4 [pr]).length ((puts 4 [tsn] ++ puts 2 [u32of st.toNat] ++ puts 2 [sq] ++ puts 4 [pr]).map bv) := by
          have h9 := own_base own9 (Nat.le_refl _)
          rw [show (puts 4 [tsn] ++ puts 2 [u32of st.toNat] ++ puts 2 [sq] ++ puts 4 [pr]).length = 12 by simp [puts_len]]
          first | exact h9 | simpa [List.map_append, puts_len] using h9
        have rG := rc4_5.grow rc4_5.own (Nat.le_refl _) gr9 he
        clear hHeld
        refine hK.out _ _ (KSc.out _ rG.x) (fun hHeld => ?_)
        clear hK K
        try simp only [Act.put, List.setIfInBounds_toArray, List.set_cons_zero, List.set_cons_succ]
        refine wpAnyH_done (by kernel_rfl) ?_ _
        go_wp2_with fail
        go_meet
        case rel => exact ⟨A9, c9, rG⟩
  obtain ⟨A7, c7, r11⟩ := hcut
  generalize wc = wK at *
  clear KSc r10
  go_upto_region 17 with fail
  obtain ⟨z0, z1, z2, z3⟩ := wh4 r11.z
  have q9 := r11.x.cs10.2.2.2.2.2.2.2.2.2
  have hsz11 := r11.low.size
  have hlie := (HL.out wK r11.low).data
  have hown11 : wK.ownsRow w.heap.size 5 1 (.slice A7 12 c7) 12 ((puts 4 [tsn] ++ puts 2 [u32of st.toNat] ++ puts 2 [sq] ++ puts 4 [pr]).map bv) := by
    have h9 := r11.own
    rw [show (puts 4 [tsn] ++ puts 2 [u32of st.toNat] ++ puts 2 [sq] ++ puts 4 [pr]).length = 12 by simp [puts_len]] at h9
    exact h9
  simp only at hlie q9
  go_upto_region 18 with (at_builtin; refine wpList_append_lies _ rfl (.tmp 73) (.tmp 75) 24 rfl w.heap.size 5 _ 1 Tryz.underlying24 u8info rfl _ _ _ rfl hown11 _ _ us.length c (us.map bv) rfl (by simp) hlie (by intro u hu; obtain ⟨_, _, rfl⟩ := List.mem_map.1 hu; rfl) (by omega) (by unfold maxLen; omega) hsz11 ?_; intro A9 c9 w9 own9 gr9 _; have k9 := r11.kept hown11 gr9; obtain ⟨e0, e1, e2, e3⟩ := wh4 k9.2; have f2 := k9.2.frozen 2)
  have he : w9.ownsRow w.heap.size 5 1 (.slice A9 (12 + us.length) c9) (puts 4 [tsn] ++ puts 2 [u32of st.toNat] ++ puts 2 [sq] ++ puts 4 [pr] ++ us).length ((puts 4 [tsn] ++ puts 2 [u32of st.toNat] ++ puts 2 [sq] ++ puts 4 [pr] ++ us).map bv) := by
    rw [show (puts 4 [tsn] ++ puts 2 [u32of st.toNat] ++ puts 2 [sq] ++ puts 4 [pr] ++ us).length = 12 + us.length by simp [puts_len]; omega]
    rw [List.map_append]
    exact own9
  have r12 := r11.grow hown11 (Nat.le_refl _) gr9 he
  generalize w9.setCell ⟨w.heap.size + 1 + 1, 2, none⟩ (.slice A9 (12 + us.length) c9) = wL at *
  clear e0 e1 e2 e3 f2 k9 gr9 own9 he r11 hown11 hsz11 z0 z1 z2 z3 hlie q9
  obtain ⟨z0, z1, z2, z3⟩ := wh4 r12.z
  have y12 := r12.y
  go_wp2_with (first | (refine wpList_store_row rfl 31 _ _ rfl (w.heap.size + 1) #[.int .u8 0, .int .u8 f3, .slice A9 (12 + us.length) c9, .slice none 0 0] rfl rfl _ _ y12 (by kernel_rfl) rfl (by simp [Value.oneCell']) ?_) | fail)
  (try simp only [Exit.inBlock, Exit.then])
  refine bodyPost_ret (results_row13 rfl _ _ (w.heap.size + 1) 31 _ _ rfl (y12.setRow _) Tryz.underlying31 rfl (by kernel_rfl)) rfl ?_
  have hfl : Value.int .u8 f3 = bv (flP ⟨false, tsn, st, sq, pr, bg, en, un, nw, us⟩) := by
    rw [HF3.out, HF2.out, HF1.out, HF0.out]
    exact flP_sum bg en un nw
  have hdt : datB ⟨false, tsn, st, sq, pr, bg, en, un, nw, us⟩ = puts 4 [tsn] ++ puts 2 [u32of st.toNat] ++ puts 2 [sq] ++ puts 4 [pr] ++ us := by
    unfold datB
    simp [puts]
  have hln : (puts 4 [tsn] ++ puts 2 [u32of st.toNat] ++ puts 2 [sq] ++ puts 4 [pr] ++ us).length = 12 + us.length := by simp [puts_len]; omega
  have hown := r12.own
  rw [hln] at hown
  refine ⟨A9, c9, 12 + us.length, by rw [← hfl]; rfl, by rw [hdt, hln], ?_, below_setRow r12.low (Nat.le_succ _) _⟩
  rw [hdt]
  exact own_setRowM hown y12 (by decide) _
theorem rmake13_any (p : Pt) (hus : p.us.length ≤ 1000000) (A : Option Addr) (c : Nat) (w : World) (hp : PtL w w.heap.size A c p) :
    Calls Tryz.prog 22 #[ptV p A c] w fun e w' => ∃ A' c' n, e = .returned (.agg #[bv (tyB p), bv (flP p), .slice A' n c', .slice none 0 0]) ∧ n = (datB p).length ∧ w'.ownsRow w.heap.size 5 1 (.slice A' n c') n ((datB p).map bv) ∧ Below w.heap.size w w' := by
  obtain ⟨inter, tsn, st, sq, pr, bg, en, un, nw, us⟩ := p
  cases inter
  · exact rmake_false tsn st sq pr bg en un nw us hus A c w hp
  · exact rmake_true tsn st sq pr bg en un nw us hus A c w hp
end Go.Proofs.YtdcppcoldaaldaaGreatDoor

