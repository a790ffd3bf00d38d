/- Layer 13: the reference's Of. It writes nothing that was there. -/
import Derived.Test.YtgjmgphmakiffaaGreatDoorQDataM
import Derived.Test.YtgjmgphmakiffaaGreatDoorQDataT
import Derived.Test.YtgjmgphmakiffaaGreatDoorQRefNS
import Derived.Test.YtgjmgphmakiffaaGreatDoorQDataD
import Derived.BigGuard
import Derived.Deep.Cut






namespace Go.Proofs.YtgjmgphmakiffaaGreatDoor
open Go.RowKit

set_option linter.unusedSimpArgs false
theorem results_row13 {P : Program} {fn : Func} {p : Tmp} {ty : TypeId} (h : fn.results = #[.cell p ty]) (tmps : Array Value) (w : World) (g : Nat) (t : TypeId) (cs : Array Value) (d : TypeDesc)
    (hp : tmps.getD p undef = .pointer (some ⟨g, 0, none⟩)) (hg : Whole w g t cs)
    (hu : P.underlying ty = some d) (hd : (match d with | .struct _ | .array _ _ => true | _ => false) = true) (hi : (P.info? ty).map (·.size) = some cs.size) :
    (results fn tmps).run P w = .ok (.agg cs) w := by
  have hp' : tmps[p]?.getD undef = .pointer (some ⟨g, 0, none⟩) := by simpa using hp
  simp only [results, h]
  simp [hp', asAddr, run_loadVar_row w g t ty cs (0, 0) d hg hu hd hi]
theorem num13 (A : Option Addr) (c : Nat) (d : List UInt8) (p k : Nat) (w : World) (h : Lies w w.heap.size A (d.map bv)) (hm : d.length ≤ 1000000) (hw : widthB k = true) (hk : p + k ≤ d.length) :
    Calls Tryz.prog 78 #[.slice A d.length c, .int .i64 (p : Int), .int .i64 (k : Int)] w fun e w' => e = .returned (.tuple #[uv (nrd d p k), .bool true]) ∧ w = w' := by
  have h1 := rnumber_yes A c w.heap.size d p k w h (by omega) hw hk
  rw [← nrd_toNat] at h1
  exact h1
theorem fbit (fl : UInt8) : (((fl.toNat : Int) % 2 == 1) = decide (fl.toNat % 2 = 1)) ∧ (((fl.toNat : Int) / 2 % 2 == 1) = decide (fl.toNat / 2 % 2 = 1)) ∧ (((fl.toNat : Int) / 4 % 2 == 1) = decide (fl.toNat / 4 % 2 = 1)) ∧ (((fl.toNat : Int) / 8 % 2 == 1) = decide (fl.toNat / 8 % 2 = 1)) := by
  refine ⟨?_, ?_, ?_, ?_⟩ <;> (rw [Bool.eq_iff_iff, beq_iff_eq, decide_eq_true_eq]; omega)
set_option maxRecDepth 100000 in
set_option maxHeartbeats 8000000 in
theorem rof13_64 (fl : UInt8) (d : List UInt8) (hl : 17 ≤ d.length) (hm : d.length ≤ 1000000) (A : Option Addr) (c : Nat) (K : Option Addr) (k : Nat) (w : World) (hC : Chunk w w.heap.size A c K k ⟨64, fl, d, []⟩) :
    Calls Tryz.prog 24 #[.agg #[.int .u8 64, bv fl, .slice A d.length c, .slice K 0 k]] w fun e w' => Below w.heap.size w w' ∧ ∃ A' c', e = .returned (ptV (ptOf ⟨64, fl, d, []⟩) A' c') ∧ PtL w' w'.heap.size A' c' (ptOf ⟨64, fl, d, []⟩) := by
  have hLd := hC.data
  simp only at hLd
  have hdc := hC.dc
  have hdm := hC.dm
  simp only at hdc
  have hflt := fl.toNat_lt
  have b0 : Below w.heap.size w ((w.alloc (.cells #[.int .u8 64, bv fl, .slice A d.length c, .slice K 0 k] 31)).alloc (.cells #[.bool false, .int .u32 0, .int .u16 0, .int .u32 0, .int .u32 0, .bool false, .bool false, .bool false, .bool false, .slice none 0 0] 26)) := ((Below.refl _ w).alloc (Nat.le_refl _) _).alloc (by simp) _
  have x0 := (Whole.new w 31 #[.int .u8 64, bv fl, .slice A d.length c, .slice K 0 k]).alloc (.cells #[.bool false, .int .u32 0, .int .u16 0, .int .u32 0, .int .u32 0, .bool false, .bool false, .bool false, .bool false, .slice none 0 0] 26)
  have y0 := Whole.new (w.alloc (.cells #[.int .u8 64, bv fl, .slice A d.length c, .slice K 0 k] 31)) 26 #[.bool false, .int .u32 0, .int .u16 0, .int .u32 0, .int .u32 0, .bool false, .bool false, .bool false, .bool false, .slice none 0 0]
  rw [World.size_alloc] at y0
  have hs0 : w.heap.size + 2 ≤ ((w.alloc (.cells #[.int .u8 64, bv fl, .slice A d.length c, .slice K 0 k] 31)).alloc (.cells #[.bool false, .int .u32 0, .int .u16 0, .int .u32 0, .int .u32 0, .bool false, .bool false, .bool false, .bool false, .slice none 0 0] 26)).heap.size := by simp
  go_enter Tryz.func24, Tryz.ntmps24
  go_upto_region 1 with fail
  generalize (w.alloc (.cells #[.int .u8 64, bv fl, .slice A d.length c, .slice K 0 k] 31)).alloc (.cells #[.bool false, .int .u32 0, .int .u16 0, .int .u32 0, .int .u32 0, .bool false, .bool false, .bool false, .bool false, .slice none 0 0] 26) = w1 at *
  obtain ⟨q0, q1, q2, q3⟩ := wh4 x0
  go_upto_region 3 with fail
  clear q0 q1
  have b2 := b0.alloc b0.size (.cells #[.bool true, .int .u32 0, .int .u16 0, .int .u32 0, .int .u32 0, .bool ((fl.toNat : Int) / 2 % 2 == 1), .bool ((fl.toNat : Int) % 2 == 1), .bool ((fl.toNat : Int) / 4 % 2 == 1), .bool ((fl.toNat : Int) / 8 % 2 == 1), .slice none 0 0] 26)
  have xP0 := Whole.new w1 26 #[.bool true, .int .u32 0, .int .u16 0, .int .u32 0, .int .u32 0, .bool ((fl.toNat : Int) / 2 % 2 == 1), .bool ((fl.toNat : Int) % 2 == 1), .bool ((fl.toNat : Int) / 4 % 2 == 1), .bool ((fl.toNat : Int) / 8 % 2 == 1), .slice none 0 0]
  have x2 := x0.alloc (.cells #[.bool true, .int .u32 0, .int .u16 0, .int .u32 0, .int .u32 0, .bool ((fl.toNat : Int) / 2 % 2 == 1), .bool ((fl.toNat : Int) % 2 == 1), .bool ((fl.toNat : Int) / 4 % 2 == 1), .bool ((fl.toNat : Int) / 8 % 2 == 1), .slice none 0 0] 26)
  have y2 := y0.alloc (.cells #[.bool true, .int .u32 0, .int .u16 0, .int .u32 0, .int .u32 0, .bool ((fl.toNat : Int) / 2 % 2 == 1), .bool ((fl.toNat : Int) % 2 == 1), .bool ((fl.toNat : Int) / 4 % 2 == 1), .bool ((fl.toNat : Int) / 8 % 2 == 1), .slice none 0 0] 26)
  generalize w1.alloc (.cells #[.bool true, .int .u32 0, .int .u16 0, .int .u32 0, .int .u32 0, .bool ((fl.toNat : Int) / 2 % 2 == 1), .bool ((fl.toNat : Int) % 2 == 1), .bool ((fl.toNat : Int) / 4 % 2 == 1), .bool ((fl.toNat : Int) / 8 % 2 == 1), .slice none 0 0] 26) = w2 at *
  have hg : w.heap.size + 2 ≤ w1.heap.size := hs0
  generalize w1.heap.size = g at *
  rw [(fbit fl).1, (fbit fl).2.1, (fbit fl).2.2.1, (fbit fl).2.2.2] at xP0
  clear x0 y0 b0 hs0 q2 q3
  have L1 : Lies w2 w2.heap.size A (d.map bv) := (hLd.below b2).more b2.size
  have N1 : Calls Tryz.prog 78 #[.slice A d.length c, .int .i64 0, .int .i64 4] w2 fun e w' => e = .returned (.tuple #[uv (nrd d 0 4), .bool true]) ∧ w2 = w' := num13 A c d 0 4 w2 L1 hm rfl (by omega)
  obtain ⟨_, _, r2, _⟩ := wh4 x2
  obtain ⟨m0, m1, m2, m3, m4, m5, m6, m7, m8, m9⟩ := xP0.cs10
  have f1 := xP0.frozen 1
  go_wp2_with fail
  refine N1.mono ?_
  rintro e w' ⟨rfl, rfl⟩
  go_upto_region 4 with fail
  have bv1 := b2.setCell (p := ⟨g, 1, none⟩) (show w.heap.size ≤ g by omega) (uv (nrd d 0 4))
  have xv1 := x2.below ((Below.refl g w2).setCell (p := ⟨g, 1, none⟩) (Nat.le_refl g) (uv (nrd d 0 4))) (by omega)
  have yv1 := y2.below ((Below.refl g w2).setCell (p := ⟨g, 1, none⟩) (Nat.le_refl g) (uv (nrd d 0 4))) (by omega)
  have Pv1 : Whole (w2.setCell ⟨g, 1, none⟩ (uv (nrd d 0 4))) g 26 #[.bool true, uv (nrd d 0 4), .int .u16 0, .int .u32 0, .int .u32 0, .bool (decide (fl.toNat / 2 % 2 = 1)), .bool (decide (fl.toNat % 2 = 1)), .bool (decide (fl.toNat / 4 % 2 = 1)), .bool (decide (fl.toNat / 8 % 2 = 1)), .slice none 0 0] := xP0.set_ 1 _
  generalize w2.setCell ⟨g, 1, none⟩ (uv (nrd d 0 4)) = v1 at *
  clear b2 x2 y2 xP0 L1 N1 r2 m0 m1 m2 m3 m4 m5 m6 m7 m8 m9 f1
  have L2 : Lies v1 v1.heap.size A (d.map bv) := (hLd.below bv1).more bv1.size
  have N2 : Calls Tryz.prog 78 #[.slice A d.length c, .int .i64 4, .int .i64 2] v1 fun e w' => e = .returned (.tuple #[uv (nrd d 4 2), .bool true]) ∧ v1 = w' := num13 A c d 4 2 v1 L2 hm rfl (by omega)
  obtain ⟨_, _, r2, _⟩ := wh4 xv1
  obtain ⟨m0, m1, m2, m3, m4, m5, m6, m7, m8, m9⟩ := Pv1.cs10
  have f2 := Pv1.frozen 2
  go_wp2_with fail
  refine N2.mono ?_
  rintro e w' ⟨rfl, rfl⟩
  go_upto_region 6 with fail
  have bvs := bv1.setCell (p := ⟨g, 2, none⟩) (show w.heap.size ≤ g by omega) (.int .u16 (IntKind.u16.wrap ((nrd d 4 2).toNat : Int)))
  have xvs := xv1.below ((Below.refl g v1).setCell (p := ⟨g, 2, none⟩) (Nat.le_refl g) (.int .u16 (IntKind.u16.wrap ((nrd d 4 2).toNat : Int)))) (by omega)
  have yvs := yv1.below ((Below.refl g v1).setCell (p := ⟨g, 2, none⟩) (Nat.le_refl g) (.int .u16 (IntKind.u16.wrap ((nrd d 4 2).toNat : Int)))) (by omega)
  have Pvs : Whole (v1.setCell ⟨g, 2, none⟩ (.int .u16 (IntKind.u16.wrap ((nrd d 4 2).toNat : Int)))) g 26 #[.bool true, uv (nrd d 0 4), .int .u16 (IntKind.u16.wrap ((nrd d 4 2).toNat : Int)), .int .u32 0, .int .u32 0, .bool (decide (fl.toNat / 2 % 2 = 1)), .bool (decide (fl.toNat % 2 = 1)), .bool (decide (fl.toNat / 4 % 2 = 1)), .bool (decide (fl.toNat / 8 % 2 = 1)), .slice none 0 0] := Pv1.set_ 2 _
  generalize v1.setCell ⟨g, 2, none⟩ (.int .u16 (IntKind.u16.wrap ((nrd d 4 2).toNat : Int))) = vs at *
  clear bv1 xv1 yv1 Pv1 L2 N2 r2 m0 m1 m2 m3 m4 m5 m6 m7 m8 m9 f2
  have L3 : Lies vs vs.heap.size A (d.map bv) := (hLd.below bvs).more bvs.size
  have N3 : Calls Tryz.prog 78 #[.slice A d.length c, .int .i64 8, .int .i64 4] vs fun e w' => e = .returned (.tuple #[uv (nrd d 8 4), .bool true]) ∧ vs = w' := num13 A c d 8 4 vs L3 hm rfl (by omega)
  obtain ⟨_, _, r2, _⟩ := wh4 xvs
  obtain ⟨m0, m1, m2, m3, m4, m5, m6, m7, m8, m9⟩ := Pvs.cs10
  have f3 := Pvs.frozen 3
  go_wp2_with fail
  refine N3.mono ?_
  rintro e w' ⟨rfl, rfl⟩
  go_upto_region 9 with fail
  have bv3 := bvs.setCell (p := ⟨g, 3, none⟩) (show w.heap.size ≤ g by omega) (uv (nrd d 8 4))
  have xv3 := xvs.below ((Below.refl g vs).setCell (p := ⟨g, 3, none⟩) (Nat.le_refl g) (uv (nrd d 8 4))) (by omega)
  have yv3 := yvs.below ((Below.refl g vs).setCell (p := ⟨g, 3, none⟩) (Nat.le_refl g) (uv (nrd d 8 4))) (by omega)
  have Pv3 : Whole (vs.setCell ⟨g, 3, none⟩ (uv (nrd d 8 4))) g 26 #[.bool true, uv (nrd d 0 4), .int .u16 (IntKind.u16.wrap ((nrd d 4 2).toNat : Int)), uv (nrd d 8 4), .int .u32 0, .bool (decide (fl.toNat / 2 % 2 = 1)), .bool (decide (fl.toNat % 2 = 1)), .bool (decide (fl.toNat / 4 % 2 = 1)), .bool (decide (fl.toNat / 8 % 2 = 1)), .slice none 0 0] := Pvs.set_ 3 _
  generalize vs.setCell ⟨g, 3, none⟩ (uv (nrd d 8 4)) = v3 at *
  clear bvs xvs yvs Pvs L3 N3 r2 m0 m1 m2 m3 m4 m5 m6 m7 m8 m9 f3
  have L4 : Lies v3 v3.heap.size A (d.map bv) := (hLd.below bv3).more bv3.size
  have N4 : Calls Tryz.prog 78 #[.slice A d.length c, .int .i64 12, .int .i64 4] v3 fun e w' => e = .returned (.tuple #[uv (nrd d 12 4), .bool true]) ∧ v3 = w' := num13 A c d 12 4 v3 L4 hm rfl (by omega)
  obtain ⟨_, _, r2, _⟩ := wh4 xv3
  obtain ⟨m0, m1, m2, m3, m4, m5, m6, m7, m8, m9⟩ := Pv3.cs10
  have f4 := Pv3.frozen 4
  go_wp2_with fail
  refine N4.mono ?_
  rintro e w' ⟨rfl, rfl⟩
  go_upto_region 12 with fail
  have bv4 := bv3.setCell (p := ⟨g, 4, none⟩) (show w.heap.size ≤ g by omega) (uv (nrd d 12 4))
  have xv4 := xv3.below ((Below.refl g v3).setCell (p := ⟨g, 4, none⟩) (Nat.le_refl g) (uv (nrd d 12 4))) (by omega)
  have yv4 := yv3.below ((Below.refl g v3).setCell (p := ⟨g, 4, none⟩) (Nat.le_refl g) (uv (nrd d 12 4))) (by omega)
  have Pv4 : Whole (v3.setCell ⟨g, 4, none⟩ (uv (nrd d 12 4))) g 26 #[.bool true, uv (nrd d 0 4), .int .u16 (IntKind.u16.wrap ((nrd d 4 2).toNat : Int)), uv (nrd d 8 4), uv (nrd d 12 4), .bool (decide (fl.toNat / 2 % 2 = 1)), .bool (decide (fl.toNat % 2 = 1)), .bool (decide (fl.toNat / 4 % 2 = 1)), .bool (decide (fl.toNat / 8 % 2 = 1)), .slice none 0 0] := Pv3.set_ 4 _
  generalize v3.setCell ⟨g, 4, none⟩ (uv (nrd d 12 4)) = v4 at *
  clear bv3 xv3 yv3 Pv3 L4 N4 r2 m0 m1 m2 m3 m4 m5 m6 m7 m8 m9 f4
  have hne : d.map bv ≠ [] := by intro e; have := congrArg List.length e; rw [List.length_map] at this; simp at this; rw [this] at hl; simp at hl
  have hLd0 := hLd
  obtain ⟨ad, rfl, hadb, hcell⟩ := hLd hne
  have hc1 : (16 : Int) ≤ (d.length : Int) := by omega
  have hc2 : (16 : Int) ≤ (c : Int) := by omega
  have hc3 : (d.length : Int) ≤ (c : Int) := by omega
  have hc4 : ¬ (c = 16) := by omega
  have hc5 : 16 ≤ d.length := by omega
  have hc6 : 16 ≤ c := by omega
  obtain ⟨_, _, r2, _⟩ := wh4 xv4
  obtain ⟨m0, m1, m2, m3, m4, m5, m6, m7, m8, m9⟩ := Pv4.cs10
  have f9 := Pv4.frozen 9
  go_upto_region 13 with fail
  have bvq := bv4.setCell (p := ⟨g, 9, none⟩) (show w.heap.size ≤ g by omega) (.slice (some ⟨ad.block, ad.off + 16, none⟩) (d.length - 16) (c - 16))
  have xvq := xv4.below ((Below.refl g v4).setCell (p := ⟨g, 9, none⟩) (Nat.le_refl g) (.slice (some ⟨ad.block, ad.off + 16, none⟩) (d.length - 16) (c - 16))) (by omega)
  have yvq := yv4.below ((Below.refl g v4).setCell (p := ⟨g, 9, none⟩) (Nat.le_refl g) (.slice (some ⟨ad.block, ad.off + 16, none⟩) (d.length - 16) (c - 16))) (by omega)
  have Pvq : Whole (v4.setCell ⟨g, 9, none⟩ (.slice (some ⟨ad.block, ad.off + 16, none⟩) (d.length - 16) (c - 16))) g 26 #[.bool true, uv (nrd d 0 4), .int .u16 (IntKind.u16.wrap ((nrd d 4 2).toNat : Int)), uv (nrd d 8 4), uv (nrd d 12 4), .bool (decide (fl.toNat / 2 % 2 = 1)), .bool (decide (fl.toNat % 2 = 1)), .bool (decide (fl.toNat / 4 % 2 = 1)), .bool (decide (fl.toNat / 8 % 2 = 1)), .slice (some ⟨ad.block, ad.off + 16, none⟩) (d.length - 16) (c - 16)] := Pv4.set_ 9 _
  generalize v4.setCell ⟨g, 9, none⟩ (.slice (some ⟨ad.block, ad.off + 16, none⟩) (d.length - 16) (c - 16)) = vq at *
  clear bv4 xv4 yv4 Pv4 r2 m0 m1 m2 m3 m4 m5 m6 m7 m8 m9 f9
  go_wp2_with (first | (refine wpList_load_row rfl 26 _ rfl g rfl 26 #[.bool true, uv (nrd d 0 4), .int .u16 (IntKind.u16.wrap ((nrd d 4 2).toNat : Int)), uv (nrd d 8 4), uv (nrd d 12 4), .bool (decide (fl.toNat / 2 % 2 = 1)), .bool (decide (fl.toNat % 2 = 1)), .bool (decide (fl.toNat / 4 % 2 = 1)), .bool (decide (fl.toNat / 8 % 2 = 1)), .slice (some ⟨ad.block, ad.off + 16, none⟩) (d.length - 16) (c - 16)] (0, 0) _ Pvq Tryz.underlying26 rfl (by kernel_rfl) ?_) | (refine wpList_store_row rfl 26 _ _ rfl (w.heap.size + 1) #[.bool true, uv (nrd d 0 4), .int .u16 (IntKind.u16.wrap ((nrd d 4 2).toNat : Int)), uv (nrd d 8 4), uv (nrd d 12 4), .bool (decide (fl.toNat / 2 % 2 = 1)), .bool (decide (fl.toNat % 2 = 1)), .bool (decide (fl.toNat / 4 % 2 = 1)), .bool (decide (fl.toNat / 8 % 2 = 1)), .slice (some ⟨ad.block, ad.off + 16, none⟩) (d.length - 16) (c - 16)] rfl rfl _ _ yvq (by kernel_rfl) rfl (by simp [Value.oneCell']) ?_) | fail)
  (try simp only [Exit.inBlock, Exit.then])
  refine bodyPost_ret (results_row13 rfl _ _ (w.heap.size + 1) 26 _ _ rfl (yvq.setRow _) Tryz.underlying26 rfl (by kernel_rfl)) rfl ?_
  refine ⟨below_setRow bvq (show w.heap.size ≤ w.heap.size + 1 by omega) _, some ⟨ad.block, ad.off + 16, none⟩, c - 16, ?_, ?_⟩
  · rw [u16wrap (nrd d 4 2).toNat]
    show Ending.returned (.agg #[.bool true, uv (nrd d 0 4), hv (UInt16.ofNat (nrd d 4 2).toNat), uv (nrd d 8 4), uv (nrd d 12 4), .bool (decide (fl.toNat / 2 % 2 = 1)), .bool (decide (fl.toNat % 2 = 1)), .bool (decide (fl.toNat / 4 % 2 = 1)), .bool (decide (fl.toNat / 8 % 2 = 1)), .slice (some ⟨ad.block, ad.off + 16, none⟩) (d.length - 16) (c - 16)]) = _
    rw [← (List.length_drop : (d.drop 16).length = d.length - 16)]
    rfl
  · have hP : Lies w w.heap.size (some ⟨ad.block, ad.off + 16, none⟩) ((d.drop 16).map bv) := by
      have h9 := lies_piece hLd0 16 d.length
      rw [List.take_of_length_le (by rw [List.length_drop]; omega)] at h9
      exact h9
    have hB := below_setRow bvq (show w.heap.size ≤ w.heap.size + 1 by omega) #[.bool true, uv (nrd d 0 4), .int .u16 (IntKind.u16.wrap ((nrd d 4 2).toNat : Int)), uv (nrd d 8 4), uv (nrd d 12 4), .bool (decide (fl.toNat / 2 % 2 = 1)), .bool (decide (fl.toNat % 2 = 1)), .bool (decide (fl.toNat / 4 % 2 = 1)), .bool (decide (fl.toNat / 8 % 2 = 1)), .slice (some ⟨ad.block, ad.off + 16, none⟩) (d.length - 16) (c - 16)]
    exact ⟨(hP.below hB).more hB.size, by show (d.drop 16).length ≤ c - 16; rw [List.length_drop]; omega, by omega⟩
set_option maxRecDepth 100000 in
set_option maxHeartbeats 8000000 in
theorem rof13_0 (fl : UInt8) (d : List UInt8) (hl : 13 ≤ d.length) (hm : d.length ≤ 1000000) (A : Option Addr) (c : Nat) (K : Option Addr) (k : Nat) (w : World) (hC : Chunk w w.heap.size A c K k ⟨0, fl, d, []⟩) :
    Calls Tryz.prog 24 #[.agg #[.int .u8 0, bv fl, .slice A d.length c, .slice K 0 k]] w fun e w' => Below w.heap.size w w' ∧ ∃ A' c', e = .returned (ptV (ptOf ⟨0, fl, d, []⟩) A' c') ∧ PtL w' w'.heap.size A' c' (ptOf ⟨0, fl, d, []⟩) := by
  have hLd := hC.data
  simp only at hLd
  have hdc := hC.dc
  have hdm := hC.dm
  simp only at hdc
  have hflt := fl.toNat_lt
  have b0 : Below w.heap.size w ((w.alloc (.cells #[.int .u8 0, bv fl, .slice A d.length c, .slice K 0 k] 31)).alloc (.cells #[.bool false, .int .u32 0, .int .u16 0, .int .u32 0, .int .u32 0, .bool false, .bool false, .bool false, .bool false, .slice none 0 0] 26)) := ((Below.refl _ w).alloc (Nat.le_refl _) _).alloc (by simp) _
  have x0 := (Whole.new w 31 #[.int .u8 0, bv fl, .slice A d.length c, .slice K 0 k]).alloc (.cells #[.bool false, .int .u32 0, .int .u16 0, .int .u32 0, .int .u32 0, .bool false, .bool false, .bool false, .bool false, .slice none 0 0] 26)
  have y0 := Whole.new (w.alloc (.cells #[.int .u8 0, bv fl, .slice A d.length c, .slice K 0 k] 31)) 26 #[.bool false, .int .u32 0, .int .u16 0, .int .u32 0, .int .u32 0, .bool false, .bool false, .bool false, .bool false, .slice none 0 0]
  rw [World.size_alloc] at y0
  have hs0 : w.heap.size + 2 ≤ ((w.alloc (.cells #[.int .u8 0, bv fl, .slice A d.length c, .slice K 0 k] 31)).alloc (.cells #[.bool false, .int .u32 0, .int .u16 0, .int .u32 0, .int .u32 0, .bool false, .bool false, .bool false, .bool false, .slice none 0 0] 26)).heap.size := by simp
  go_enter Tryz.func24, Tryz.ntmps24
  go_upto_region 1 with fail
  generalize (w.alloc (.cells #[.int .u8 0, bv fl, .slice A d.length c, .slice K 0 k] 31)).alloc (.cells #[.bool false, .int .u32 0, .int .u16 0, .int .u32 0, .int .u32 0, .bool false, .bool false, .bool false, .bool false, .slice none 0 0] 26) = w1 at *
  obtain ⟨q0, q1, q2, q3⟩ := wh4 x0
  go_upto_region 3 with fail
  clear q0 q1
  have b2 := b0.alloc b0.size (.cells #[.bool false, .int .u32 0, .int .u16 0, .int .u32 0, .int .u32 0, .bool ((fl.toNat : Int) / 2 % 2 == 1), .bool ((fl.toNat : Int) % 2 == 1), .bool ((fl.toNat : Int) / 4 % 2 == 1), .bool ((fl.toNat : Int) / 8 % 2 == 1), .slice none 0 0] 26)
  have xP0 := Whole.new w1 26 #[.bool false, .int .u32 0, .int .u16 0, .int .u32 0, .int .u32 0, .bool ((fl.toNat : Int) / 2 % 2 == 1), .bool ((fl.toNat : Int) % 2 == 1), .bool ((fl.toNat : Int) / 4 % 2 == 1), .bool ((fl.toNat : Int) / 8 % 2 == 1), .slice none 0 0]
  have x2 := x0.alloc (.cells #[.bool false, .int .u32 0, .int .u16 0, .int .u32 0, .int .u32 0, .bool ((fl.toNat : Int) / 2 % 2 == 1), .bool ((fl.toNat : Int) % 2 == 1), .bool ((fl.toNat : Int) / 4 % 2 == 1), .bool ((fl.toNat : Int) / 8 % 2 == 1), .slice none 0 0] 26)
  have y2 := y0.alloc (.cells #[.bool false, .int .u32 0, .int .u16 0, .int .u32 0, .int .u32 0, .bool ((fl.toNat : Int) / 2 % 2 == 1), .bool ((fl.toNat : Int) % 2 == 1), .bool ((fl.toNat : Int) / 4 % 2 == 1), .bool ((fl.toNat : Int) / 8 % 2 == 1), .slice none 0 0] 26)
  generalize w1.alloc (.cells #[.bool false, .int .u32 0, .int .u16 0, .int .u32 0, .int .u32 0, .bool ((fl.toNat : Int) / 2 % 2 == 1), .bool ((fl.toNat : Int) % 2 == 1), .bool ((fl.toNat : Int) / 4 % 2 == 1), .bool ((fl.toNat : Int) / 8 % 2 == 1), .slice none 0 0] 26) = w2 at *
  have hg : w.heap.size + 2 ≤ w1.heap.size := hs0
  generalize w1.heap.size = g at *
  rw [(fbit fl).1, (fbit fl).2.1, (fbit fl).2.2.1, (fbit fl).2.2.2] at xP0
  clear x0 y0 b0 hs0 q2 q3
  have L1 : Lies w2 w2.heap.size A (d.map bv) := (hLd.below b2).more b2.size
  have N1 : Calls Tryz.prog 78 #[.slice A d.length c, .int .i64 0, .int .i64 4] w2 fun e w' => e = .returned (.tuple #[uv (nrd d 0 4), .bool true]) ∧ w2 = w' := num13 A c d 0 4 w2 L1 hm rfl (by omega)
  obtain ⟨_, _, r2, _⟩ := wh4 x2
  obtain ⟨m0, m1, m2, m3, m4, m5, m6, m7, m8, m9⟩ := xP0.cs10
  have f1 := xP0.frozen 1
  go_wp2_with fail
  refine N1.mono ?_
  rintro e w' ⟨rfl, rfl⟩
  go_upto_region 4 with fail
  have bv1 := b2.setCell (p := ⟨g, 1, none⟩) (show w.heap.size ≤ g by omega) (uv (nrd d 0 4))
  have xv1 := x2.below ((Below.refl g w2).setCell (p := ⟨g, 1, none⟩) (Nat.le_refl g) (uv (nrd d 0 4))) (by omega)
  have yv1 := y2.below ((Below.refl g w2).setCell (p := ⟨g, 1, none⟩) (Nat.le_refl g) (uv (nrd d 0 4))) (by omega)
  have Pv1 : Whole (w2.setCell ⟨g, 1, none⟩ (uv (nrd d 0 4))) g 26 #[.bool false, uv (nrd d 0 4), .int .u16 0, .int .u32 0, .int .u32 0, .bool (decide (fl.toNat / 2 % 2 = 1)), .bool (decide (fl.toNat % 2 = 1)), .bool (decide (fl.toNat / 4 % 2 = 1)), .bool (decide (fl.toNat / 8 % 2 = 1)), .slice none 0 0] := xP0.set_ 1 _
  generalize w2.setCell ⟨g, 1, none⟩ (uv (nrd d 0 4)) = v1 at *
  clear b2 x2 y2 xP0 L1 N1 r2 m0 m1 m2 m3 m4 m5 m6 m7 m8 m9 f1
  have L2 : Lies v1 v1.heap.size A (d.map bv) := (hLd.below bv1).more bv1.size
  have N2 : Calls Tryz.prog 78 #[.slice A d.length c, .int .i64 4, .int .i64 2] v1 fun e w' => e = .returned (.tuple #[uv (nrd d 4 2), .bool true]) ∧ v1 = w' := num13 A c d 4 2 v1 L2 hm rfl (by omega)
  obtain ⟨_, _, r2, _⟩ := wh4 xv1
  obtain ⟨m0, m1, m2, m3, m4, m5, m6, m7, m8, m9⟩ := Pv1.cs10
  have f2 := Pv1.frozen 2
  go_wp2_with fail
  refine N2.mono ?_
  rintro e w' ⟨rfl, rfl⟩
  go_upto_region 6 with fail
  have bvs := bv1.setCell (p := ⟨g, 2, none⟩) (show w.heap.size ≤ g by omega) (.int .u16 (IntKind.u16.wrap ((nrd d 4 2).toNat : Int)))
  have xvs := xv1.below ((Below.refl g v1).setCell (p := ⟨g, 2, none⟩) (Nat.le_refl g) (.int .u16 (IntKind.u16.wrap ((nrd d 4 2).toNat : Int)))) (by omega)
  have yvs := yv1.below ((Below.refl g v1).setCell (p := ⟨g, 2, none⟩) (Nat.le_refl g) (.int .u16 (IntKind.u16.wrap ((nrd d 4 2).toNat : Int)))) (by omega)
  have Pvs : Whole (v1.setCell ⟨g, 2, none⟩ (.int .u16 (IntKind.u16.wrap ((nrd d 4 2).toNat : Int)))) g 26 #[.bool false, uv (nrd d 0 4), .int .u16 (IntKind.u16.wrap ((nrd d 4 2).toNat : Int)), .int .u32 0, .int .u32 0, .bool (decide (fl.toNat / 2 % 2 = 1)), .bool (decide (fl.toNat % 2 = 1)), .bool (decide (fl.toNat / 4 % 2 = 1)), .bool (decide (fl.toNat / 8 % 2 = 1)), .slice none 0 0] := Pv1.set_ 2 _
  generalize v1.setCell ⟨g, 2, none⟩ (.int .u16 (IntKind.u16.wrap ((nrd d 4 2).toNat : Int))) = vs at *
  clear bv1 xv1 yv1 Pv1 L2 N2 r2 m0 m1 m2 m3 m4 m5 m6 m7 m8 m9 f2
  have L3 : Lies vs vs.heap.size A (d.map bv) := (hLd.below bvs).more bvs.size
  have N3 : Calls Tryz.prog 78 #[.slice A d.length c, .int .i64 6, .int .i64 2] vs fun e w' => e = .returned (.tuple #[uv (nrd d 6 2), .bool true]) ∧ vs = w' := num13 A c d 6 2 vs L3 hm rfl (by omega)
  obtain ⟨_, _, r2, _⟩ := wh4 xvs
  obtain ⟨m0, m1, m2, m3, m4, m5, m6, m7, m8, m9⟩ := Pvs.cs10
  have f3 := Pvs.frozen 3
  go_wp2_with fail
  refine N3.mono ?_
  rintro e w' ⟨rfl, rfl⟩
  go_upto_region 11 with fail
  have bv3 := bvs.setCell (p := ⟨g, 3, none⟩) (show w.heap.size ≤ g by omega) (uv (nrd d 6 2))
  have xv3 := xvs.below ((Below.refl g vs).setCell (p := ⟨g, 3, none⟩) (Nat.le_refl g) (uv (nrd d 6 2))) (by omega)
  have yv3 := yvs.below ((Below.refl g vs).setCell (p := ⟨g, 3, none⟩) (Nat.le_refl g) (uv (nrd d 6 2))) (by omega)
  have Pv3 : Whole (vs.setCell ⟨g, 3, none⟩ (uv (nrd d 6 2))) g 26 #[.bool false, uv (nrd d 0 4), .int .u16 (IntKind.u16.wrap ((nrd d 4 2).toNat : Int)), uv (nrd d 6 2), .int .u32 0, .bool (decide (fl.toNat / 2 % 2 = 1)), .bool (decide (fl.toNat % 2 = 1)), .bool (decide (fl.toNat / 4 % 2 = 1)), .bool (decide (fl.toNat / 8 % 2 = 1)), .slice none 0 0] := Pvs.set_ 3 _
  generalize vs.setCell ⟨g, 3, none⟩ (uv (nrd d 6 2)) = v3 at *
  clear bvs xvs yvs Pvs L3 N3 r2 m0 m1 m2 m3 m4 m5 m6 m7 m8 m9 f3
  have L4 : Lies v3 v3.heap.size A (d.map bv) := (hLd.below bv3).more bv3.size
  have N4 : Calls Tryz.prog 78 #[.slice A d.length c, .int .i64 8, .int .i64 4] v3 fun e w' => e = .returned (.tuple #[uv (nrd d 8 4), .bool true]) ∧ v3 = w' := num13 A c d 8 4 v3 L4 hm rfl (by omega)
  obtain ⟨_, _, r2, _⟩ := wh4 xv3
  obtain ⟨m0, m1, m2, m3, m4, m5, m6, m7, m8, m9⟩ := Pv3.cs10
  have f4 := Pv3.frozen 4
  go_wp2_with fail
  refine N4.mono ?_
  rintro e w' ⟨rfl, rfl⟩
  go_upto_region 12 with fail
  have bv4 := bv3.setCell (p := ⟨g, 4, none⟩) (show w.heap.size ≤ g by omega) (uv (nrd d 8 4))
  have xv4 := xv3.below ((Below.refl g v3).setCell (p := ⟨g, 4, none⟩) (Nat.le_refl g) (uv (nrd d 8 4))) (by omega)
  have yv4 := yv3.below ((Below.refl g v3).setCell (p := ⟨g, 4, none⟩) (Nat.le_refl g) (uv (nrd d 8 4))) (by omega)
  have Pv4 : Whole (v3.setCell ⟨g, 4, none⟩ (uv (nrd d 8 4))) g 26 #[.bool false, uv (nrd d 0 4), .int .u16 (IntKind.u16.wrap ((nrd d 4 2).toNat : Int)), uv (nrd d 6 2), uv (nrd d 8 4), .bool (decide (fl.toNat / 2 % 2 = 1)), .bool (decide (fl.toNat % 2 = 1)), .bool (decide (fl.toNat / 4 % 2 = 1)), .bool (decide (fl.toNat / 8 % 2 = 1)), .slice none 0 0] := Pv3.set_ 4 _
  generalize v3.setCell ⟨g, 4, none⟩ (uv (nrd d 8 4)) = v4 at *
  clear bv3 xv3 yv3 Pv3 L4 N4 r2 m0 m1 m2 m3 m4 m5 m6 m7 m8 m9 f4
  have hne : d.map bv ≠ [] := by intro e; have := congrArg List.length e; rw [List.length_map] at this; simp at this; rw [this] at hl; simp at hl
  have hLd0 := hLd
  obtain ⟨ad, rfl, hadb, hcell⟩ := hLd hne
  have hc1 : (12 : Int) ≤ (d.length : Int) := by omega
  have hc2 : (12 : Int) ≤ (c : Int) := by omega
  have hc3 : (d.length : Int) ≤ (c : Int) := by omega
  have hc4 : ¬ (c = 12) := by omega
  have hc5 : 12 ≤ d.length := by omega
  have hc6 : 12 ≤ c := by omega
  obtain ⟨_, _, r2, _⟩ := wh4 xv4
  obtain ⟨m0, m1, m2, m3, m4, m5, m6, m7, m8, m9⟩ := Pv4.cs10
  have f9 := Pv4.frozen 9
  go_upto_region 13 with fail
  have bvq := bv4.setCell (p := ⟨g, 9, none⟩) (show w.heap.size ≤ g by omega) (.slice (some ⟨ad.block, ad.off + 12, none⟩) (d.length - 12) (c - 12))
  have xvq := xv4.below ((Below.refl g v4).setCell (p := ⟨g, 9, none⟩) (Nat.le_refl g) (.slice (some ⟨ad.block, ad.off + 12, none⟩) (d.length - 12) (c - 12))) (by omega)
  have yvq := yv4.below ((Below.refl g v4).setCell (p := ⟨g, 9, none⟩) (Nat.le_refl g) (.slice (some ⟨ad.block, ad.off + 12, none⟩) (d.length - 12) (c - 12))) (by omega)
  have Pvq : Whole (v4.setCell ⟨g, 9, none⟩ (.slice (some ⟨ad.block, ad.off + 12, none⟩) (d.length - 12) (c - 12))) g 26 #[.bool false, uv (nrd d 0 4), .int .u16 (IntKind.u16.wrap ((nrd d 4 2).toNat : Int)), uv (nrd d 6 2), uv (nrd d 8 4), .bool (decide (fl.toNat / 2 % 2 = 1)), .bool (decide (fl.toNat % 2 = 1)), .bool (decide (fl.toNat / 4 % 2 = 1)), .bool (decide (fl.toNat / 8 % 2 = 1)), .slice (some ⟨ad.block, ad.off + 12, none⟩) (d.length - 12) (c - 12)] := Pv4.set_ 9 _
  generalize v4.setCell ⟨g, 9, none⟩ (.slice (some ⟨ad.block, ad.off + 12, none⟩) (d.length - 12) (c - 12)) = vq at *
  clear bv4 xv4 yv4 Pv4 r2 m0 m1 m2 m3 m4 m5 m6 m7 m8 m9 f9
  go_wp2_with (first | (refine wpList_load_row rfl 26 _ rfl g rfl 26 #[.bool false, uv (nrd d 0 4), .int .u16 (IntKind.u16.wrap ((nrd d 4 2).toNat : Int)), uv (nrd d 6 2), uv (nrd d 8 4), .bool (decide (fl.toNat / 2 % 2 = 1)), .bool (decide (fl.toNat % 2 = 1)), .bool (decide (fl.toNat / 4 % 2 = 1)), .bool (decide (fl.toNat / 8 % 2 = 1)), .slice (some ⟨ad.block, ad.off + 12, none⟩) (d.length - 12) (c - 12)] (0, 0) _ Pvq Tryz.underlying26 rfl (by kernel_rfl) ?_) | (refine wpList_store_row rfl 26 _ _ rfl (w.heap.size + 1) #[.bool false, uv (nrd d 0 4), .int .u16 (IntKind.u16.wrap ((nrd d 4 2).toNat : Int)), uv (nrd d 6 2), uv (nrd d 8 4), .bool (decide (fl.toNat / 2 % 2 = 1)), .bool (decide (fl.toNat % 2 = 1)), .bool (decide (fl.toNat / 4 % 2 = 1)), .bool (decide (fl.toNat / 8 % 2 = 1)), .slice (some ⟨ad.block, ad.off + 12, none⟩) (d.length - 12) (c - 12)] rfl rfl _ _ yvq (by kernel_rfl) rfl (by simp [Value.oneCell']) ?_) | fail)
  (try simp only [Exit.inBlock, Exit.then])
  refine bodyPost_ret (results_row13 rfl _ _ (w.heap.size + 1) 26 _ _ rfl (yvq.setRow _) Tryz.underlying26 rfl (by kernel_rfl)) rfl ?_
  refine ⟨below_setRow bvq (show w.heap.size ≤ w.heap.size + 1 by omega) _, some ⟨ad.block, ad.off + 12, none⟩, c - 12, ?_, ?_⟩
  · rw [u16wrap (nrd d 4 2).toNat]
    show Ending.returned (.agg #[.bool false, uv (nrd d 0 4), hv (UInt16.ofNat (nrd d 4 2).toNat), uv (nrd d 6 2), uv (nrd d 8 4), .bool (decide (fl.toNat / 2 % 2 = 1)), .bool (decide (fl.toNat % 2 = 1)), .bool (decide (fl.toNat / 4 % 2 = 1)), .bool (decide (fl.toNat / 8 % 2 = 1)), .slice (some ⟨ad.block, ad.off + 12, none⟩) (d.length - 12) (c - 12)]) = _
    rw [← (List.length_drop : (d.drop 12).length = d.length - 12)]
    rfl
  · have hP : Lies w w.heap.size (some ⟨ad.block, ad.off + 12, none⟩) ((d.drop 12).map bv) := by
      have h9 := lies_piece hLd0 12 d.length
      rw [List.take_of_length_le (by rw [List.length_drop]; omega)] at h9
      exact h9
    have hB := below_setRow bvq (show w.heap.size ≤ w.heap.size + 1 by omega) #[.bool false, uv (nrd d 0 4), .int .u16 (IntKind.u16.wrap ((nrd d 4 2).toNat : Int)), uv (nrd d 6 2), uv (nrd d 8 4), .bool (decide (fl.toNat / 2 % 2 = 1)), .bool (decide (fl.toNat % 2 = 1)), .bool (decide (fl.toNat / 4 % 2 = 1)), .bool (decide (fl.toNat / 8 % 2 = 1)), .slice (some ⟨ad.block, ad.off + 12, none⟩) (d.length - 12) (c - 12)]
    exact ⟨(hP.below hB).more hB.size, by show (d.drop 12).length ≤ c - 12; rw [List.length_drop]; omega, by omega⟩
theorem rof13_any (x : Ck) (hd : isD x = true) (A : Option Addr) (c : Nat) (K : Option Addr) (k : Nat) (w : World) (hC : Chunk w w.heap.size A c K k x) (hm : x.d.length ≤ 1000000) :
    Calls Tryz.prog 24 #[ckV x A c K k] w fun e w' => Below w.heap.size w w' ∧ ∃ A' c', e = .returned (ptV (ptOf x) A' c') ∧ PtL w' w'.heap.size A' c' (ptOf x) := by
  have hk := isD_ks hd
  have ht := (isD_parts hd).1
  have hl := isD_len hd
  obtain ⟨t, fl, d, ks⟩ := x
  simp only at hk ht hl hm
  subst hk
  rcases ht with rfl | rfl
  · exact rof13_0 fl d (by have := hl.1; simpa using this) hm A c K k w hC
  · exact rof13_64 fl d (by have := hl.1; simpa using this) hm A c K k w hC
end Go.Proofs.YtgjmgphmakiffaaGreatDoor


