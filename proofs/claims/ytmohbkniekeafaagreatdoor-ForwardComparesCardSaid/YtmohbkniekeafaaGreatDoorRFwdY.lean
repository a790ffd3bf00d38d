/- Layer 16: the law ForwardCompares. It writes nothing that was there. -/
import Derived.Test.YtmohbkniekeafaaGreatDoorRFwdV
import Derived.Test.YtmohbkniekeafaaGreatDoorRFX
import Derived.Test.YtmohbkniekeafaaGreatDoorRNS
import Derived.BigGuard





namespace Go.Proofs.YtmohbkniekeafaaGreatDoor
open Go.ChangeShapes Go.WideShapes Go.ChangeAt Go.RowKit

set_option linter.unusedSimpArgs false
theorem fcmp_three (a b : Fs) : (fcmp a b = -1 ∧ fcmp b a = 1) ∨ (fcmp a b = 0 ∧ fcmp b a = 0) ∨ (fcmp a b = 1 ∧ fcmp b a = -1) := by
  rw [fcmp_key, fcmp_key]
  by_cases h : kF a < kF b
  · have h2 : ¬ kF b < kF a := by omega
    simp [h, h2]
  · by_cases h2 : kF b < kF a
    · simp [h, h2]
    · simp [h, h2]
set_option maxRecDepth 100000 in
set_option maxHeartbeats 8000000 in
theorem fcmps_law (a b : Fs) (q : UInt32) (w : World) (hh : Handle w) :
    Calls Tryz.prog 8 #[fsV a, fsV b, uv q] w fun e w' => e = .returned (.bool true) ∧ Below w.heap.size w w' := by
  have b0 : Below w.heap.size w ((w.alloc (.cells (fsCells a) 68)).alloc (.cells (fsCells b) 68)) := ((Below.refl _ w).alloc (Nat.le_refl _) _).alloc (by simp) _
  have x0 := (Whole.new w 68 (fsCells a)).alloc (.cells (fsCells b) 68)
  have y0 := Whole.new (w.alloc (.cells (fsCells a) 68)) 68 (fsCells b)
  rw [World.size_alloc] at y0
  have HW := Lib.hid (awake16_any _ (hh.below b0 hh.lt))
  have HAB := Lib.hid (fun V => fcmp_any a b V)
  have HBA := Lib.hid (fun V => fcmp_any b a V)
  have HXB : Hid (∀ V, Calls Tryz.prog 36 #[.agg #[hv a.st, .bool a.un, uv q], fsV b] V fun e w' => e = .returned (.int .i64 (fcmp a b)) ∧ Below V.heap.size V w') := Lib.hid (fun V => fcmp_any ⟨a.st, a.un, q⟩ b V)
  have HRB := Lib.hid (fun V => rcmp16_any a b V)
  have h3 := fcmp_three a b
  clear hh
  generalize fcmp a b = r at *
  generalize fcmp b a = r' at *
  obtain ⟨sa, ua, qa⟩ := a
  obtain ⟨sb, ub, qb⟩ := b
  simp only [fsV, fsCells] at *
  have hs0 : w.heap.size + 2 = ((w.alloc (.cells #[hv sa, .bool ua, uv qa] 68)).alloc (.cells #[hv sb, .bool ub, uv qb] 68)).heap.size := by simp
  have HS0 := Lib.hid hs0
  clear hs0
  rcases h3 with ⟨rfl, rfl⟩ | ⟨rfl, rfl⟩ | ⟨rfl, rfl⟩
  all_goals
    go_enter Tryz.func8, Tryz.ntmps8
    go_upto_region 1 with fail
    generalize (w.alloc (.cells #[hv sa, .bool ua, uv qa] 68)).alloc (.cells #[hv sb, .bool ub, uv qb] 68) = wa at *
    go_wp2_with fail
    refine HW.out.mono ?_
    rintro e w1 ⟨rfl, b1⟩
    have B1 := b0.trans (b1.mono b0.size)
    have x1 := x0.below b1 x0.lt
    have y1 := y0.below b1 y0.lt
    clear HW b0 b1 x0 y0 HS0
    go_upto_region 3 with fail
    obtain ⟨p0, p1, p2⟩ := wh3 x1
    obtain ⟨q0, q1, q2⟩ := wh3 y1
    go_wp2_with fail
    refine (HAB.out _).mono ?_
    rintro e w2 ⟨rfl, b2⟩
    have B2 := B1.trans (b2.mono B1.size)
    have x2 := x1.below b2 x1.lt
    have y2 := y1.below b2 y1.lt
    clear p0 p1 p2 q0 q1 q2 x1 y1 B1 b2
    obtain ⟨p0, p1, p2⟩ := wh3 x2
    go_upto_region 5 with fail
    have B3 := B2.alloc B2.size (.cells #[hv sa, .bool ua, uv qa] 68)
    have x3 := x2.alloc (.cells #[hv sa, .bool ua, uv qa] 68)
    have y3 := y2.alloc (.cells #[hv sa, .bool ua, uv qa] 68)
    have z3 := Whole.new w2 68 #[hv sa, .bool ua, uv qa]
    have hg : w.heap.size + 1 < w2.heap.size := y2.lt
    generalize w2.alloc (.cells #[hv sa, .bool ua, uv qa] 68) = w3 at *
    generalize w2.heap.size = g2 at *
    clear p0 p1 p2 x2 y2 B2
    obtain ⟨k0, k1, k2⟩ := wh3 z3
    have f2 := z3.frozen 2
    go_upto_region 6 with fail
    have B4 := B3.setCell (p := ⟨g2, 2, none⟩) (by show w.heap.size ≤ g2; omega) (uv q)
    have x4 := x3.far (p := ⟨g2, 2, none⟩) (by show w.heap.size ≠ g2; omega) (uv q)
    have y4 := y3.far (p := ⟨g2, 2, none⟩) (by show w.heap.size + 1 ≠ g2; omega) (uv q)
    have z4 : Whole (w3.setCell ⟨g2, 2, none⟩ (uv q)) g2 68 #[hv sa, .bool ua, uv q] := z3.set_ 2 (uv q)
    generalize w3.setCell ⟨g2, 2, none⟩ (uv q) = w4 at *
    clear k0 k1 k2 f2 x3 y3 z3 B3
    obtain ⟨p0, p1, p2⟩ := wh3 x4
    obtain ⟨q0, q1, q2⟩ := wh3 y4
    go_wp2_with fail
    refine (HRB.out _).mono ?_
    rintro e w5 ⟨rfl, b5⟩
    have B5 := B4.trans (b5.mono B4.size)
    have x5 := x4.below b5 x4.lt
    have y5 := y4.below b5 y4.lt
    have z5 := z4.below b5 z4.lt
    clear p0 p1 p2 q0 q1 q2 x4 y4 z4 B4 b5
    obtain ⟨p0, p1, p2⟩ := wh3 x5
    obtain ⟨q0, q1, q2⟩ := wh3 y5
    go_wp2_with fail
    refine (HBA.out _).mono ?_
    rintro e w6 ⟨rfl, b6⟩
    have B6 := B5.trans (b6.mono B5.size)
    have y6 := y5.below b6 y5.lt
    have z6 := z5.below b6 z5.lt
    clear p0 p1 p2 q0 q1 q2 x5 y5 z5 B5 b6
    obtain ⟨p0, p1, p2⟩ := wh3 z6
    obtain ⟨q0, q1, q2⟩ := wh3 y6
    go_wp2_with fail
    refine (HXB.out _).mono ?_
    rintro e w7 ⟨rfl, b7⟩
    go_wp2_with fail
    go_ret
    exact ⟨rfl, B6.trans (b7.mono B6.size)⟩
set_option maxRecDepth 100000 in
theorem law_ForwardCompares {H : Type} {enc : TypeId × Value → H} {W : World} {base : Nat} {v0 v1 v2 : Value} {d0 d1 d2 : DataW H} {p0 p1 p2 : List MemPlace}
    (o0 : Value.okWide Tryz.prog W .any base 68 v0) (h0 : DataW.Trod enc Tryz.prog W 0 (fun _ => true) true 68 v0 d0 p0) (_s0 : Small Tryz.prog 68 d0)
    (o1 : Value.okWide Tryz.prog W .any base 68 v1) (h1 : DataW.Trod enc Tryz.prog W 0 (fun _ => true) true 68 v1 d1 p1) (_s1 : Small Tryz.prog 68 d1)
    (o2 : Value.okWide Tryz.prog W .any base 22 v2) (h2 : DataW.Trod enc Tryz.prog W 0 (fun _ => true) true 22 v2 d2 p2) (_s2 : Small Tryz.prog 22 d2) (hL : laidMetH Tryz.prog laidL W) :
    Calls Tryz.prog 8 #[v0, v1, v2] W fun e w' => e = .returned (.bool true) ∧ Below W.heap.size W w' := by
  obtain ⟨a, rfl⟩ := open_skip o0 h0
  obtain ⟨b, rfl⟩ := open_skip o1 h1
  obtain ⟨q, rfl, _, _, wq⟩ := open_int Tryz.underlying22 o2 h2
  rw [uv_of13 (wf_u32 wq)]
  exact fcmps_law a b _ W (handle_of_laid hL)
end Go.Proofs.YtmohbkniekeafaaGreatDoor


