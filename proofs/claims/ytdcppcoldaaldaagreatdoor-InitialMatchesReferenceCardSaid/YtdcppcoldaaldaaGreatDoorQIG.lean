/- Layer 15: what an argument that is numbers reads as. No condition of its own. -/
/- Layer 15: the law InitialStreams. It writes nothing that was there. -/
import Derived.Test.YtdcppcoldaaldaaGreatDoorQXA
import Derived.Test.YtdcppcoldaaldaaGreatDoorQInitA
import Derived.Test.YtdcppcoldaaldaaGreatDoorQIB
import Derived.Test.YtdcppcoldaaldaaGreatDoorQNS
import Derived.BigGuard


namespace Go.Proofs.YtdcppcoldaaldaaGreatDoor
open Go.ChangeShapes Go.WideShapes Go.ChangeAt Go.RowKit

section
variable {H : Type} {enc : TypeId × Value → H} {w : World} {base : Nat} {v : Value} {d : DataW H} {p : List MemPlace}
set_option maxRecDepth 100000 in
set_option maxHeartbeats 2000000 in
/-- an argument that is numbers -/
theorem open_vals (o : Value.okWide Tryz.prog w .any base 77 v) (h : DataW.Trod enc Tryz.prog w 0 (fun _ => true) true 77 v d p) :
    ∃ a : Vl, v = vlV a := by
  obtain ⟨cs, rfl, hsz⟩ := okWide_struct Tryz.underlying77 o
  obtain ⟨fuel, hf⟩ := h
  have c5 : Tryz.prog.cellsOf 77 = 5 := by kernel_rfl
  rw [c5] at hsz
  have hf' : DataW.trod enc Tryz.prog w 0 (fun _ => true) true fuel 77 cs.toList = some (d, p) := hf
  have hl5 : cs.toList.length = 5 := by simpa using hsz
  obtain ⟨u, hu⟩ : ∃ u, cs.toList = u := ⟨_, rfl⟩
  rw [hu] at hf' hl5
  match u, hl5 with
  | [u0, u1, u2, u3, u4], _ =>
    obtain ⟨xs, n, hn, hxx, hl, hlen, hf⟩ := DataW.trod_struct Tryz.underlying77 hf'
    match xs, hlen with
    | [y0, y1, y2, y3, y4], _ =>
      have f0 : DataW.trod enc Tryz.prog w 0 (fun _ => true) true n 22 [u0] = some y0 := by
        have h9 := hf 0 _ rfl
        have e : Tryz.prog.cellsOf 22 = 1 := by kernel_rfl
        have h8 : DataW.trod enc Tryz.prog w 0 (fun _ => true) true n 22 (([u0, u1, u2, u3, u4].drop 0).take (Tryz.prog.cellsOf 22)) = some y0 := h9
        rw [e] at h8
        exact h8
      have f1 : DataW.trod enc Tryz.prog w 0 (fun _ => true) true n 22 [u1] = some y1 := by
        have h9 := hf 1 _ rfl
        have e : Tryz.prog.cellsOf 22 = 1 := by kernel_rfl
        have h8 : DataW.trod enc Tryz.prog w 0 (fun _ => true) true n 22 (([u0, u1, u2, u3, u4].drop 1).take (Tryz.prog.cellsOf 22)) = some y1 := h9
        rw [e] at h8
        exact h8
      have f2 : DataW.trod enc Tryz.prog w 0 (fun _ => true) true n 23 [u2] = some y2 := by
        have h9 := hf 2 _ rfl
        have e : Tryz.prog.cellsOf 23 = 1 := by kernel_rfl
        have h8 : DataW.trod enc Tryz.prog w 0 (fun _ => true) true n 23 (([u0, u1, u2, u3, u4].drop 2).take (Tryz.prog.cellsOf 23)) = some y2 := h9
        rw [e] at h8
        exact h8
      have f3 : DataW.trod enc Tryz.prog w 0 (fun _ => true) true n 23 [u3] = some y3 := by
        have h9 := hf 3 _ rfl
        have e : Tryz.prog.cellsOf 23 = 1 := by kernel_rfl
        have h8 : DataW.trod enc Tryz.prog w 0 (fun _ => true) true n 23 (([u0, u1, u2, u3, u4].drop 3).take (Tryz.prog.cellsOf 23)) = some y3 := h9
        rw [e] at h8
        exact h8
      have f4 : DataW.trod enc Tryz.prog w 0 (fun _ => true) true n 22 [u4] = some y4 := by
        have h9 := hf 4 _ rfl
        have e : Tryz.prog.cellsOf 22 = 1 := by kernel_rfl
        have h8 : DataW.trod enc Tryz.prog w 0 (fun _ => true) true n 22 (([u0, u1, u2, u3, u4].drop 4).take (Tryz.prog.cellsOf 22)) = some y4 := h9
        rw [e] at h8
        exact h8
      obtain ⟨z0, g0, _, wz0⟩ := DataW.trod_int Tryz.underlying22 f0
      obtain rfl := (List.cons.inj g0).1
      obtain ⟨z1, g1, _, wz1⟩ := DataW.trod_int Tryz.underlying22 f1
      obtain rfl := (List.cons.inj g1).1
      obtain ⟨z2, g2, _, wz2⟩ := DataW.trod_int Tryz.underlying23 f2
      obtain rfl := (List.cons.inj g2).1
      obtain ⟨z3, g3, _, wz3⟩ := DataW.trod_int Tryz.underlying23 f3
      obtain rfl := (List.cons.inj g3).1
      obtain ⟨z4, g4, _, wz4⟩ := DataW.trod_int Tryz.underlying22 f4
      obtain rfl := (List.cons.inj g4).1
      refine ⟨⟨UInt32.ofNat z0.toNat, UInt32.ofNat z1.toNat, u16of z2.toNat, u16of z3.toNat, UInt32.ofNat z4.toNat⟩, ?_⟩
      rw [vlV, ← uv_of13 (wf_u32 wz0), ← uv_of13 (wf_u32 wz1), ← hv_of' (wf_u16 wz2), ← hv_of' (wf_u16 wz3), ← uv_of13 (wf_u32 wz4)]
      congr 1
      exact Array.ext' hu
end
end Go.Proofs.YtdcppcoldaaldaaGreatDoor






namespace Go.Proofs.YtdcppcoldaaldaaGreatDoor
open Go.RowKit

set_option linter.unusedSimpArgs false
set_option maxRecDepth 100000 in
set_option maxHeartbeats 8000000 in
theorem ist_law (a b : Vl) (w : World) (hh : Handle w) :
    Calls Tryz.prog 14 #[vlV a, vlV b] w fun e w' => e = .returned (.bool true) ∧ Below w.heap.size w w' := by
  have b0 : Below w.heap.size w ((w.alloc (.cells (vlCells a) 77)).alloc (.cells (vlCells b) 77)) := ((Below.refl _ w).alloc (Nat.le_refl _) _).alloc (by simp) _
  have x0 := (Whole.new w 77 (vlCells a)).alloc (.cells (vlCells b) 77)
  have y0 := Whole.new (w.alloc (.cells (vlCells a) 77)) 77 (vlCells b)
  rw [World.size_alloc] at y0
  have hA := awake15_any _ (hh.below b0 hh.lt)
  have hs0 : w.heap.size ≤ ((w.alloc (.cells (vlCells a) 77)).alloc (.cells (vlCells b) 77)).heap.size := by simp; omega
  have m1 := mn16_min a.ou b.ii
  have m2 := mn16_min a.ii b.ou
  have HS1 := istreams_any a b
  have HS2 := istreams_any b a
  rw [mn16_comm b.ou a.ii, mn16_comm b.ii a.ou] at HS2
  generalize mn16 a.ou b.ii = p at *
  generalize mn16 a.ii b.ou = q at *
  have H1 := Lib.hid HS1
  have H2 := Lib.hid HS2
  clear HS1 HS2 hh
  have HB := Lib.hid b0
  have HZ := Lib.hid hs0
  clear b0 hs0
  obtain ⟨a0, a1, a2, a3, a4⟩ := a
  obtain ⟨b0, b1, b2, b3, b4⟩ := b
  simp only [vlV, vlCells] at *
  go_enter Tryz.func14, Tryz.ntmps14
  go_wp2_with fail
  refine hA.mono ?_
  rintro e w1 ⟨rfl, c1⟩
  have x1 := x0.below c1 x0.lt
  have y1 := y0.below c1 y0.lt
  have HB1 := Lib.hid (HB.out.trans (c1.mono HZ.out))
  clear x0 y0 hA c1 HB HZ
  obtain ⟨u0, u1, u2, u3, u4⟩ := x1.cs5
  obtain ⟨v0, v1, v2, v3, v4⟩ := y1.cs5
  go_wp2_with fail
  refine (H1.out w1).mono ?_
  rintro e w2 ⟨rfl, c2⟩
  have x2 := x1.below c2 x1.lt
  have y2 := y1.below c2 y1.lt
  have HB2 := Lib.hid (HB1.out.trans (c2.mono HB1.out.size))
  clear x1 y1 c2 u0 u1 u2 u3 u4 v0 v1 v2 v3 v4
  obtain ⟨u0, u1, u2, u3, u4⟩ := x2.cs5
  obtain ⟨v0, v1, v2, v3, v4⟩ := y2.cs5
  go_wp2_with fail
  refine (H2.out w2).mono ?_
  rintro e w3 ⟨rfl, c3⟩
  have x3 := x2.below c3 x2.lt
  have y3 := y2.below c3 y2.lt
  have HB3 := Lib.hid (HB2.out.trans (c3.mono HB2.out.size))
  have hw : ∀ x : UInt16, wrap64 (x.toNat : Int) = (x.toNat : Int) := fun x => by have := x.toNat_lt; unfold wrap64; omega
  have E1 : (wrap64 (p.toNat : Int) == min (wrap64 (a2.toNat : Int)) (wrap64 (b3.toNat : Int))) = true := by rw [hw, hw, hw, m1, beq_self_eq_true]
  have E2 : (wrap64 (q.toNat : Int) == min (wrap64 (a3.toNat : Int)) (wrap64 (b2.toNat : Int))) = true := by rw [hw, hw, hw, m2, beq_self_eq_true]
  clear hw m1 m2
  clear x2 y2 c3 u0 u1 u2 u3 u4 v0 v1 v2 v3 v4
  obtain ⟨u0, u1, u2, u3, u4⟩ := x3.cs5
  obtain ⟨v0, v1, v2, v3, v4⟩ := y3.cs5
  go_wp2_with fail
  go_ret
  exact ⟨rfl, HB3.out⟩
set_option maxRecDepth 100000 in
theorem law_InitialStreams {H : Type} {enc : TypeId × Value → H} {W : World} {base : Nat} {v0 v1 : Value} {d0 d1 : DataW H} {p0 p1 : List MemPlace}
    (o0 : Value.okWide Tryz.prog W .any base 77 v0) (h0 : DataW.Trod enc Tryz.prog W 0 (fun _ => true) true 77 v0 d0 p0) (_s0 : Small Tryz.prog 77 d0)
    (o1 : Value.okWide Tryz.prog W .any base 77 v1) (h1 : DataW.Trod enc Tryz.prog W 0 (fun _ => true) true 77 v1 d1 p1) (_s1 : Small Tryz.prog 77 d1) (hL : laidMetH Tryz.prog laidL W) :
    Calls Tryz.prog 14 #[v0, v1] W fun e w' => e = .returned (.bool true) ∧ Below W.heap.size W w' := by
  obtain ⟨a, rfl⟩ := open_vals o0 h0
  obtain ⟨b, rfl⟩ := open_vals o1 h1
  exact ist_law a b W (handle_of_laid hL)
end Go.Proofs.YtdcppcoldaaldaaGreatDoor


