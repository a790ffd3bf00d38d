/- Layer 6: the law TlvFrames, over what its arguments read as. -/
import Derived.Test.YtomplajecekhiaaDoorTlvP
namespace Go.Proofs.YtomplajecekhiaaDoor
open Go.ChangeShapes Go.WideShapes Go.ChangeAt Go.RowKit

theorem hv_of {z : Int} (h : 0 ≤ z ∧ z < 65536) : Value.int .u16 z = hv (u16of z.toNat) := by
  rw [hv, u16of_toNat (by omega)]
  congr 1
  omega
set_option maxRecDepth 100000 in
theorem law_TlvFrames {H : Type} {enc : TypeId × Value → H} {W : World} {base : Nat} {v0 v1 v2 v3 v4 : Value} {d0 d1 d2 d3 d4 : DataW H} {p0 p1 p2 p3 p4 : List MemPlace}
    (o0 : Value.okWide Tryd.prog W .any base 45 v0) (h0 : DataW.Trod enc Tryd.prog W 0 (fun _ => true) true 45 v0 d0 p0) (_s0 : Small Tryd.prog 45 d0)
    (o1 : Value.okWide Tryd.prog W .any base 46 v1) (h1 : DataW.Trod enc Tryd.prog W 0 (fun _ => true) true 46 v1 d1 p1) (_s1 : Small Tryd.prog 46 d1)
    (o2 : Value.okWide Tryd.prog W .any base 45 v2) (h2 : DataW.Trod enc Tryd.prog W 0 (fun _ => true) true 45 v2 d2 p2) (_s2 : Small Tryd.prog 45 d2)
    (o3 : Value.okWide Tryd.prog W .any base 22 v3) (h3 : DataW.Trod enc Tryd.prog W 0 (fun _ => true) true 22 v3 d3 p3) (_s3 : Small Tryd.prog 22 d3)
    (o4 : Value.okWide Tryd.prog W .any base 22 v4) (h4 : DataW.Trod enc Tryd.prog W 0 (fun _ => true) true 22 v4 d4 p4) (_s4 : Small Tryd.prog 22 d4) (hL : laidMetH Tryd.prog laidL W) :
    Calls Tryd.prog 5 #[v0, v1, v2, v3, v4] W fun e w' => e = .returned (.bool true) ∧ Below W.heap.size W w' := by
  obtain ⟨t, rfl, _, _, wt⟩ := open_int Tryd.underlying45 o0 h0
  obtain ⟨n, rfl, _, _, wn⟩ := open_int Tryd.underlying46 o1 h1
  obtain ⟨u, rfl, _, _, wu⟩ := open_int Tryd.underlying45 o2 h2
  obtain ⟨A, n3, c, rfl⟩ := okWide_slice Tryd.underlying22 o3
  obtain ⟨fuel, hf⟩ := h3
  obtain ⟨a, rfl, hl, hc, hcm⟩ := open_bytes Tryd.underlying22 Tryd.underlying5 (by kernel_rfl) hf
  obtain ⟨A', n4, c', rfl⟩ := okWide_slice Tryd.underlying22 o4
  obtain ⟨fuel', hf'⟩ := h4
  obtain ⟨b, rfl, hl', hc', hcm'⟩ := open_bytes Tryd.underlying22 Tryd.underlying5 (by kernel_rfl) hf'
  have e1 := wf_u32 wn
  rw [hv_of (wf_u16 wt), hv_of (wf_u16 wu)]
  have h := tframes_any (u16of t.toNat) (u16of u.toNat) n.toNat (by omega) A A' c c' a b W hl hl' hc hcm hc' hcm' (handle_of_laid hL)
  rw [Int.toNat_of_nonneg e1.1] at h
  exact h
end Go.Proofs.YtomplajecekhiaaDoor
