/- Layer 6: what an argument of frames of the reference reads as; the law TlvJoins over it. -/
import Derived.Test.YtomplajecekhiaaDoorTlvS
import Derived.ChangeSame
namespace Go.Proofs.YtomplajecekhiaaDoor
open Go.ChangeShapes Go.WideShapes Go.ChangeAt Go.RowKit

theorem bytesOf_u8 : Tryd.prog.bytesOf 5 = 1 := by kernel_rfl
theorem hv_of' {z : Int} (h : 0 ≤ z ∧ z < 65536) : Value.int .u16 z = hv (u16of z.toNat) := by
  rw [hv, u16of_toNat (by omega)]
  congr 1
  omega
theorem open_frames {H : Type} {enc : TypeId × Value → H} {w : World} {fuel : Nat} {x : DataW H × List MemPlace} {A : Option Addr} {len cap : Nat}
    (h : DataW.trod enc Tryd.prog w 0 (fun _ => true) true fuel 29 [.slice A len cap] = some x) (hs : Small Tryd.prog 29 x.1) :
    ∃ (vs : List Value) (fs : List Fr), len = fs.length ∧ Frames w w.heap.size A vs fs ∧ len ≤ cap ∧ cap ≤ maxLen ∧ ∀ f ∈ fs, f.v.length ≤ 140737488355328 := by
  obtain ⟨cs, n, h1, h2, h3, h4, _, h5⟩ := open_cells (k := 2) Tryd.underlying29 (by kernel_rfl) (by omega) h hs
  have h6 : ∀ i, i < len → ∃ f : Fr, ∃ v, cs[i * 2]? = some (hv f.t) ∧ cs[i * 2 + 1]? = some v ∧ IsB w w.heap.size v f.v ∧ f.v.length ≤ 140737488355328 := by
    intro i hi
    obtain ⟨y, hy, hsy⟩ := h5 i hi
    have hl2 : ((cs.drop (i * 2)).take 2).length = 2 := by rw [List.length_take, List.length_drop]; omega
    have hc : ∀ r, r < 2 → cs[i * 2 + r]? = ((cs.drop (i * 2)).take 2)[r]? := by
      intro r hr
      rw [List.getElem?_take, if_pos hr, List.getElem?_drop]
    match hcs : (cs.drop (i * 2)).take 2, hl2 with
    | [u, v], _ =>
      rw [hcs] at hy hc
      obtain ⟨y0, y1, n', hyx, _, f0, f1⟩ := ChangeShapes.trod_struct2 Tryd.underlying51 hy
      have c0 : Tryd.prog.cellsOf 45 = 1 := by kernel_rfl
      have c1 : Tryd.prog.cellsOf 22 = 1 := by kernel_rfl
      have f0' : DataW.trod enc Tryd.prog w 0 (fun _ => true) true n' 45 (([u, v].drop 0).take (Tryd.prog.cellsOf 45)) = some y0 := f0
      have f1' : DataW.trod enc Tryd.prog w 0 (fun _ => true) true n' 22 (([u, v].drop 1).take (Tryd.prog.cellsOf 22)) = some y1 := f1
      rw [c0] at f0'
      rw [c1] at f1'
      have f1'' : DataW.trod enc Tryd.prog w 0 (fun _ => true) true n' 22 [v] = some y1 := f1'
      obtain ⟨z, e0, _, wz⟩ := DataW.trod_int Tryd.underlying45 f0'
      have e0' : u = .int .u16 z := (List.cons.inj e0).1
      obtain ⟨A', l', c', hv'⟩ := slice_of_trod Tryd.underlying22 f1''
      rw [hv'] at f1''
      obtain ⟨p, rfl, g2, g3, g4⟩ := open_bytes Tryd.underlying22 Tryd.underlying5 (by kernel_rfl) f1''
      have hsy1 : Small Tryd.prog 22 y1.1 := fun m hm => by
        refine hsy m ?_
        rw [hyx]
        simp only [DataW.weights, Tryd.underlying51]
        show m ∈ DataW.weightsEach Tryd.prog [45, 22] [y0.1, y1.1]
        simp only [DataW.weightsEach, List.mem_append]
        exact .inr (.inl hm)
      obtain ⟨_, _, _, _, _, _, g5, _⟩ := open_cells (k := 1) Tryd.underlying22 (by kernel_rfl) (by omega) f1'' hsy1
      rw [bytesOf_u8] at g5
      unfold reachBytes at g5
      refine ⟨⟨u16of z.toNat, p⟩, v, ?_, ?_, ⟨A', c', hv', g2, g3, g4⟩, by show p.length ≤ _; omega⟩
      · have := hc 0 (by omega)
        rw [e0', hv_of' (wf_u16 wz)] at this
        simpa using this
      · simpa using hc 1 (by omega)
  obtain ⟨fs, p1, p2⟩ := build_list len h6
  refine ⟨cs, fs, p1.symm, ⟨h2, by omega, fun i f hf => ?_⟩, h3, h4, fun f hf => ?_⟩
  · obtain ⟨v, a1, a2, a3, _⟩ := p2 i f hf
    exact ⟨v, a1, a2, a3⟩
  · obtain ⟨i, hi, rfl⟩ := List.mem_iff_getElem.1 hf
    obtain ⟨v, _, _, _, a4⟩ := p2 i _ (List.getElem?_eq_getElem hi)
    exact a4
set_option maxRecDepth 100000 in
theorem law_TlvJoins {H : Type} {enc : TypeId × Value → H} {W : World} {base : Nat} {v0 : Value} {d0 : DataW H} {p0 : List MemPlace}
    (o0 : Value.okWide Tryd.prog W .any base 29 v0) (h0 : DataW.Trod enc Tryd.prog W 0 (fun _ => true) true 29 v0 d0 p0) (s0 : Small Tryd.prog 29 d0) (hL : laidMetH Tryd.prog laidL W) :
    Calls Tryd.prog 4 #[v0] W fun e w' => e = .returned (.bool true) ∧ Below W.heap.size W w' := by
  obtain ⟨A, n, c, rfl⟩ := okWide_slice Tryd.underlying29 o0
  obtain ⟨fuel, hf⟩ := h0
  obtain ⟨vs, fs, rfl, hF, hc, hcm, hv⟩ := open_frames hf s0
  exact tjoins_any A c vs fs W hF (Nat.le_trans hc hcm) hv (handle_of_laid hL)
end Go.Proofs.YtomplajecekhiaaDoor
