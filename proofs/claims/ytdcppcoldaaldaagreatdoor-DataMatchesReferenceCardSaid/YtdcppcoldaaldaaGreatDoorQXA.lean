/- Layer 13: what an argument that is a description reads as. No condition of its own. -/
/- Layer 13: what an argument that is a list of descriptions reads as. No condition of its own. -/
import Derived.Test.YtdcppcoldaaldaaGreatDoorQNS
import Derived.Test.YtdcppcoldaaldaaGreatDoorQA
import Derived.Test.YtdcppcoldaaldaaGreatDoorQNodeUO
import Derived.Test.YtdcppcoldaaldaaGreatDoorQCX
import Derived.Test.YtdcppcoldaaldaaGreatDoorQDA
import Derived.ProofKit
import Derived.OpenShut
import Derived.LaidMore
import Derived.LaidHandle
import Derived.Lay
import Derived.Stop.Joined
import Derived.Test.YtdcppcoldaaldaaGreatDoorQDP











namespace Go.Proofs.YtdcppcoldaaldaaGreatDoor
open Go.ChangeShapes Go.WideShapes Go.ChangeAt Go.RowKit

theorem uv_of13 {z : Int} (h : 0 ≤ z ∧ z < 4294967296) : Value.int .u32 z = uv (UInt32.ofNat z.toNat) := by
  rw [uv, UInt32.toNat_ofNat']
  congr 1
  omega
section
variable {H : Type} {enc : TypeId × Value → H} {w : World} {fuel : Nat} {x : DataW H × List MemPlace}
set_option maxRecDepth 100000 in
set_option maxHeartbeats 2000000 in
/-- ten cells that are a description -/
theorem part_of_trod {u : List Value} (hf : DataW.trod enc Tryz.prog w 0 (fun _ => true) true fuel 26 u = some x) (hl : u.length = 10) :
    ∃ (p : Pt) (A : Option Addr) (c : Nat), u = (ptCells p A c).toList ∧ PtL w w.heap.size A c p := by
  match u, hl with
  | [u0, u1, u2, u3, u4, u5, u6, u7, u8, u9], _ =>
    obtain ⟨xs, n, hn, rfl, hl, hlen, hf⟩ := DataW.trod_struct Tryz.underlying26 hf
    match xs, hlen with
    | [y0, y1, y2, y3, y4, y5, y6, y7, y8, y9], _ =>
      have f0 : DataW.trod enc Tryz.prog w 0 (fun _ => true) true n 4 [u0] = some y0 := by
        have h9 := hf 0 _ rfl
        have e : Tryz.prog.cellsOf 4 = 1 := by kernel_rfl
        have h8 : DataW.trod enc Tryz.prog w 0 (fun _ => true) true n 4 (([u0, u1, u2, u3, u4, u5, u6, u7, u8, u9].drop 0).take (Tryz.prog.cellsOf 4)) = some y0 := h9
        rw [e] at h8
        exact h8
      have f1 : DataW.trod enc Tryz.prog w 0 (fun _ => true) true n 22 [u1] = some y1 := by
        have h9 := hf 1 _ rfl
        have e : Tryz.prog.cellsOf 22 = 1 := by kernel_rfl
        have h8 : DataW.trod enc Tryz.prog w 0 (fun _ => true) true n 22 (([u0, u1, u2, u3, u4, u5, u6, u7, u8, u9].drop 1).take (Tryz.prog.cellsOf 22)) = some y1 := h9
        rw [e] at h8
        exact h8
      have f2 : DataW.trod enc Tryz.prog w 0 (fun _ => true) true n 23 [u2] = some y2 := by
        have h9 := hf 2 _ rfl
        have e : Tryz.prog.cellsOf 23 = 1 := by kernel_rfl
        have h8 : DataW.trod enc Tryz.prog w 0 (fun _ => true) true n 23 (([u0, u1, u2, u3, u4, u5, u6, u7, u8, u9].drop 2).take (Tryz.prog.cellsOf 23)) = some y2 := h9
        rw [e] at h8
        exact h8
      have f3 : DataW.trod enc Tryz.prog w 0 (fun _ => true) true n 22 [u3] = some y3 := by
        have h9 := hf 3 _ rfl
        have e : Tryz.prog.cellsOf 22 = 1 := by kernel_rfl
        have h8 : DataW.trod enc Tryz.prog w 0 (fun _ => true) true n 22 (([u0, u1, u2, u3, u4, u5, u6, u7, u8, u9].drop 3).take (Tryz.prog.cellsOf 22)) = some y3 := h9
        rw [e] at h8
        exact h8
      have f4 : DataW.trod enc Tryz.prog w 0 (fun _ => true) true n 22 [u4] = some y4 := by
        have h9 := hf 4 _ rfl
        have e : Tryz.prog.cellsOf 22 = 1 := by kernel_rfl
        have h8 : DataW.trod enc Tryz.prog w 0 (fun _ => true) true n 22 (([u0, u1, u2, u3, u4, u5, u6, u7, u8, u9].drop 4).take (Tryz.prog.cellsOf 22)) = some y4 := h9
        rw [e] at h8
        exact h8
      have f5 : DataW.trod enc Tryz.prog w 0 (fun _ => true) true n 4 [u5] = some y5 := by
        have h9 := hf 5 _ rfl
        have e : Tryz.prog.cellsOf 4 = 1 := by kernel_rfl
        have h8 : DataW.trod enc Tryz.prog w 0 (fun _ => true) true n 4 (([u0, u1, u2, u3, u4, u5, u6, u7, u8, u9].drop 5).take (Tryz.prog.cellsOf 4)) = some y5 := h9
        rw [e] at h8
        exact h8
      have f6 : DataW.trod enc Tryz.prog w 0 (fun _ => true) true n 4 [u6] = some y6 := by
        have h9 := hf 6 _ rfl
        have e : Tryz.prog.cellsOf 4 = 1 := by kernel_rfl
        have h8 : DataW.trod enc Tryz.prog w 0 (fun _ => true) true n 4 (([u0, u1, u2, u3, u4, u5, u6, u7, u8, u9].drop 6).take (Tryz.prog.cellsOf 4)) = some y6 := h9
        rw [e] at h8
        exact h8
      have f7 : DataW.trod enc Tryz.prog w 0 (fun _ => true) true n 4 [u7] = some y7 := by
        have h9 := hf 7 _ rfl
        have e : Tryz.prog.cellsOf 4 = 1 := by kernel_rfl
        have h8 : DataW.trod enc Tryz.prog w 0 (fun _ => true) true n 4 (([u0, u1, u2, u3, u4, u5, u6, u7, u8, u9].drop 7).take (Tryz.prog.cellsOf 4)) = some y7 := h9
        rw [e] at h8
        exact h8
      have f8 : DataW.trod enc Tryz.prog w 0 (fun _ => true) true n 4 [u8] = some y8 := by
        have h9 := hf 8 _ rfl
        have e : Tryz.prog.cellsOf 4 = 1 := by kernel_rfl
        have h8 : DataW.trod enc Tryz.prog w 0 (fun _ => true) true n 4 (([u0, u1, u2, u3, u4, u5, u6, u7, u8, u9].drop 8).take (Tryz.prog.cellsOf 4)) = some y8 := h9
        rw [e] at h8
        exact h8
      have f9 : DataW.trod enc Tryz.prog w 0 (fun _ => true) true n 24 [u9] = some y9 := by
        have h9 := hf 9 _ rfl
        have e : Tryz.prog.cellsOf 24 = 1 := by kernel_rfl
        have h8 : DataW.trod enc Tryz.prog w 0 (fun _ => true) true n 24 (([u0, u1, u2, u3, u4, u5, u6, u7, u8, u9].drop 9).take (Tryz.prog.cellsOf 24)) = some y9 := h9
        rw [e] at h8
        exact h8
      obtain ⟨z0, g0, _⟩ := DataW.trod_bool Tryz.underlying4 f0
      obtain rfl := (List.cons.inj g0).1
      obtain ⟨z1, g1, _, wz1⟩ := DataW.trod_int Tryz.underlying22 f1
      obtain rfl := (List.cons.inj g1).1
      obtain ⟨z2, g2, _, wz2⟩ := DataW.trod_int Tryz.underlying23 f2
      obtain rfl := (List.cons.inj g2).1
      obtain ⟨z3, g3, _, wz3⟩ := DataW.trod_int Tryz.underlying22 f3
      obtain rfl := (List.cons.inj g3).1
      obtain ⟨z4, g4, _, wz4⟩ := DataW.trod_int Tryz.underlying22 f4
      obtain rfl := (List.cons.inj g4).1
      obtain ⟨z5, g5, _⟩ := DataW.trod_bool Tryz.underlying4 f5
      obtain rfl := (List.cons.inj g5).1
      obtain ⟨z6, g6, _⟩ := DataW.trod_bool Tryz.underlying4 f6
      obtain rfl := (List.cons.inj g6).1
      obtain ⟨z7, g7, _⟩ := DataW.trod_bool Tryz.underlying4 f7
      obtain rfl := (List.cons.inj g7).1
      obtain ⟨z8, g8, _⟩ := DataW.trod_bool Tryz.underlying4 f8
      obtain rfl := (List.cons.inj g8).1
      obtain ⟨A', l', c', rfl⟩ := slice_of_trod Tryz.underlying24 f9
      obtain ⟨pp, rfl, q2, q3, q4⟩ := open_bytes Tryz.underlying24 Tryz.underlying5 (by kernel_rfl) f9
      rw [uv_of13 (wf_u32 wz1), hv_of' (wf_u16 wz2), uv_of13 (wf_u32 wz3), uv_of13 (wf_u32 wz4)]
      exact ⟨⟨z0, UInt32.ofNat z1.toNat, u16of z2.toNat, UInt32.ofNat z3.toNat, UInt32.ofNat z4.toNat, z5, z6, z7, z8, pp⟩, A', c', rfl, q2, q3, q4⟩
end
section
variable {H : Type} {enc : TypeId × Value → H} {w : World} {base : Nat} {v : Value} {d : DataW H} {p : List MemPlace}
end
end Go.Proofs.YtdcppcoldaaldaaGreatDoor





namespace Go.Proofs.YtdcppcoldaaldaaGreatDoor
open Go.ChangeShapes Go.WideShapes Go.ChangeAt Go.RowKit

/-- cells that are, ten by ten, those of descriptions -/
theorem flat_of {cs : List Value} {ms : List Pm} (hl : cs.length = ms.length * 10) (h : ∀ i m, ms[i]? = some m → (cs.drop (i * 10)).take 10 = (ptCells m.p m.A m.c).toList) : cs = pmFlat ms := by
  refine List.ext_getElem? fun j => ?_
  by_cases hj : j < cs.length
  · obtain ⟨m, hm⟩ : ∃ m, ms[j / 10]? = some m := ⟨_, List.getElem?_eq_getElem (by omega)⟩
    have e1 := pmFlat_at hm (j % 10) (by omega)
    have e2 : j / 10 * 10 + j % 10 = j := by omega
    rw [e2] at e1
    rw [e1, ← h _ m hm, List.getElem?_take, if_pos (by omega), List.getElem?_drop, e2]
  · rw [List.getElem?_eq_none (by omega), List.getElem?_eq_none (by rw [pmFlat_len]; omega)]
section
variable {H : Type} {enc : TypeId × Value → H} {w : World} {base : Nat} {v : Value} {d : DataW H} {p : List MemPlace}
set_option maxRecDepth 100000 in
/-- an argument that is a list of descriptions -/
theorem open_parts13 (o : Value.okWide Tryz.prog w .any base 43 v) (h : DataW.Trod enc Tryz.prog w 0 (fun _ => true) true 43 v d p) (s : Small Tryz.prog 43 d) :
    ∃ (A : Option Addr) (c : Nat) (ms : List Pm), v = .slice A ms.length c ∧ Pts w w.heap.size A c ms := by
  obtain ⟨A, n, c, rfl⟩ := okWide_slice Tryz.underlying43 o
  obtain ⟨fuel, hf⟩ := h
  have c10 : Tryz.prog.cellsOf 26 = 10 := by kernel_rfl
  obtain ⟨cs, f, hl, hL, h1, h2, _, h3⟩ := open_cells Tryz.underlying43 c10 (by omega) hf s
  have h6 : ∀ i, i < n → ∃ m : Pm, (cs.drop (i * 10)).take 10 = (ptCells m.p m.A m.c).toList ∧ PtL w w.heap.size m.A m.c m.p := fun i hi => by
    obtain ⟨y, hy, _⟩ := h3 i hi
    obtain ⟨q, A', c', e, hq⟩ := part_of_trod hy (by rw [List.length_take, List.length_drop]; omega)
    exact ⟨⟨q, A', c'⟩, e, hq⟩
  obtain ⟨ms, p1, p2⟩ := build_list n h6
  subst p1
  have e := flat_of hl fun i m hm => (p2 i m hm).1
  refine ⟨A, c, ms, rfl, e ▸ hL, fun m hm => ?_, h1, h2⟩
  obtain ⟨i, hi, rfl⟩ := List.mem_iff_getElem.1 hm
  exact (p2 i _ (List.getElem?_eq_getElem hi)).2
end
end Go.Proofs.YtdcppcoldaaldaaGreatDoor


