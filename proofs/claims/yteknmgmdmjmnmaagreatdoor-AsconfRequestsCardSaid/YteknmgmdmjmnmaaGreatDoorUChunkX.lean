/- Layer 12: what an argument that is a chunk reads as. No condition of its own. -/
import Derived.Test.YteknmgmdmjmnmaaGreatDoorUNS
import Derived.Test.YteknmgmdmjmnmaaGreatDoorUA
import Derived.Test.YteknmgmdmjmnmaaGreatDoorUNO
import Derived.Test.YteknmgmdmjmnmaaGreatDoorUCA
import Derived.ProofKit
import Derived.OpenShut
import Derived.LaidMore
import Derived.LaidHandle
import Derived.Lay
import Derived.Stop.Joined










namespace Go.Proofs.YteknmgmdmjmnmaaGreatDoor
open Go.ChangeShapes Go.WideShapes Go.ChangeAt Go.RowKit

section
variable {H : Type} {enc : TypeId × Value → H} {P : Program} {w : World} {held : Bool} {t : TypeId} {fuel : Nat} {x : DataW H × List MemPlace}
theorem trod_struct4 {f0 f1 f2 f3 : Field} {cs : List Value} (ht : P.underlying t = some (.struct #[f0, f1, f2, f3])) (h : DataW.trod enc P w 0 (fun _ => true) held fuel t cs = some x) :
    ∃ y0 y1 y2 y3 n, x = (.agg [y0.1, y1.1, y2.1, y3.1], y0.2 ++ (y1.2 ++ (y2.2 ++ y3.2))) ∧ cs.length = P.cellsOf t ∧ DataW.trod enc P w 0 (fun _ => true) held n f0.type ((cs.drop f0.offset).take (P.cellsOf f0.type)) = some y0 ∧
      DataW.trod enc P w 0 (fun _ => true) held n f1.type ((cs.drop f1.offset).take (P.cellsOf f1.type)) = some y1 ∧ DataW.trod enc P w 0 (fun _ => true) held n f2.type ((cs.drop f2.offset).take (P.cellsOf f2.type)) = some y2 ∧
      DataW.trod enc P w 0 (fun _ => true) held n f3.type ((cs.drop f3.offset).take (P.cellsOf f3.type)) = some y3 := by
  obtain ⟨xs, n, hn, rfl, hl, hlen, hf⟩ := DataW.trod_struct ht h
  match xs, hlen with
  | [y0, y1, y2, y3], _ => exact ⟨y0, y1, y2, y3, n, by simp, hl, by simpa using hf 0 f0 rfl, by simpa using hf 1 f1 rfl, by simpa using hf 2 f2 rfl, by simpa using hf 3 f3 rfl⟩
end
theorem bv_of12 {z : Int} (h : 0 ≤ z ∧ z < 256) : Value.int .u8 z = bv (UInt8.ofNat z.toNat) := by
  rw [bv, UInt8.toNat_ofNat']
  congr 1
  omega
section
variable {H : Type} {enc : TypeId × Value → H} {w : World} {base : Nat} {v : Value} {d : DataW H} {p : List MemPlace}
set_option maxRecDepth 100000 in
set_option maxHeartbeats 1000000 in
/-- an argument that is a chunk -/
theorem open_chunk (o : Value.okWide Tryz.prog w .any base 62 v) (h : DataW.Trod enc Tryz.prog w 0 (fun _ => true) true 62 v d p) (s : Small Tryz.prog 62 d) :
    ∃ (x : Ck) (A : Option Addr) (c : Nat) (K : Option Addr) (k : Nat), v = ckV x A c K k ∧ Chunk w w.heap.size A c K k x ∧ ∀ n ∈ x.ks, Bnd n := by
  obtain ⟨cs, rfl, hsz⟩ := okWide_struct Tryz.underlying62 o
  obtain ⟨fuel, hf⟩ := h
  have c4 : Tryz.prog.cellsOf 62 = 4 := by kernel_rfl
  rw [c4] at hsz
  have hf' : DataW.trod enc Tryz.prog w 0 (fun _ => true) true fuel 62 cs.toList = some (d, p) := hf
  have hl4 : cs.toList.length = 4 := by simpa using hsz
  obtain ⟨u, hu⟩ : ∃ u, cs.toList = u := ⟨_, rfl⟩
  rw [hu] at hf' hl4
  match u, hl4 with
  | [u0, u1, u2, u3], _ =>
    obtain ⟨y0, y1, y2, y3, n', hyx, _, f0, f1, f2, f3⟩ := trod_struct4 Tryz.underlying62 hf'
    have e0 : Tryz.prog.cellsOf 5 = 1 := by kernel_rfl
    have e1 : Tryz.prog.cellsOf 48 = 1 := by kernel_rfl
    have e2 : Tryz.prog.cellsOf 49 = 1 := by kernel_rfl
    have f0' : DataW.trod enc Tryz.prog w 0 (fun _ => true) true n' 5 (([u0, u1, u2, u3].drop 0).take (Tryz.prog.cellsOf 5)) = some y0 := f0
    have f1' : DataW.trod enc Tryz.prog w 0 (fun _ => true) true n' 5 (([u0, u1, u2, u3].drop 1).take (Tryz.prog.cellsOf 5)) = some y1 := f1
    have f2' : DataW.trod enc Tryz.prog w 0 (fun _ => true) true n' 48 (([u0, u1, u2, u3].drop 2).take (Tryz.prog.cellsOf 48)) = some y2 := f2
    have f3' : DataW.trod enc Tryz.prog w 0 (fun _ => true) true n' 49 (([u0, u1, u2, u3].drop 3).take (Tryz.prog.cellsOf 49)) = some y3 := f3
    rw [e0] at f0' f1'
    rw [e1] at f2'
    rw [e2] at f3'
    have f2'' : DataW.trod enc Tryz.prog w 0 (fun _ => true) true n' 48 [u2] = some y2 := f2'
    have f3'' : DataW.trod enc Tryz.prog w 0 (fun _ => true) true n' 49 [u3] = some y3 := f3'
    obtain ⟨z0, g0, _, wz0⟩ := DataW.trod_int Tryz.underlying5 f0'
    obtain ⟨z1, g1, _, wz1⟩ := DataW.trod_int Tryz.underlying5 f1'
    have g0' : u0 = .int .u8 z0 := (List.cons.inj g0).1
    have g1' : u1 = .int .u8 z1 := (List.cons.inj g1).1
    obtain ⟨A', l', c', hv'⟩ := slice_of_trod Tryz.underlying48 f2''
    obtain ⟨K', m', k', hz'⟩ := slice_of_trod Tryz.underlying49 f3''
    rw [hv'] at f2''
    rw [hz'] at f3''
    obtain ⟨pp, rfl, q2, q3, q4⟩ := open_bytes Tryz.underlying48 Tryz.underlying5 (by kernel_rfl) f2''
    have hw : ∀ m, m ∈ DataW.weightsEach Tryz.prog [5, 5, 48, 49] [y0.1, y1.1, y2.1, y3.1] → m ≤ reachBytes := fun m hm => by
      have e := congrArg Prod.fst hyx
      refine s m ?_
      have e' : d = .agg [y0.1, y1.1, y2.1, y3.1] := e
      rw [e']
      simp only [DataW.weights, Tryz.underlying62]
      exact hm
    have hs3 : Small Tryz.prog 49 y3.1 := fun m hm => hw m (by
      simp only [DataW.weightsEach, List.mem_append]
      exact .inr (.inr (.inr (.inl hm))))
    obtain ⟨ks, rfl, r1, r2, r3, r4⟩ := opensN_all n' y3 K' m' k' f3'' hs3
    refine ⟨⟨UInt8.ofNat z0.toNat, UInt8.ofNat z1.toNat, pp, ks⟩, A', c', K', k', ?_, ⟨q2, q3, q4, r1, r2, r3⟩, r4⟩
    show Value.agg cs = .agg _
    congr 1
    refine Array.ext' ?_
    rw [hu, g0', g1', hv', hz', bv_of12 (wf_u8 wz0), bv_of12 (wf_u8 wz1)]
end
end Go.Proofs.YteknmgmdmjmnmaaGreatDoor


