/- Layer 18: what the two listed variables give a walk, and a world that meets them. No condition of its own. -/
import Derived.Test.YteknmgmdmjmnmaaGreatDoorRows
import Derived.Test.YteknmgmdmjmnmaaGreatDoorUNS
import Derived.Test.YteknmgmdmjmnmaaGreatDoorUADR
import Derived.ProofKit
import Derived.OpenShut
import Derived.LaidMore
import Derived.LaidHandle
import Derived.Lay
import Derived.Stop.Joined
import Derived.Lib.LaidU8










namespace Go.Proofs.YteknmgmdmjmnmaaGreatDoor
open Go.ChangeShapes Go.WideShapes Go.ChangeAt Go.RowKit

abbrev laid18 : List (String × DataW Unit) := [("errors.errorType", Rows.laid_errors_errorType), ("wharf/address.notations", Rows.laid_wharf_address_notations)]
theorem laid18_parts {W : World} (h : laidMetH Tryz.prog laid18 W) : laidMet Tryz.prog [("wharf/address.notations", Rows.laid_wharf_address_notations)] W ∧ handlesMet Tryz.prog [("errors.errorType", Rows.laid_errors_errorType)] W := h
theorem handle_of18 {W : World} (h : laidMetH Tryz.prog laid18 W) : Handle W := by
  obtain ⟨name, u, ty, e1, e2, e3, e4, e5⟩ := (laid18_parts h).2 _ (List.mem_singleton.2 rfl)
  have en : name = [101, 114, 114, 111, 114] := (Option.some.inj e1).symm
  subst en
  obtain rfl := Option.some.inj (rtRow.symm.trans e2)
  have hm : ty ∈ (List.range Tryz.prog.types.size).filter fun t => Tryz.prog.rowNamed t [101, 114, 114, 111, 114] := List.mem_filter.2 ⟨List.mem_range.2 e3, e4⟩
  rw [oneRow] at hm
  obtain rfl := List.mem_singleton.1 hm
  have hh : typeHandle Tryz.prog 120 = .pointer (some ⟨2, 120, none⟩) := by kernel_rfl
  rw [hh] at e5
  have := World.var?_cell (show Tryz.prog.globalNamed "errors.errorType" = some 1 by kernel_rfl) e5 0
  unfold Handle
  simpa using this
set_option maxRecDepth 100000 in
theorem nt_struct18 {W : World} {fuel : Nat} {cs : List Value} {k a b c m : DataW Unit} {q : List MemPlace} (h : DataW.trod (fun _ => ()) Tryz.prog W 0 (fun _ => true) false fuel 160 cs = some (.agg [k, a, b, c, m], q)) :
    cs.length = 5 ∧ ∃ f q0 q1 q2 q3 q4, DataW.trod (fun _ => ()) Tryz.prog W 0 (fun _ => true) false f 37 (cs.take 1) = some (k, q0) ∧ DataW.trod (fun _ => ()) Tryz.prog W 0 (fun _ => true) false f 3 ((cs.drop 1).take 1) = some (a, q1) ∧
      DataW.trod (fun _ => ()) Tryz.prog W 0 (fun _ => true) false f 3 ((cs.drop 2).take 1) = some (b, q2) ∧ DataW.trod (fun _ => ()) Tryz.prog W 0 (fun _ => true) false f 3 ((cs.drop 3).take 1) = some (c, q3) ∧ DataW.trod (fun _ => ()) Tryz.prog W 0 (fun _ => true) false f 9 ((cs.drop 4).take 1) = some (m, q4) := by
  obtain ⟨xs, f, _, e, hl, hx, hf⟩ := DataW.trod_struct Tryz.underlying160 h
  have hl' : cs.length = 5 := hl.trans (by kernel_rfl)
  match xs, hx with
  | [x0, x1, x2, x3, x4], _ =>
    simp only [List.map_cons, List.map_nil, Prod.mk.injEq, DataW.agg.injEq, List.cons.injEq, and_true] at e
    obtain ⟨⟨rfl, rfl, rfl, rfl, rfl⟩, _⟩ := e
    exact ⟨hl', f, x0.2, x1.2, x2.2, x3.2, x4.2, hf 0 _ rfl, hf 1 _ rfl, hf 2 _ rfl, hf 3 _ rfl, hf 4 _ rfl⟩
theorem nt_cells18 {W : World} {fuel : Nat} {cs : List Value} {k a b c : Int} {m : List UInt8} {q : List MemPlace} (h : DataW.trod (fun _ => ()) Tryz.prog W 0 (fun _ => true) false fuel 160 cs = some (.agg [.lit (.int .u16 k), .lit (.int .i64 a), .lit (.int .i64 b), .lit (.int .i64 c), .lit (.string m)], q)) :
    ∃ s : ByteArray, s.data.toList = m ∧ cs = [.int .u16 k, .int .i64 a, .int .i64 b, .int .i64 c, .string s] := by
  obtain ⟨hl, f, q0, q1, q2, q3, q4, h0, h1, h2, h3, h4⟩ := nt_struct18 h
  match cs, hl with
  | [c0, c1, c2, c3, c4], _ =>
    obtain ⟨z0, e0, d0, _⟩ := DataW.trod_int Tryz.underlying37 h0
    obtain ⟨z1, e1, d1, _⟩ := DataW.trod_int Tryz.underlying3 h1
    obtain ⟨z2, e2, d2, _⟩ := DataW.trod_int Tryz.underlying3 h2
    obtain ⟨z3, e3, d3, _⟩ := DataW.trod_int Tryz.underlying3 h3
    obtain ⟨s, e4, d4, _⟩ := DataW.trod_string Tryz.underlying9 h4
    refine ⟨s, ?_, ?_⟩
    · simp_all
    · simp_all
set_option maxRecDepth 100000 in
theorem tbl_of18 {W : World} (h : laidMetH Tryz.prog laid18 W) : Tbl W := by
  have hr := Lib.laidMet.reads (laid18_parts h).1 (.head _)
  obtain ⟨g, t, cs, fuel, p, h1, h2, h3, h4⟩ := hr
  obtain rfl : 0 = g := Option.some.inj ((show Tryz.prog.globalNamed "wharf/address.notations" = some 0 by kernel_rfl).symm.trans h1)
  obtain rfl : 164 = t := Option.some.inj ((show (Tryz.prog.globals[0]?).map (·.type) = some 164 by kernel_rfl).symm.trans h2)
  obtain ⟨f0, d0, q0, e0, k0⟩ := Lib.array_elem Tryz.underlying164 h4 0 (by omega)
  obtain ⟨f1, d1, q1, e1, k1⟩ := Lib.array_elem Tryz.underlying164 h4 1 (by omega)
  have hc : Tryz.prog.cellsOf 160 = 5 := by kernel_rfl
  rw [hc] at k0 k1
  cases e0
  cases e1
  obtain ⟨s0, m0, c0⟩ := nt_cells18 k0
  obtain ⟨s1, m1, c1⟩ := nt_cells18 k1
  obtain rfl : s0 = ⟨#[46]⟩ := by obtain ⟨⟨l⟩⟩ := s0; simp_all
  obtain rfl : s1 = ⟨#[58]⟩ := by obtain ⟨⟨l⟩⟩ := s1; simp_all
  have hh : ∀ j, W.cell? ⟨0, j, none⟩ = cs.toList[j]? := fun j => by rw [World.var?_cell (show Tryz.prog.globalNamed "wharf/address.notations" = some 0 by kernel_rfl) h3 j, Array.getElem?_toList]
  have ha : ∀ j, j < 5 → cs.toList[j]? = ([.int .u16 5, .int .i64 4, .int .i64 1, .int .i64 10, .string ⟨#[46]⟩] : List Value)[j]? := fun j hj => by rw [← c0]; simp [hj]
  have hb : ∀ j, j < 5 → cs.toList[5 + j]? = ([.int .u16 6, .int .i64 16, .int .i64 2, .int .i64 16, .string ⟨#[58]⟩] : List Value)[j]? := fun j hj => by rw [← c1]; simp [hj]
  intro j v hj
  rw [hh]
  match j, hj with
  | 0, hj => exact (ha 0 (by omega)).trans hj
  | 1, hj => exact (ha 1 (by omega)).trans hj
  | 2, hj => exact (ha 2 (by omega)).trans hj
  | 3, hj => exact (ha 3 (by omega)).trans hj
  | 4, hj => exact (ha 4 (by omega)).trans hj
  | 5, hj => exact (hb 0 (by omega)).trans hj
  | 6, hj => exact (hb 1 (by omega)).trans hj
  | 7, hj => exact (hb 2 (by omega)).trans hj
  | 8, hj => exact (hb 3 (by omega)).trans hj
  | 9, hj => exact (hb 4 (by omega)).trans hj
theorem door18 (os : Os) (args : Array Value) : laidMetH Tryz.prog laid18 ((World.doorLaid Tryz.prog 200 os).forCall (fun _ _ => 0) ⟨#[], args, []⟩).memory :=
  laidMetH_of_parts3 (fuel := 8) (laidMet_of_run' 8 (by kernel_rfl) (by kernel_rfl)) (by kernel_rfl) (by kernel_rfl)
end Go.Proofs.YteknmgmdmjmnmaaGreatDoor


