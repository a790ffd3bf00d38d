/- Layer 9: what the listed variables give a walk, and a world that meets them. No condition of its own. -/
import Derived.Test.YtemeeeiglifpaaaDoorRows
import Derived.Test.YtemeeeiglifpaaaDoorAddrGC
import Derived.Test.YtemeeeiglifpaaaDoorOpen
import Derived.ProofKit
import Derived.OpenShut
import Derived.LaidMore
import Derived.LaidHandle
import Derived.Lay
import Derived.Stop.Joined
import Derived.Lib.LaidU8











namespace Go.Proofs.YtemeeeiglifpaaaDoor
open Go.ChangeShapes Go.WideShapes Go.ChangeAt Go.RowKit

abbrev laidL : List (String × DataW Unit) := [("math/bits.deBruijn32tab", Rows.laid_math_bits_deBruijn32tab), ("math/bits.deBruijn64tab", Rows.laid_math_bits_deBruijn64tab), ("internal/strconv.uint64pow10", Rows.laid_internal_strconv_uint64pow10), ("unicode/utf8.acceptRanges", Rows.laid_unicode_utf8_acceptRanges), ("strconv.ErrRange", Rows.laid_strconv_ErrRange), ("strconv.ErrSyntax", Rows.laid_strconv_ErrSyntax), ("wharf/address.notations", Rows.laid_wharf_address_notations), ("unicode/utf8.first", Rows.laid_unicode_utf8_first)]
theorem laid_plain {W : World} (h : laidMetH Tryd.prog laidL W) : laidMet Tryd.prog laidL W := h
theorem int_cell {W : World} {n : String} {d : DataW Unit} (h : Lib.VarReads Tryd.prog W n d) {g : Nat} (hg : Tryd.prog.globalNamed n = some g) {t e : TypeId} (ht : (Tryd.prog.globals[g]?).map (·.type) = some t) {m : Nat} {k : IntKind}
    (hu : Tryd.prog.underlying t = some (.array m e)) (he : Tryd.prog.underlying e = some (.int k)) (hc : Tryd.prog.cellsOf e = 1) {i : Nat} (hi : i < m) {ds : List (DataW Unit)} (hd : d = .agg ds) {z : Int} (hz : ds[i]? = some (.lit (.int k z))) :
    W.cell? ⟨g, i, none⟩ = some (.int k z) := by
  subst hd
  obtain ⟨g', t', cs, fuel, p, h1, h2, h3, h4⟩ := h
  obtain rfl := Option.some.inj (hg.symm.trans h1)
  obtain rfl := Option.some.inj (ht.symm.trans h2)
  obtain ⟨fuel', d', q, e1, e2⟩ := Lib.array_elem hu h4 i hi
  rw [hz] at e1
  cases e1
  rw [hc, Nat.mul_one] at e2
  obtain ⟨n', e3, e4, _⟩ := DataW.trod_int he e2
  have hn : n' = z := by
    have := congrArg Prod.fst e4
    simp only [DataW.lit.injEq, Lit.int.injEq, true_and] at this
    exact this.symm
  subst hn
  rw [World.var?_cell hg h3 i]
  have : cs.toList[i]? = some (.int k n') := by
    have h0 : ((cs.toList.drop i).take 1)[0]? = some (.int k n') := by rw [e3]; rfl
    simpa using h0
  simpa using this
theorem num_of_laid {W : World} (h : laidMetH Tryd.prog laidL W) : NumT W := by
  have hl := laid_plain h
  refine ⟨?_, fun i hi => ?_⟩
  · have h1 := Lib.laidMet.reads hl (.tail _ (.head _))
    exact int_cell h1 (by kernel_rfl) (t := 130) (by kernel_rfl) Tryd.underlying130 Tryd.underlying5 (by kernel_rfl) (i := 15) (by omega) rfl rfl
  · have h1 := Lib.laidMet.reads hl (.tail _ (.tail _ (.head _)))
    have e2 : (Rows.laid_internal_strconv_uint64pow10 : DataW Unit) = .agg ((List.range 20).map fun j => .lit (.int .u64 ((pwT j : Nat) : Int))) := by kernel_rfl
    exact int_cell h1 (by kernel_rfl) (t := 114) (by kernel_rfl) Tryd.underlying114 Tryd.underlying65 (by kernel_rfl) hi e2 (by rw [List.getElem?_map, List.getElem?_range hi]; rfl)
set_option maxRecDepth 100000 in
theorem iface_cell {W : World} {n nm : String} {d : DataW Unit} (h : Lib.VarReads Tryd.prog W n (.iface nm d)) {g : Nat} (hg : Tryd.prog.globalNamed n = some g) {t : TypeId} {ms} (ht : (Tryd.prog.globals[g]?).map (·.type) = some t)
    (hu : Tryd.prog.underlying t = some (.interface ms)) : ∃ u v, W.cell? ⟨g, 0, none⟩ = some (.iface u v) := by
  obtain ⟨g', t', cs, fuel, p, h1, h2, h3, h4⟩ := h
  obtain rfl := Option.some.inj (hg.symm.trans h1)
  obtain rfl := Option.some.inj (ht.symm.trans h2)
  cases fuel with
  | zero => simp [DataW.trod] at h4
  | succ fuel =>
    unfold DataW.trod at h4
    rw [hu] at h4
    rw [World.var?_cell hg h3 0]
    have key : ∀ u v, cs.toList = [Value.iface u v] → ∃ u v, cs[0]? = some (Value.iface u v) := fun u v hc => ⟨u, v, by rw [← Array.getElem?_toList, hc]; rfl⟩
    split at h4
    all_goals first | (exact key _ _ (by assumption)) | (cases h4; done) | (simp_all; done)
theorem errs_of_laid {W : World} (h : laidMetH Tryd.prog laidL W) : Errs W := by
  have hl := laid_plain h
  refine ⟨?_, ?_⟩
  · exact iface_cell (Lib.laidMet.reads hl (.tail _ (.tail _ (.tail _ (.tail _ (.tail _ (.head _))))))) (by kernel_rfl) (t := 57) (by kernel_rfl) Tryd.underlying57
  · exact iface_cell (Lib.laidMet.reads hl (.tail _ (.tail _ (.tail _ (.tail _ (.head _)))))) (by kernel_rfl) (t := 57) (by kernel_rfl) Tryd.underlying57

abbrev ntDs : List (List (DataW Unit)) := [[.lit (.int .u16 5), .lit (.int .i64 4), .lit (.int .i64 1), .lit (.int .i64 10), .lit (.string [46])], [.lit (.int .u16 6), .lit (.int .i64 16), .lit (.int .i64 2), .lit (.int .i64 16), .lit (.string [58])]]
set_option maxRecDepth 100000 in
theorem nt_struct {W : World} {fuel : Nat} {cs : List Value} {k a b c m : DataW Unit} {q : List MemPlace} (h : DataW.trod (fun _ => ()) Tryd.prog W 0 (fun _ => true) false fuel 44 cs = some (.agg [k, a, b, c, m], q)) :
    cs.length = 5 ∧ ∃ f q0 q1 q2 q3 q4, DataW.trod (fun _ => ()) Tryd.prog W 0 (fun _ => true) false f 23 (cs.take 1) = some (k, q0) ∧ DataW.trod (fun _ => ()) Tryd.prog W 0 (fun _ => true) false f 3 ((cs.drop 1).take 1) = some (a, q1) ∧
      DataW.trod (fun _ => ()) Tryd.prog W 0 (fun _ => true) false f 3 ((cs.drop 2).take 1) = some (b, q2) ∧ DataW.trod (fun _ => ()) Tryd.prog W 0 (fun _ => true) false f 3 ((cs.drop 3).take 1) = some (c, q3) ∧ DataW.trod (fun _ => ()) Tryd.prog W 0 (fun _ => true) false f 9 ((cs.drop 4).take 1) = some (m, q4) := by
  obtain ⟨xs, f, _, e, hl, hx, hf⟩ := DataW.trod_struct Tryd.underlying44 h
  have hl' : cs.length = 5 := hl.trans (by kernel_rfl)
  match xs, hx with
  | [x0, x1, x2, x3, x4], _ =>
    simp only [List.map_cons, List.map_nil, Prod.mk.injEq, DataW.agg.injEq, List.cons.injEq, and_true] at e
    obtain ⟨⟨rfl, rfl, rfl, rfl, rfl⟩, _⟩ := e
    exact ⟨hl', f, x0.2, x1.2, x2.2, x3.2, x4.2, hf 0 _ rfl, hf 1 _ rfl, hf 2 _ rfl, hf 3 _ rfl, hf 4 _ rfl⟩
theorem nt_cells {W : World} {fuel : Nat} {cs : List Value} {k a b c : Int} {m : List UInt8} {q : List MemPlace} (h : DataW.trod (fun _ => ()) Tryd.prog W 0 (fun _ => true) false fuel 44 cs = some (.agg [.lit (.int .u16 k), .lit (.int .i64 a), .lit (.int .i64 b), .lit (.int .i64 c), .lit (.string m)], q)) :
    ∃ s : ByteArray, s.data.toList = m ∧ cs = [.int .u16 k, .int .i64 a, .int .i64 b, .int .i64 c, .string s] := by
  obtain ⟨hl, f, q0, q1, q2, q3, q4, h0, h1, h2, h3, h4⟩ := nt_struct h
  match cs, hl with
  | [c0, c1, c2, c3, c4], _ =>
    obtain ⟨z0, e0, d0, _⟩ := DataW.trod_int Tryd.underlying23 h0
    obtain ⟨z1, e1, d1, _⟩ := DataW.trod_int Tryd.underlying3 h1
    obtain ⟨z2, e2, d2, _⟩ := DataW.trod_int Tryd.underlying3 h2
    obtain ⟨z3, e3, d3, _⟩ := DataW.trod_int Tryd.underlying3 h3
    obtain ⟨s, e4, d4, _⟩ := DataW.trod_string Tryd.underlying9 h4
    refine ⟨s, ?_, ?_⟩
    · simp_all
    · simp_all
set_option maxRecDepth 100000 in
theorem tbl_of_laid {W : World} (h : laidMetH Tryd.prog laidL W) : Tbl W := by
  have hr := Lib.laidMet.reads (laid_plain h) (.tail _ (.tail _ (.tail _ (.tail _ (.tail _ (.tail _ (.head _)))))))
  obtain ⟨g, t, cs, fuel, p, h1, h2, h3, h4⟩ := hr
  obtain rfl : 0 = g := Option.some.inj ((show Tryd.prog.globalNamed "wharf/address.notations" = some 0 by kernel_rfl).symm.trans h1)
  obtain rfl : 45 = t := Option.some.inj ((show (Tryd.prog.globals[0]?).map (·.type) = some 45 by kernel_rfl).symm.trans h2)
  obtain ⟨f0, d0, q0, e0, k0⟩ := Lib.array_elem Tryd.underlying45 h4 0 (by omega)
  obtain ⟨f1, d1, q1, e1, k1⟩ := Lib.array_elem Tryd.underlying45 h4 1 (by omega)
  have hc : Tryd.prog.cellsOf 44 = 5 := by kernel_rfl
  rw [hc] at k0 k1
  cases e0
  cases e1
  obtain ⟨s0, m0, c0⟩ := nt_cells k0
  obtain ⟨s1, m1, c1⟩ := nt_cells k1
  obtain rfl : s0 = ⟨#[46]⟩ := by obtain ⟨⟨l⟩⟩ := s0; simp_all
  obtain rfl : s1 = ⟨#[58]⟩ := by obtain ⟨⟨l⟩⟩ := s1; simp_all
  have hh : ∀ j, W.cell? ⟨0, j, none⟩ = cs.toList[j]? := fun j => by rw [World.var?_cell (show Tryd.prog.globalNamed "wharf/address.notations" = some 0 by kernel_rfl) h3 j, Array.getElem?_toList]
  have ha : ∀ j, j < 5 → cs.toList[j]? = ([.int .u16 5, .int .i64 4, .int .i64 1, .int .i64 10, .string ⟨#[46]⟩] : List Value)[j]? := fun j hj => by rw [← c0]; simp [hj]
  have hb : ∀ j, j < 5 → cs.toList[5 + j]? = ([.int .u16 6, .int .i64 16, .int .i64 2, .int .i64 16, .string ⟨#[58]⟩] : List Value)[j]? := fun j hj => by rw [← c1]; simp [hj]
  intro j v hj
  rw [hh]
  match j, hj with
  | 0, hj => exact (ha 0 (by omega)).trans hj
  | 1, hj => exact (ha 1 (by omega)).trans hj
  | 2, hj => exact (ha 2 (by omega)).trans hj
  | 3, hj => exact (ha 3 (by omega)).trans hj
  | 4, hj => exact (ha 4 (by omega)).trans hj
  | 5, hj => exact (hb 0 (by omega)).trans hj
  | 6, hj => exact (hb 1 (by omega)).trans hj
  | 7, hj => exact (hb 2 (by omega)).trans hj
  | 8, hj => exact (hb 3 (by omega)).trans hj
  | 9, hj => exact (hb 4 (by omega)).trans hj
theorem at_of_laid {W : World} (h : laidMetH Tryd.prog laidL W) : AT W := ⟨tbl_of_laid h, num_of_laid h⟩
/-- the witness: what the door's own run leaves, and the pinned table in its row -/
noncomputable def wdoor (os : Os) : World := { World.doorLaid Tryd.prog 200 os with heap := (World.doorLaid Tryd.prog 200 os).heap.set! 7 (.cells (Go.Pinned.utf8FirstZ.map fun (z : Nat) => Value.int .u8 (Int.ofNat z)).toArray 131 (0, 0)) }
set_option maxRecDepth 100000 in
theorem door_met (os : Os) (args : Array Value) : laidMetH Tryd.prog laidL ((wdoor os).forCall (fun _ _ => 0) ⟨#[], args, []⟩).memory :=
  laidMetH_of_parts3 (fuel := 8) (laidMet_of_run' 8 (by kernel_rfl) (by kernel_rfl)) (by kernel_rfl) (by kernel_rfl)
set_option maxRecDepth 100000 in
theorem door_shaped (os : Os) (args : Array Value) : ((wdoor os).forCall (fun _ _ => 0) ⟨#[], args, []⟩).Shaped Tryd.prog := World.shaped_of_RefB (by kernel_rfl) (by kernel_rfl)
end Go.Proofs.YtemeeeiglifpaaaDoor

