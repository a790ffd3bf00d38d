/- Layer 14: a description of a sack as data, how it lies in memory; isUpTo, the closure of Covers, IndexFunc, ContainsFunc, Covers. They write nothing that was there. -/
/- Layer 14: two rows of the same gaps are equal; Same of a description and itself. They write nothing that was there. -/
/- Layer 14: the reference's Covers; given (written by tools/gen_sack_d.py). They write nothing that was there. -/
import Derived.Test.YtabljmiiekpgiaaGreatDoorQDP
import Derived.Test.YtabljmiiekpgiaaGreatDoorQDJ
import Derived.Test.YtabljmiiekpgiaaGreatDoorQCA
import Derived.Test.YtabljmiiekpgiaaGreatDoorQNF
import Derived.BigGuard
import Derived.Test.YtabljmiiekpgiaaGreatDoorQW
import Derived.Test.YtabljmiiekpgiaaGreatDoorQCG
import Derived.Test.YtabljmiiekpgiaaGreatDoorQNS
import Derived.Test.YtabljmiiekpgiaaGreatDoorQDT
import Derived.Deep.QuietTactic
import Derived.BigQuiet
import Derived.Deep.Cut
import Derived.Test.YtabljmiiekpgiaaGreatDoorQIB
import Derived.Test.YtabljmiiekpgiaaGreatDoorQWireF
import Derived.Laws.StructEq
import Derived.Deep.RegionHeld3
import Derived.Test.YtabljmiiekpgiaaGreatDoorQDataY




namespace Go.Proofs.YtabljmiiekpgiaaGreatDoor
open Go.RowKit

set_option linter.unusedSimpArgs false
structure Gp where
  f : UInt16
  t : UInt16
structure Sk where
  cum : UInt32
  win : UInt32
  gs : List Gp
  ds : List UInt32
def gpFlat (gs : List Gp) : List Value := gs.flatMap fun g => [hv g.f, hv g.t]
abbrev skCells (s : Sk) (G : Option Addr) (gc : Nat) (D : Option Addr) (dc : Nat) : Array Value := #[uv s.cum, uv s.win, .slice G s.gs.length gc, .slice D s.ds.length dc]
abbrev skV (s : Sk) (G : Option Addr) (gc : Nat) (D : Option Addr) (dc : Nat) : Value := .agg #[uv s.cum, uv s.win, .slice G s.gs.length gc, .slice D s.ds.length dc]
/-- what the gaps read as -/
structure GsL (w : World) (B : Nat) (G : Option Addr) (gc : Nat) (gs : List Gp) : Prop where
  lies : Lies w B G (gpFlat gs)
  c1 : gs.length ≤ gc
  c2 : gc ≤ maxLen
structure SkL (w : World) (B : Nat) (G : Option Addr) (gc : Nat) (D : Option Addr) (dc : Nat) (s : Sk) : Prop where
  gl : GsL w B G gc s.gs
  dl : Lies w B D (s.ds.map uv)
  d1 : s.ds.length ≤ dc
  d2 : dc ≤ maxLen
theorem gpFlat_len (gs : List Gp) : (gpFlat gs).length = gs.length * 2 := by
  induction gs with
  | nil => rfl
  | cons g gs ih => simp only [gpFlat, List.flatMap_cons, List.length_append, List.length_cons, List.length_nil] at ih ⊢; omega
theorem gpFlat_snoc (gs : List Gp) (g : Gp) : gpFlat (gs ++ [g]) = gpFlat gs ++ [hv g.f, hv g.t] := by simp [gpFlat]
theorem gpFlat_at {gs : List Gp} : ∀ {k : Nat} {g : Gp}, gs[k]? = some g → (gpFlat gs)[k * 2]? = some (hv g.f) ∧ (gpFlat gs)[k * 2 + 1]? = some (hv g.t) := by
  induction gs with
  | nil => intro k g h; simp at h
  | cons x gs ih =>
    intro k g h
    have e : gpFlat (x :: gs) = hv x.f :: hv x.t :: gpFlat gs := rfl
    cases k with
    | zero =>
      simp only [List.getElem?_cons_zero, Option.some.injEq] at h
      subst h
      rw [e]
      exact ⟨rfl, rfl⟩
    | succ k =>
      have h2 := ih (k := k) (g := g) (by simpa using h)
      rw [e, show (k + 1) * 2 = k * 2 + 1 + 1 by omega, show k * 2 + 1 + 1 + 1 = (k * 2 + 1) + 1 + 1 by omega]
      simpa using h2
section
variable {w w' : World} {B B' gc dc : Nat} {G D : Option Addr} {gs : List Gp} {s : Sk}
theorem GsL.below (h : GsL w B G gc gs) (hb : Below B w w') : GsL w' B G gc gs := ⟨h.lies.below hb, h.c1, h.c2⟩
theorem GsL.more (h : GsL w B G gc gs) (hB : B ≤ B') : GsL w B' G gc gs := ⟨h.lies.more hB, h.c1, h.c2⟩
theorem GsL.on (h : GsL w w.heap.size G gc gs) (hb : Below w.heap.size w w') : GsL w' w'.heap.size G gc gs := (h.below hb).more hb.size
theorem SkL.below (h : SkL w B G gc D dc s) (hb : Below B w w') : SkL w' B G gc D dc s := ⟨h.gl.below hb, h.dl.below hb, h.d1, h.d2⟩
theorem SkL.more (h : SkL w B G gc D dc s) (hB : B ≤ B') : SkL w B' G gc D dc s := ⟨h.gl.more hB, h.dl.more hB, h.d1, h.d2⟩
theorem SkL.on (h : SkL w w.heap.size G gc D dc s) (hb : Below w.heap.size w w') : SkL w' w'.heap.size G gc D dc s := (h.below hb).more hb.size
/-- the two cells of a gap -/
theorem GsL.at_ (h : GsL w B G gc gs) {k : Nat} {g : Gp} (hg : gs[k]? = some g) : ∃ ad, G = some ad ∧ ad.block < B ∧ w.cell? (ad.add (k * 2)) = some (hv g.f) ∧ w.cell? ⟨(ad.add (k * 2)).block, (ad.add (k * 2)).off + 1, none⟩ = some (hv g.t) := by
  have hlt := (List.getElem?_eq_some_iff.1 hg).1
  obtain ⟨ad, h1, h2, h3⟩ := h.lies (fun e => by
    have hl := gpFlat_len gs
    rw [e, List.length_nil] at hl
    omega)
  obtain ⟨e1, e2⟩ := gpFlat_at hg
  refine ⟨ad, h1, h2, h3 _ _ e1, ?_⟩
  have h4 := h3 _ _ e2
  rw [← add_add'] at h4
  rwa [add_pos (by omega)] at h4
end
def upB (n x : UInt32) : Bool := decide ((n - x).toNat < 2147483648)
theorem sub32 (a b : UInt32) : ((a.toNat : Int) - (b.toNat : Int)) % 4294967296 = (((a - b).toNat : Nat) : Int) := by
  have h1 := a.toNat_lt
  have h2 := b.toNat_lt
  rw [UInt32.toNat_sub]
  omega
set_option maxHeartbeats 1000000 in
theorem isUpTo_any (n x : UInt32) (w : World) : Calls Tryz.prog 75 #[uv n, uv x] w fun e w' => e = .returned (.bool (upB n x)) ∧ w = w' := by
  have hs := sub32 n x
  have hd : decide ((((n.toNat : Int) - (x.toNat : Int)) % 4294967296) < 2147483648) = upB n x := by
    unfold upB
    rw [hs]
    congr 1
    exact propext ⟨fun h => by omega, fun h => by omega⟩
  have HD := Lib.hid hd
  clear hs hd
  go_enter Tryz.func75, Tryz.ntmps75
  go_wp2_with fail
  go_ret
  exact ⟨by rw [← HD.out]; rfl, rfl⟩
/-- whether a gap holds an offset -/
def inGp (off : UInt32) (g : Gp) : Bool := decide (g.f.toNat ≤ off.toNat) && decide (off.toNat ≤ g.t.toNat)
set_option maxRecDepth 100000 in
set_option maxHeartbeats 2000000 in
theorem cov1_any (g : Gp) (off : UInt32) (q : Nat) (w : World) (hq : w.cell? ⟨q, 0, none⟩ = some (uv off)) (hlt : q < w.heap.size) :
    Calls Tryz.prog 77 #[.agg #[hv g.f, hv g.t], .pointer (some ⟨q, 0, none⟩)] w fun e w' => e = .returned (.bool (inGp off g)) ∧ Below w.heap.size w w' := by
  have b0 : Below w.heap.size w (w.alloc (.cells #[hv g.f, hv g.t] 86)) := (Below.refl _ w).alloc (Nat.le_refl _) _
  have x0 := Whole.new w 86 #[hv g.f, hv g.t]
  have c0 : (w.alloc (.cells #[hv g.f, hv g.t] 86)).cell? ⟨w.heap.size, 0, none⟩ = some (hv g.f) := by rw [x0.cell]; rfl
  have c1 : (w.alloc (.cells #[hv g.f, hv g.t] 86)).cell? ⟨w.heap.size, 1, none⟩ = some (hv g.t) := by rw [x0.cell]; rfl
  have c2 : (w.alloc (.cells #[hv g.f, hv g.t] 86)).cell? ⟨q, 0, none⟩ = some (uv off) := (b0.cell hlt).trans hq
  have hf := g.f.toNat_lt
  have ht := g.t.toNat_lt
  have w1 : (g.f.toNat : Int) % 4294967296 = (g.f.toNat : Int) := by omega
  have w2 : (g.t.toNat : Int) % 4294967296 = (g.t.toNat : Int) := by omega
  have HR : Hid (inGp off g = (decide ((g.f.toNat : Int) ≤ (off.toNat : Int)) && decide ((off.toNat : Int) ≤ (g.t.toNat : Int)))) := by
    unfold Hid inGp
    congr 1 <;> (congr 1; exact propext ⟨fun h => by omega, fun h => by omega⟩)
  have HB := Lib.hid b0
  clear hq x0 b0 hlt
  generalize hwa : w.alloc (.cells #[hv g.f, hv g.t] 86) = wa at *
  have HW := Lib.hid hwa
  clear hwa
  generalize inGp off g = r at *
  go_enter Tryz.func77, Tryz.ntmps77
  go_upto_region 1 with fail
  rw [HW.out]
  clear HW
  by_cases h1 : (g.f.toNat : Int) ≤ (off.toNat : Int)
  · by_cases h2 : (off.toNat : Int) ≤ (g.t.toNat : Int)
    · have e : r = true := by rw [HR.out, decide_eq_true h1, decide_eq_true h2]; rfl
      subst e
      clear HR
      go_wp2_with fail
      go_ret
      exact ⟨rfl, HB.out⟩
    · have e : r = false := by rw [HR.out, decide_eq_true h1, decide_eq_false h2]; rfl
      subst e
      clear HR
      go_wp2_with fail
      go_ret
      exact ⟨rfl, HB.out⟩
  · have e : r = false := by rw [HR.out, decide_eq_false h1]; rfl
    subst e
    clear HR
    go_wp2_with fail
    go_ret
    exact ⟨rfl, HB.out⟩
set_option maxRecDepth 100000 in
set_option maxHeartbeats 4000000 in
theorem sidx_any (gs : List Gp) (off : UInt32) (q : Nat) (G : Option Addr) (gc : Nat) (w : World) (h : GsL w w.heap.size G gc gs) (hq : w.cell? ⟨q, 0, none⟩ = some (uv off)) (hlt : q < w.heap.size) :
    Calls Tryz.prog 110 #[.slice G gs.length gc, .func (.func 77) #[] #[.pointer (some ⟨q, 0, none⟩)]] w fun e w' => ∃ r : Int, e = .returned (.int .i64 r) ∧ decide (0 ≤ r) = gs.any (inGp off) ∧ Below w.heap.size w w' := by
  have hgl : gs.length ≤ 9223372036854775807 := by have := h.c1; have := h.c2; unfold maxLen at this; omega
  have HG := Lib.hid h
  have HQ : Hid (∀ V, Below w.heap.size w V → V.cell? ⟨q, 0, none⟩ = some (uv off) ∧ q < V.heap.size) := Lib.hid (fun V hV => ⟨(hV.cell hlt).trans hq, Nat.lt_of_lt_of_le hlt hV.size⟩)
  clear h hq hlt
  go_enter Tryz.func110, Tryz.ntmps110
  go_wp2_with fail
  go_loopw [8] (fun i wr => ∃ j : Nat, j ≤ gs.length ∧ i = .int .i64 (j : Int) ∧ Below w.heap.size w wr ∧ ∀ g ∈ gs.take j, inGp off g = false) (fun i _ => gs.length - (intOf i).toNat)
  case atStart => exact ⟨0, Nat.zero_le _, rfl, Below.refl _ _, fun g hg => by simp at hg⟩
  case round =>
    obtain ⟨j, hj, rfl, hbel, hno⟩ := hrel
    by_cases hlt : j < gs.length
    · obtain ⟨g, hg⟩ : ∃ g, gs[j]? = some g := ⟨_, List.getElem?_eq_getElem hlt⟩
      obtain ⟨ad, rfl, hadb, c0, c1⟩ := (HG.out.on hbel).at_ hg
      have hi1 : (j : Int) < (gs.length : Int) := by omega
      obtain ⟨hq, hlq⟩ := HQ.out wr hbel
      have hC := cov1_any g off q wr hq hlq
      have HN := Lib.hid hno
      have HGt := Lib.hid hg
      have HB := Lib.hid hbel
      clear hno hg hbel hq
      cases hin : inGp off g with
      | true =>
        rw [hin] at hC
        have HI := Lib.hid hin
        clear hin
        go_wp2_with fail
        refine hC.mono ?_
        rintro e w2 ⟨rfl, b2⟩
        go_wp2_with fail
        go_ret
        refine ⟨(j : Int), rfl, ?_, HB.out.trans (b2.mono HB.out.size)⟩
        rw [decide_eq_true (by omega)]
        exact (List.any_eq_true.2 ⟨g, List.mem_of_getElem? HGt.out, HI.out⟩).symm
      | false =>
        rw [hin] at hC
        have HI := Lib.hid hin
        clear hin
        go_wp2_with fail
        refine hC.mono ?_
        rintro e w2 ⟨rfl, b2⟩
        go_wp2_with fail
        go_roundw
        case rel => exact ⟨j + 1, by omega, by go_num, HB.out.trans (b2.mono HB.out.size), fun x hx => by
          rw [take_some HGt.out] at hx
          rcases List.mem_append.1 hx with h | h
          · exact HN.out x h
          · rw [List.mem_singleton.1 h]; exact HI.out⟩
        case measure => simp [intOf]; omega
    · obtain rfl : j = gs.length := by omega
      have hi1 : ¬ (gs.length : Int) < (gs.length : Int) := by omega
      rw [List.take_length] at hno
      have HN := Lib.hid hno
      clear hno
      go_wp2_with fail
      go_ret
      refine ⟨-1, rfl, ?_, hbel⟩
      rw [decide_eq_false (by omega)]
      symm
      rw [List.any_eq_false]
      intro g hg
      rw [HN.out g hg]
      simp
set_option maxRecDepth 100000 in
set_option maxHeartbeats 2000000 in
theorem scnt_any (gs : List Gp) (off : UInt32) (q : Nat) (G : Option Addr) (gc : Nat) (w : World) (h : GsL w w.heap.size G gc gs) (hq : w.cell? ⟨q, 0, none⟩ = some (uv off)) (hlt : q < w.heap.size) :
    Calls Tryz.prog 76 #[.slice G gs.length gc, .func (.func 77) #[] #[.pointer (some ⟨q, 0, none⟩)]] w fun e w' => e = .returned (.bool (gs.any (inGp off))) ∧ Below w.heap.size w w' := by
  have hI := sidx_any gs off q G gc w h hq hlt
  generalize gs.any (inGp off) = r at *
  clear h hq hlt
  go_enter Tryz.func76, Tryz.ntmps76
  go_wp2_with fail
  refine hI.mono ?_
  rintro e w2 ⟨k, rfl, hk, b2⟩
  have HK := Lib.hid hk
  clear hk hI
  go_wp2_with fail
  go_ret
  exact ⟨by rw [← HK.out]; rfl, b2⟩
def covB (s : Sk) (x : UInt32) : Bool := upB s.cum x || s.gs.any (inGp (x - s.cum))
set_option maxRecDepth 100000 in
set_option maxHeartbeats 4000000 in
theorem covers_any (s : Sk) (x : UInt32) (G : Option Addr) (gc : Nat) (D : Option Addr) (dc : Nat) (w : World) (h : SkL w w.heap.size G gc D dc s) :
    Calls Tryz.prog 27 #[skV s G gc D dc, uv x] w fun e w' => e = .returned (.bool (covB s x)) ∧ Below w.heap.size w w' := by
  have b0 : Below w.heap.size w (w.alloc (.cells (skCells s G gc D dc) 38)) := (Below.refl _ w).alloc (Nat.le_refl _) _
  have x0 := Whole.new w 38 (skCells s G gc D dc)
  have hG := h.gl.on b0
  have hs := sub32 x s.cum
  have hup := isUpTo_any s.cum x
  have hlt : w.heap.size < (w.alloc (.cells (skCells s G gc D dc) 38)).heap.size := by simp
  have HC : Hid (∀ V (q : Nat), Below (w.alloc (.cells (skCells s G gc D dc) 38)).heap.size (w.alloc (.cells (skCells s G gc D dc) 38)) V → V.cell? ⟨q, 0, none⟩ = some (uv (x - s.cum)) → q < V.heap.size → Calls Tryz.prog 76 #[.slice G s.gs.length gc, .func (.func 77) #[] #[.pointer (some ⟨q, 0, none⟩)]] V fun e w' => e = .returned (.bool (s.gs.any (inGp (x - s.cum)))) ∧ Below V.heap.size V w') := Lib.hid (fun V q hV hq hl => scnt_any s.gs (x - s.cum) q G gc V (hG.on hV) hq hl)
  have HR : Hid (covB s x = (upB s.cum x || s.gs.any (inGp (x - s.cum)))) := Lib.hid rfl
  have HB := Lib.hid b0
  clear h hG b0
  generalize covB s x = r at *
  generalize upB s.cum x = u at *
  generalize s.gs.any (inGp (x - s.cum)) = a at *
  generalize hoff : x - s.cum = off at *
  clear hoff
  obtain ⟨cum, win, gs, ds⟩ := s
  simp only [skV, skCells] at *
  obtain ⟨q0, q1, q2, q3⟩ := wh4 x0
  generalize hwa : w.alloc (.cells #[uv cum, uv win, .slice G gs.length gc, .slice D ds.length dc] 38) = wa at *
  have HW := Lib.hid hwa
  clear hwa
  go_enter Tryz.func27, Tryz.ntmps27
  go_upto_region 1 with fail
  rw [HW.out]
  clear HW
  go_upto_region 2 with fail
  rw [hs]
  have v2 : Below wa.heap.size wa (wa.alloc (.cells #[uv off] 22)) := (Below.refl _ _).alloc (Nat.le_refl _) _
  have y2 := Whole.new wa 22 #[uv off]
  have x2 := x0.below v2 hlt
  have c2 : (wa.alloc (.cells #[uv off] 22)).cell? ⟨wa.heap.size, 0, none⟩ = some (uv off) := by rw [y2.cell]; rfl
  have hC := HC.out _ wa.heap.size v2 c2 y2.lt
  have hu2 := hup (wa.alloc (.cells #[uv off] 22))
  have hsz : wa.heap.size ≤ (wa.alloc (.cells #[uv off] 22)).heap.size := v2.size
  generalize wa.alloc (.cells #[uv off] 22) = wb at *
  generalize wa.heap.size = g at *
  obtain ⟨m0, m1, m2, m3⟩ := wh4 x2
  clear q0 q1 q2 q3 x0 HC hup hs y2
  have HB2 := Lib.hid (fun (V : World) (hV : Below wb.heap.size wb V) => HB.out.trans (v2.trans (hV.mono hsz) |>.mono (Nat.le_trans (Nat.le_of_lt hlt) (Nat.le_refl _))))
  cases u with
  | true =>
    go_wp2_with fail
    refine hu2.mono ?_
    rintro e w3 ⟨rfl, rfl⟩
    go_wp2_with fail
    go_ret
    exact ⟨by rw [HR.out]; rfl, HB2.out _ (Below.refl _ _)⟩
  | false =>
    go_wp2_with fail
    refine hu2.mono ?_
    rintro e w3 ⟨rfl, rfl⟩
    go_wp2_with fail
    refine hC.mono ?_
    rintro e w4 ⟨rfl, b4⟩
    go_wp2_with fail
    go_ret
    exact ⟨by rw [HR.out]; rfl, HB2.out _ b4⟩
end Go.Proofs.YtabljmiiekpgiaaGreatDoor










namespace Go.Proofs.YtabljmiiekpgiaaGreatDoor
open Go.RowKit

set_option linter.unusedSimpArgs false
theorem eq_gap (T : TypeId) (hT : T = 86) (a b : UInt16) (w : World) : (Op.equalIn 10000 T (.agg #[hv a, hv b]) (.agg #[hv a, hv b])).run Tryz.prog w = .ok true w := by
  subst hT
  have hh : ∀ x y : Int, (Op.equalIn 9999 27 (.int .u16 x) (.int .u16 y)).run Tryz.prog w = .ok (x == y) w := fun x y => run_equalIn_int w 9998 27 .u16 .u16 x y Tryz.underlying27
  have hf : (Tryz.prog.fieldsOf 86).toList.map (fun f => (f.name == "_", f.type, f.offset)) = [(false, 27, 0), (false, 27, 1)] := by kernel_rfl
  obtain ⟨i2, hi2, hs2⟩ := Option.map_eq_some_iff.1 size_u16
  rw [show (10000 : Nat) = 9999 + 1 from rfl, run_equalIn_struct w 9999 86 _ _ (by kernel_rfl) (by kernel_rfl)]
  generalize (Tryz.prog.fieldsOf 86).toList = fs at *
  rcases fs with _ | ⟨f0, _ | ⟨f1, _ | ⟨f2, fs⟩⟩⟩ <;> simp at hf
  obtain ⟨⟨n0, t0, o0⟩, ⟨n1, t1, o1⟩⟩ := hf
  simp [Op.eqFields, n0, n1, t0, t1, o0, o1, go_sem, part, sizeOf, typeInfo, hi2, hs2, hh]
set_option maxRecDepth 100000 in
set_option maxHeartbeats 8000000 in
theorem eqgap_self (gs : List Gp) (G : Option Addr) (gc : Nat) (G' : Option Addr) (gc' : Nat) (w : World) (h : GsL w w.heap.size G gc gs) (h' : GsL w w.heap.size G' gc' gs) :
    Calls Tryz.prog 53 #[.slice G gs.length gc, .slice G' gs.length gc'] w fun e w' => e = .returned (.bool true) ∧ Below w.heap.size w w' := by
  have hgl : gs.length ≤ 9223372036854775807 := by have := h.c1; have := h.c2; unfold maxLen at this; omega
  have H1 := Lib.hid h
  have H2 := Lib.hid h'
  have hne : ((gs.length : Int) != (gs.length : Int)) = false := by simp
  clear h h'
  go_enter Tryz.func53, Tryz.ntmps53
  go_upto_region 4 with fail
  go_loopw [13] (fun i wr => ∃ j : Nat, j ≤ gs.length ∧ i = .int .i64 (j : Int) ∧ Below w.heap.size w wr) (fun i _ => gs.length - (intOf i).toNat)
  case atStart => exact ⟨0, Nat.zero_le _, rfl, Below.refl _ _⟩
  case round =>
    obtain ⟨j, hj, rfl, hbel⟩ := hrel
    by_cases hlt : j < gs.length
    · obtain ⟨g, hg⟩ : ∃ g, gs[j]? = some g := ⟨_, List.getElem?_eq_getElem hlt⟩
      obtain ⟨ad, rfl, hadb, c0, c1⟩ := (H1.out.on hbel).at_ hg
      obtain ⟨ad2, rfl, hadb2, d0, d1⟩ := (H2.out.on hbel).at_ hg
      have hi1 : (j : Int) < (gs.length : Int) := by omega
      have HE := Lib.hid (fun W => eq_gap 86 rfl g.f g.t W)
      have HB := Lib.hid hbel
      clear hg hbel
      go_upto_region 6 with fail
      refine wp_region_held_drew (S := (fun W => W.cell? (ad.add (j * 2)) = some (hv g.f) ∧ W.cell? ⟨(ad.add (j * 2)).block, (ad.add (j * 2)).off + 1, none⟩ = some (hv g.t) ∧ W.cell? (ad2.add (j * 2)) = some (hv g.f) ∧ W.cell? ⟨(ad2.add (j * 2)).block, (ad2.add (j * 2)).off + 1, none⟩ = some (hv g.t))) (by kernel_rfl) ⟨c0, c1, d0, d1⟩ (fun hHeld => ?_)
      refine take_at (i := 0) (v := ?_) (some 16) rfl (by kernel_rfl) (by kernel_rfl) (by kernel_rfl) (fun _ _ _ h => h) (by kernel_rfl) (Or.inl ⟨by kernel_rfl, ?_⟩) (by assumption) ?_
      rotate_left
      · (intro w hSw; (try dsimp only at hSw); go_simp <;> with_reducible rfl)
      simp only [Act.put, List.setIfInBounds_toArray, List.set_cons_zero, List.set_cons_succ]
      refine take_at (i := 1) (v := ?_) (some 17) rfl (by kernel_rfl) (by kernel_rfl) (by kernel_rfl) (fun _ _ _ h => h) (by kernel_rfl) (Or.inl ⟨by kernel_rfl, ?_⟩) (by assumption) ?_
      rotate_left
      · (intro w hSw; (try dsimp only at hSw); go_simp <;> with_reducible rfl)
      simp only [Act.put, List.setIfInBounds_toArray, List.set_cons_zero, List.set_cons_succ]
      refine take_at (i := 2) (v := ?_) (some 18) rfl (by kernel_rfl) (by kernel_rfl) (by kernel_rfl) (fun _ _ _ h => h) (by kernel_rfl) (Or.inl ⟨by kernel_rfl, ?_⟩) (by assumption) ?_
      rotate_left
      · (intro w hSw; (try dsimp only at hSw); go_simp <;> with_reducible rfl)
      simp only [Act.put, List.setIfInBounds_toArray, List.set_cons_zero, List.set_cons_succ]
      refine take_at (i := 3) (v := ?_) (some 19) rfl (by kernel_rfl) (by kernel_rfl) (by kernel_rfl) (fun _ _ _ h => h) (by kernel_rfl) (Or.inl ⟨by kernel_rfl, ?_⟩) (by assumption) ?_
      rotate_left
      · (intro w hSw; (try dsimp only at hSw); go_simp <;> with_reducible rfl)
      simp only [Act.put, List.setIfInBounds_toArray, List.set_cons_zero, List.set_cons_succ]
      refine take_at (i := 4) (v := ?_) (some 20) rfl (by kernel_rfl) (by kernel_rfl) (by kernel_rfl) (fun _ _ _ h => h) (by kernel_rfl) (Or.inl ⟨by kernel_rfl, ?_⟩) (by assumption) ?_
      rotate_left
      · (intro w hSw; (try dsimp only at hSw); go_simp <;> with_reducible rfl)
      simp only [Act.put, List.setIfInBounds_toArray, List.set_cons_zero, List.set_cons_succ]
      refine take_at (i := 5) (v := ?_) (some 21) rfl (by kernel_rfl) (by kernel_rfl) (by kernel_rfl) (fun _ _ _ h => h) (by kernel_rfl) (Or.inl ⟨by kernel_rfl, ?_⟩) (by assumption) ?_
      rotate_left
      · (intro w hSw; (try dsimp only at hSw); go_simp <;> with_reducible rfl)
      simp only [Act.put, List.setIfInBounds_toArray, List.set_cons_zero, List.set_cons_succ]
      refine take_at (i := 6) (v := ?_) (some 22) rfl (by kernel_rfl) (by kernel_rfl) (by kernel_rfl) (fun _ _ _ h => h) (by kernel_rfl) (Or.inl ⟨by kernel_rfl, ?_⟩) (by assumption) ?_
      rotate_left
      · (intro w hSw; (try dsimp only at hSw); go_simp <;> with_reducible rfl)
      simp only [Act.put, List.setIfInBounds_toArray, List.set_cons_zero, List.set_cons_succ]
      refine take_at (i := 7) (v := ?_) (some 23) rfl (by kernel_rfl) (by kernel_rfl) (by kernel_rfl) (fun _ _ _ h => h) (by kernel_rfl) (Or.inl ⟨by kernel_rfl, ?_⟩) (by assumption) ?_
      rotate_left
      · (intro w hSw; (try dsimp only at hSw); go_simp <;> with_reducible rfl)
      simp only [Act.put, List.setIfInBounds_toArray, List.set_cons_zero, List.set_cons_succ]
      refine wpAnyH_ready (rs := [8]) (by kernel_rfl) (by simp) ?_
      refine AllReadyH.cons rfl (fun K hK => ?_) AllReadyH.nil
      have HE9 := HE.out
      go_simp
      clear HE9
      clear hHeld
      refine hK.out _ _ ⟨c0, c1, d0, d1⟩ (fun hHeld => ?_)
      clear hK K
      try simp only [Act.put, List.setIfInBounds_toArray, List.set_cons_zero, List.set_cons_succ]
      refine wpAnyH_done (by kernel_rfl) ?_ _
      skip
      go_wp2_with fail
      go_roundw
      case rel => exact ⟨j + 1, by omega, by go_num, below_drew HB.out⟩
      case measure => simp [intOf]; omega
    · obtain rfl : j = gs.length := by omega
      have hi1 : ¬ (gs.length : Int) < (gs.length : Int) := by omega
      go_wp2_with fail
      go_ret
      exact ⟨rfl, hbel⟩
set_option maxRecDepth 100000 in
set_option maxHeartbeats 4000000 in
theorem ssame_self (s : Sk) (G : Option Addr) (gc : Nat) (D : Option Addr) (dc : Nat) (G' : Option Addr) (gc' : Nat) (D' : Option Addr) (dc' : Nat) (w : World) (h : SkL w w.heap.size G gc D dc s) (h' : SkL w w.heap.size G' gc' D' dc' s) :
    Calls Tryz.prog 22 #[skV s G gc D dc, skV s G' gc' D' dc'] w fun e w' => e = .returned (.bool true) ∧ Below w.heap.size w w' := by
  have b0 : Below w.heap.size w ((w.alloc (.cells (skCells s G gc D dc) 38)).alloc (.cells (skCells s G' gc' D' dc') 38)) := ((Below.refl _ w).alloc (Nat.le_refl _) _).alloc (by simp) _
  have x0 := (Whole.new w 38 (skCells s G gc D dc)).alloc (.cells (skCells s G' gc' D' dc') 38)
  have y0 := Whole.new (w.alloc (.cells (skCells s G gc D dc) 38)) 38 (skCells s G' gc' D' dc')
  rw [World.size_alloc] at y0
  have h1 := h.on b0
  have h2 := h'.on b0
  have hE := eqgap_self s.gs G gc G' gc' _ h1.gl h2.gl
  have HD : Hid (∀ V, Below ((w.alloc (.cells (skCells s G gc D dc) 38)).alloc (.cells (skCells s G' gc' D' dc') 38)).heap.size ((w.alloc (.cells (skCells s G gc D dc) 38)).alloc (.cells (skCells s G' gc' D' dc') 38)) V → Calls Tryz.prog 54 #[.slice D s.ds.length dc, .slice D' s.ds.length dc'] V fun e w' => e = .returned (.bool true) ∧ Below V.heap.size V w') := Lib.hid (fun V hV => by
    have h9 := Calls.mono (equal32_any D D' dc dc' V.heap.size s.ds s.ds V (h1.on hV).dl (h2.on hV).dl (by have := h1.d1; have := h1.d2; omega)) fun e w' h => h
    rw [decide_eq_true rfl] at h9
    exact Calls.mono h9 fun e w' h => by
      obtain ⟨he, q, rfl⟩ := h
      exact ⟨he, below_drewN (Below.refl _ _) q⟩)
  have HB := Lib.hid b0
  have hz : w.heap.size ≤ ((w.alloc (.cells (skCells s G gc D dc) 38)).alloc (.cells (skCells s G' gc' D' dc') 38)).heap.size := by simp; omega
  clear h h' h1 h2 b0
  obtain ⟨cum, win, gs, ds⟩ := s
  simp only [skV, skCells] at *
  obtain ⟨q0, q1, q2, q3⟩ := wh4 x0
  obtain ⟨m0, m1, m2, m3⟩ := wh4 y0
  generalize hwa : (w.alloc (.cells #[uv cum, uv win, .slice G gs.length gc, .slice D ds.length dc] 38)).alloc (.cells #[uv cum, uv win, .slice G' gs.length gc', .slice D' ds.length dc'] 38) = wa at *
  have HW := Lib.hid hwa
  clear hwa
  go_enter Tryz.func22, Tryz.ntmps22
  go_upto_region 1 with fail
  rw [HW.out]
  go_wp2_with fail
  refine hE.mono ?_
  rintro e w2 ⟨rfl, b2⟩
  have x2 := x0.below b2 x0.lt
  have y2 := y0.below b2 y0.lt
  have hD := HD.out w2 b2
  clear q0 q1 q2 q3 m0 m1 m2 m3 x0 y0 hE HD
  obtain ⟨q0, q1, q2, q3⟩ := wh4 x2
  obtain ⟨m0, m1, m2, m3⟩ := wh4 y2
  go_wp2_with fail
  refine hD.mono ?_
  rintro e w3 ⟨rfl, b3⟩
  go_wp2_with fail
  go_ret
  exact ⟨rfl, HB.out.trans ((b2.trans (b3.mono b2.size)).mono hz)⟩
end Go.Proofs.YtabljmiiekpgiaaGreatDoor









namespace Go.Proofs.YtabljmiiekpgiaaGreatDoor
open Go.RowKit

set_option linter.unusedSimpArgs false
set_option maxRecDepth 100000 in
set_option maxHeartbeats 8000000 in
theorem rcov14_any (s : Sk) (x : UInt32) (G : Option Addr) (gc : Nat) (D : Option Addr) (dc : Nat) (w : World) (h : SkL w w.heap.size G gc D dc s) :
    Calls Tryz.prog 28 #[skV s G gc D dc, uv x] w fun e w' => e = .returned (.bool (covB s x)) ∧ Below w.heap.size w w' := by
  have b0 : Below w.heap.size w (w.alloc (.cells (skCells s G gc D dc) 26)) := (Below.refl _ w).alloc (Nat.le_refl _) _
  have x0 := Whole.new w 26 (skCells s G gc D dc)
  have HG := Lib.hid (fun (V : World) (hV : Below w.heap.size w V) => (h.on hV).gl)
  have hgl : s.gs.length ≤ 9223372036854775807 := by have := h.gl.c1; have := h.gl.c2; unfold maxLen at this; omega
  have hs1 := sub32 s.cum x
  have hs2 := sub32 x s.cum
  have HT : Hid (upB s.cum x = true → covB s x = true) := Lib.hid (fun e => by unfold covB; rw [e]; rfl)
  have HF : Hid (upB s.cum x = false → covB s x = s.gs.any (inGp (x - s.cum))) := Lib.hid (fun e => by unfold covB; rw [e]; rfl)
  have HU : Hid (upB s.cum x = decide ((s.cum - x).toNat < 2147483648)) := Lib.hid rfl
  have HB := Lib.hid b0
  clear h b0
  generalize covB s x = r at *
  generalize upB s.cum x = u at *
  generalize hoff : x - s.cum = off at *
  generalize hon : s.cum - x = on_ at *
  clear hoff hon
  obtain ⟨cum, win, gs, ds⟩ := s
  simp only [skV, skCells] at *
  obtain ⟨q0, q1, q2, q3⟩ := wh4 x0
  have hz : w.heap.size ≤ (w.alloc (.cells #[uv cum, uv win, .slice G gs.length gc, .slice D ds.length dc] 26)).heap.size := by simp
  generalize hwa : w.alloc (.cells #[uv cum, uv win, .slice G gs.length gc, .slice D ds.length dc] 26) = wa at *
  have HW := Lib.hid hwa
  clear hwa
  go_enter Tryz.func28, Tryz.ntmps28
  go_upto_region 1 with fail
  rw [HW.out]
  clear HW
  by_cases hlt : on_.toNat < 2147483648
  · have e1 : u = true := by rw [HU.out]; exact decide_eq_true hlt
    have e2 := HT.out e1
    have hc : ((cum.toNat : Int) - (x.toNat : Int)) % 4294967296 < 2147483648 := by omega
    subst e2
    clear HU HT HF e1 hs1 hlt
    go_wp2_with fail
    go_ret
    exact ⟨rfl, HB.out⟩
  · have e1 : u = false := by rw [HU.out]; exact decide_eq_false hlt
    have e2 := HF.out e1
    have hc : ¬ ((cum.toNat : Int) - (x.toNat : Int)) % 4294967296 < 2147483648 := by omega
    have HR := Lib.hid e2
    clear HU HT HF e1 e2 hs1 hlt
    go_upto_region 5 with fail
    have hft : ∀ g : UInt16, (g.toNat : Int) % 4294967296 = (g.toNat : Int) := fun g => by have := g.toNat_lt; omega
    have HFT := Lib.hid hft
    clear hs2 hft
    go_loopw [6] (fun i wr => ∃ j : Nat, j ≤ gs.length ∧ i = .int .i64 (j : Int) ∧ wr = wa ∧ ∀ g ∈ gs.take j, inGp off g = false) (fun i _ => gs.length - (intOf i).toNat)
    case atStart => exact ⟨0, Nat.zero_le _, rfl, rfl, fun g hg => by simp at hg⟩
    case round =>
      obtain ⟨j, hj, rfl, rfl, hno⟩ := hrel
      by_cases hlt : j < gs.length
      · obtain ⟨g, hg⟩ : ∃ g, gs[j]? = some g := ⟨_, List.getElem?_eq_getElem hlt⟩
        obtain ⟨ad, rfl, hadb, c0, c1⟩ := (HG.out wr HB.out).at_ hg
        have hi1 : (j : Int) < (gs.length : Int) := by omega
        have w1 := HFT.out g.f
        have w2 := HFT.out g.t
        have hff := g.f.toNat_lt
        have htt := g.t.toNat_lt
        have HNO := Lib.hid hno
        have HGt := Lib.hid hg
        have HI : Hid (inGp off g = (decide (g.f.toNat ≤ off.toNat) && decide (off.toNat ≤ g.t.toNat))) := Lib.hid rfl
        clear hno hg
        generalize hin : inGp off g = ig at *
        have HIN := Lib.hid hin
        clear hin
        by_cases h1 : (g.f.toNat : Int) ≤ (off.toNat : Int)
        · by_cases h2 : (off.toNat : Int) ≤ (g.t.toNat : Int)
          · have HT2 : Hid (inGp off g = true) := by unfold Hid; rw [HIN.out, HI.out, decide_eq_true (by omega), decide_eq_true (by omega)]; rfl
            clear HI HIN
            go_wp2_with fail
            go_ret
            exact ⟨by rw [HR.out, List.any_eq_true.2 ⟨g, List.mem_of_getElem? HGt.out, HT2.out⟩]; rfl, HB.out⟩
          · have HT2 : Hid (inGp off g = false) := by unfold Hid; rw [HIN.out, HI.out, decide_eq_false (p := off.toNat ≤ g.t.toNat) (by omega), Bool.and_false]
            clear HI HIN
            go_wp2_with fail
            go_roundw
            case rel => exact ⟨j + 1, by omega, by go_num, trivial, fun y hy => by
              rw [take_some HGt.out] at hy
              rcases List.mem_append.1 hy with h | h
              · exact HNO.out y h
              · rw [List.mem_singleton.1 h]; exact HT2.out⟩
            case measure => simp [intOf]; omega
        · have HT2 : Hid (inGp off g = false) := by unfold Hid; rw [HIN.out, HI.out, decide_eq_false (p := g.f.toNat ≤ off.toNat) (by omega), Bool.false_and]
          clear HI HIN
          go_wp2_with fail
          go_roundw
          case rel => exact ⟨j + 1, by omega, by go_num, trivial, fun y hy => by
            rw [take_some HGt.out] at hy
            rcases List.mem_append.1 hy with h | h
            · exact HNO.out y h
            · rw [List.mem_singleton.1 h]; exact HT2.out⟩
          case measure => simp [intOf]; omega
      · obtain rfl : j = gs.length := by omega
        have hi1 : ¬ (gs.length : Int) < (gs.length : Int) := by omega
        rw [List.take_length] at hno
        have HNO := Lib.hid hno
        clear hno
        go_wp2_with fail
        go_ret
        refine ⟨?_, HB.out⟩
        rw [HR.out]
        have e : gs.any (inGp off) = false := by
          rw [List.any_eq_false]
          intro g hg
          rw [HNO.out g hg]
          simp
        rw [e]
        rfl
end Go.Proofs.YtabljmiiekpgiaaGreatDoor


