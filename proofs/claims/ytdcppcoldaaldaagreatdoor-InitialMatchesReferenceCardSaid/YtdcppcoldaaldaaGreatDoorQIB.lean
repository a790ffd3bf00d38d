/- Layer 15: Streams, isInitial, valuesOf. They write nothing that was there. -/
/- Layer 15: found, Has, Extensions, Cookie. They write nothing that was there. -/
/- Layer 15: Make, Of (written by tools/gen_init_e.py). They write nothing that was there. -/
/- Layer 15: two Values are compared; what the statements check first (awake). It writes nothing that was there. -/
import Derived.Test.YtdcppcoldaaldaaGreatDoorQInitA
import Derived.Test.YtdcppcoldaaldaaGreatDoorQW
import Derived.Test.YtdcppcoldaaldaaGreatDoorQCG
import Derived.Test.YtdcppcoldaaldaaGreatDoorQNS
import Derived.Test.YtdcppcoldaaldaaGreatDoorQDT
import Derived.BigGuard
import Derived.Deep.QuietTactic
import Derived.BigQuiet
import Derived.Test.YtdcppcoldaaldaaGreatDoorQDataS
import Derived.Deep.RegionHeld3
import Derived.Test.YtdcppcoldaaldaaGreatDoorQInitC
import Derived.Test.YtdcppcoldaaldaaGreatDoorQCI
import Derived.Deep.Cut
import Derived.Test.YtdcppcoldaaldaaGreatDoorQA
import Derived.Laws.StructEq








namespace Go.Proofs.YtdcppcoldaaldaaGreatDoor
open Go.RowKit

set_option linter.unusedSimpArgs false
def mn16 (x y : UInt16) : UInt16 := if x.toNat ≤ y.toNat then x else y
theorem mn16_min (x y : UInt16) : min (x.toNat : Int) (y.toNat : Int) = ((mn16 x y).toNat : Int) := by unfold mn16; split <;> omega
theorem mn16_comm (x y : UInt16) : mn16 x y = mn16 y x := UInt16.toNat_inj.1 (by unfold mn16; split <;> split <;> omega)
set_option maxRecDepth 100000 in
set_option maxHeartbeats 4000000 in
theorem istreams_any (a b : Vl) (w : World) : Calls Tryz.prog 59 #[vlV a, vlV b] w fun e w' => e = .returned (.tuple #[hv (mn16 a.ou b.ii), hv (mn16 a.ii b.ou)]) ∧ Below w.heap.size w w' := by
  have b0 : Below w.heap.size w ((w.alloc (.cells (vlCells a) 80)).alloc (.cells (vlCells b) 80)) := ((Below.refl _ w).alloc (Nat.le_refl _) _).alloc (by simp) _
  have x0 := (Whole.new w 80 (vlCells a)).alloc (.cells (vlCells b) 80)
  have y0 := Whole.new (w.alloc (.cells (vlCells a) 80)) 80 (vlCells b)
  rw [World.size_alloc] at y0
  have m1 := mn16_min a.ou b.ii
  have m2 := mn16_min a.ii b.ou
  generalize mn16 a.ou b.ii = p at *
  generalize mn16 a.ii b.ou = q at *
  obtain ⟨a0, a1, a2, a3, a4⟩ := x0.cs5
  obtain ⟨c0, c1, c2, c3, c4⟩ := y0.cs5
  go_enter Tryz.func59, Tryz.ntmps59
  go_upto_region 1 with fail
  go_quiet (fail)
  go_wp2_with fail
  go_ret2
  exact ⟨rfl, below_drewN b0 _⟩
set_option maxRecDepth 100000 in
set_option maxHeartbeats 4000000 in
theorem isInit_any (x : Ck) (hf : CkFine x) (A : Option Addr) (c : Nat) (K : Option Addr) (k : Nat) (w : World) (h : Chunk w w.heap.size A c K k x) (hh : Handle w) :
    Calls Tryz.prog 110 #[ckV x A c K k] w fun e w' => e = .returned (.bool (isI x)) ∧ Below w.heap.size w w' := by
  have b0 : Below w.heap.size w (w.alloc (.cells (ckCells x A c K k) 31)) := (Below.refl _ w).alloc (Nat.le_refl _) _
  have x0 := CkBox.new w x A c K k
  have HC := ccheck_any x hf A c K k _ (h.on b0) (hh.below b0 hh.lt)
  have HE : Hid (((x.t = 1 ∨ x.t = 2) ∧ chkC x = 0 ∧ isI x = true) ∨ ((x.t = 1 ∨ x.t = 2) ∧ chkC x ≠ 0 ∧ isI x = false) ∨ (x.t ≠ 1 ∧ x.t ≠ 2 ∧ isI x = false)) := by
    unfold Hid isI
    by_cases h1 : x.t = 1
    · by_cases hc : chkC x = 0
      · exact .inl ⟨.inl h1, hc, by simp [h1, hc]⟩
      · exact .inr (.inl ⟨.inl h1, hc, by simp [hc]⟩)
    · by_cases h2 : x.t = 2
      · by_cases hc : chkC x = 0
        · exact .inl ⟨.inr h2, hc, by simp [h2, hc]⟩
        · exact .inr (.inl ⟨.inr h2, hc, by simp [hc]⟩)
      · exact .inr (.inr ⟨h1, h2, by simp [h1, h2]⟩)
  have HCC := Lib.hid (fun hc : chkC x ≠ 0 => codeE_ne hc)
  obtain ⟨q0, q1, q2, q3⟩ := x0.cs
  have HB := Lib.hid b0
  have hz : w.heap.size ≤ (w.alloc (.cells (ckCells x A c K k) 31)).heap.size := by simp
  have HZ := Lib.hid hz
  clear h hf b0 hh hz x0
  generalize isI x = b at *
  generalize chkC x = cc at *
  obtain ⟨t, fl, d, ks⟩ := x
  simp only [ckV, ckCells] at *
  rcases HE.out with ⟨ht, rfl, rfl⟩ | ⟨ht, hc, rfl⟩ | ⟨h1, h2, rfl⟩
  · have e0 : codeE 0 = .nilIface := rfl
    rw [e0] at HC
    clear HCC HE e0
    rcases ht with rfl | rfl
    all_goals
      go_enter Tryz.func110, Tryz.ntmps110
      go_wp2_with fail
      refine HC.mono ?_
      rintro e w2 ⟨rfl, b2⟩
      go_wp2_with fail
      go_ret
      exact ⟨rfl, HB.out.trans (b2.mono HZ.out)⟩
  · rw [HCC.out hc] at HC
    clear hc HCC HE
    rcases ht with rfl | rfl
    all_goals
      go_enter Tryz.func110, Tryz.ntmps110
      go_wp2_with fail
      refine HC.mono ?_
      rintro e w2 ⟨rfl, b2⟩
      go_wp2_with fail
      go_ret
      exact ⟨rfl, HB.out.trans (b2.mono HZ.out)⟩
  · have e1 : ((t.toNat : Int) == 1) = false := by rw [beq_eq_false_iff_ne]; intro e; exact h1 (UInt8.toNat_inj.1 (by have : (1 : UInt8).toNat = 1 := rfl; omega))
    have e2 : ((t.toNat : Int) == 2) = false := by rw [beq_eq_false_iff_ne]; intro e; exact h2 (UInt8.toNat_inj.1 (by have : (2 : UInt8).toNat = 2 := rfl; omega))
    clear h1 h2 HC HE HCC
    go_enter Tryz.func110, Tryz.ntmps110
    go_wp2_with fail
    go_ret
    exact ⟨rfl, HB.out⟩
set_option maxRecDepth 100000 in
set_option maxHeartbeats 8000000 in
theorem ivals_any (d : List UInt8) (A : Option Addr) (c : Nat) (w : World) (h : Lies w w.heap.size A (d.map bv)) (h1 : d.length ≤ c) (h2 : c ≤ maxLen) (hl : 16 ≤ d.length) (hs : d.length ≤ 1000000) :
    Calls Tryz.prog 111 #[.slice A d.length c] w fun e w' => e = .returned (vlV (vlOf d)) ∧ Below w.heap.size w w' := by
  have b0 : Below w.heap.size w (w.alloc (.cells #[.int .u32 0, .int .u32 0, .int .u16 0, .int .u16 0, .int .u32 0] 80)) := (Below.refl _ w).alloc (Nat.le_refl _) _
  have x0 := Whole.new w 80 #[.int .u32 0, .int .u32 0, .int .u16 0, .int .u16 0, .int .u32 0]
  have hN := new_any A c d (w.alloc (.cells #[.int .u32 0, .int .u32 0, .int .u16 0, .int .u16 0, .int .u32 0] 80)) ((h.below b0).more b0.size) h1 h2 (by omega)
  have hz : w.heap.size < (w.alloc (.cells #[.int .u32 0, .int .u32 0, .int .u16 0, .int .u16 0, .int .u32 0] 80)).heap.size := by simp
  go_enter Tryz.func111, Tryz.ntmps111
  go_wp2_with fail
  generalize w.alloc (.cells #[.int .u32 0, .int .u32 0, .int .u16 0, .int .u16 0, .int .u32 0] 80) = wa at *
  refine hN.mono ?_
  rintro e w1 ⟨g, A2, c2, rfl, r1, B1⟩
  have hgb := r1.base_le
  clear hN h
  have n2 : Calls Tryz.prog 70 #[.pointer (some ⟨g, 0, none⟩), .int .i64 4] w1 fun e w' => e = .returned (.tuple #[uv (nrd d 0 4), .bool true]) ∧ Rdr w' wa.heap.size g A2 c2 d 4 ∧ w1.grownBy w' (some g) := by
    have h := cnumber_yes r1 4 rfl (by omega)
    rw [← nrd_toNat] at h
    exact h
  go_wp2_with fail
  refine n2.mono ?_
  rintro e w2 ⟨rfl, r2, gr2⟩
  have B2 := B1.grown gr2 B1.size (fun k e => by cases e; exact hgb)
  clear n2 r1 gr2 B1
  have n3 : Calls Tryz.prog 70 #[.pointer (some ⟨g, 0, none⟩), .int .i64 4] w2 fun e w' => e = .returned (.tuple #[uv (nrd d 4 4), .bool true]) ∧ Rdr w' wa.heap.size g A2 c2 d 8 ∧ w2.grownBy w' (some g) := by
    have h := cnumber_yes r2 4 rfl (by omega)
    rw [← nrd_toNat] at h
    exact h
  go_wp2_with fail
  refine n3.mono ?_
  rintro e w3 ⟨rfl, r3, gr3⟩
  have B3 := B2.grown gr3 B2.size (fun k e => by cases e; exact hgb)
  clear n3 r2 gr3 B2
  have n4 : Calls Tryz.prog 70 #[.pointer (some ⟨g, 0, none⟩), .int .i64 2] w3 fun e w' => e = .returned (.tuple #[uv (nrd d 8 2), .bool true]) ∧ Rdr w' wa.heap.size g A2 c2 d 10 ∧ w3.grownBy w' (some g) := by
    have h := cnumber_yes r3 2 rfl (by omega)
    rw [← nrd_toNat] at h
    exact h
  go_wp2_with fail
  refine n4.mono ?_
  rintro e w4 ⟨rfl, r4, gr4⟩
  have B4 := B3.grown gr4 B3.size (fun k e => by cases e; exact hgb)
  clear n4 r3 gr4 B3
  have n5 : Calls Tryz.prog 70 #[.pointer (some ⟨g, 0, none⟩), .int .i64 2] w4 fun e w' => e = .returned (.tuple #[uv (nrd d 10 2), .bool true]) ∧ Rdr w' wa.heap.size g A2 c2 d 12 ∧ w4.grownBy w' (some g) := by
    have h := cnumber_yes r4 2 rfl (by omega)
    rw [← nrd_toNat] at h
    exact h
  go_wp2_with fail
  refine n5.mono ?_
  rintro e w5 ⟨rfl, r5, gr5⟩
  have B5 := B4.grown gr5 B4.size (fun k e => by cases e; exact hgb)
  clear n5 r4 gr5 B4
  have n6 : Calls Tryz.prog 70 #[.pointer (some ⟨g, 0, none⟩), .int .i64 4] w5 fun e w' => e = .returned (.tuple #[uv (nrd d 12 4), .bool true]) ∧ Rdr w' wa.heap.size g A2 c2 d 16 ∧ w5.grownBy w' (some g) := by
    have h := cnumber_yes r5 4 rfl (by omega)
    rw [← nrd_toNat] at h
    exact h
  go_wp2_with fail
  refine n6.mono ?_
  rintro e w6 ⟨rfl, r6, gr6⟩
  have B6 := B5.grown gr6 B5.size (fun k e => by cases e; exact hgb)
  clear n6 r5 gr6 B5
  have x6 := x0.below B6 hz
  clear x0 r6
  go_wp2_with (first | (refine wpList_store_row rfl 80 _ _ rfl w.heap.size #[uv (nrd d 0 4), uv (nrd d 4 4), .int .u16 (IntKind.u16.wrap ((nrd d 8 2).toNat : Int)), .int .u16 (IntKind.u16.wrap ((nrd d 10 2).toNat : Int)), uv (nrd d 12 4)] rfl rfl _ _ x6 (by kernel_rfl) rfl (by simp [Value.oneCell']) ?_) | fail)
  (try simp only [Exit.inBlock, Exit.then])
  refine bodyPost_ret (results_row13 rfl _ _ w.heap.size 80 _ _ rfl (x6.setRow _) Tryz.underlying80 rfl (by kernel_rfl)) rfl ?_
  refine ⟨?_, below_setRow (b0.trans (B6.mono (Nat.le_of_lt hz))) (Nat.le_refl _) _⟩
  rw [u16wrap, u16wrap]
  rfl
end Go.Proofs.YtdcppcoldaaldaaGreatDoor






namespace Go.Proofs.YtdcppcoldaaldaaGreatDoor
open Go.RowKit

set_option linter.unusedSimpArgs false
abbrev fil (ks : List Nd) (t : UInt16) : List Nd := ks.filter (fun n => decide (n.t = t))
theorem fil_take {ks : List Nd} {k : Nat} {n : Nd} {t : UInt16} (h : ks[k]? = some n) : fil (ks.take (k + 1)) t = fil (ks.take k) t ++ (if n.t = t then [n] else []) := by
  rw [take_some h]
  unfold fil
  rw [List.filter_append]
  congr 1
  by_cases e : n.t = t <;> simp [e]
theorem fil_le (ks : List Nd) (t : UInt16) (k : Nat) : (fil (ks.take k) t).length ≤ k := by
  have h1 := List.length_filter_le (fun n : Nd => decide (n.t = t)) (ks.take k)
  have h2 := List.length_take (i := k) (l := ks)
  unfold fil
  omega
/-- values of slices that are the data of nodes -/
def FV (W : World) (B : Nat) (vs : List Value) (L : List Nd) : Prop := vs.length = L.length ∧ ∀ (j : Nat) (n : Nd), L[j]? = some n → ∃ u, vs[j]? = some u ∧ IsB W B u n.v
theorem FV.below {W W' : World} {B : Nat} {vs : List Value} {L : List Nd} (h : FV W B vs L) (hb : Below B W W') : FV W' B vs L := ⟨h.1, fun j n hn => by obtain ⟨u, h1, h2⟩ := h.2 j n hn; exact ⟨u, h1, h2.below hb⟩⟩
theorem FV.snoc {W : World} {B : Nat} {vs : List Value} {L : List Nd} {u : Value} {n : Nd} (h : FV W B vs L) (hu : IsB W B u n.v) : FV W B (vs ++ [u]) (L ++ [n]) := by
  refine ⟨by simp [h.1], fun j m hm => ?_⟩
  by_cases hj : j < L.length
  · rw [List.getElem?_append_left hj] at hm
    obtain ⟨x, h1, h2⟩ := h.2 j m hm
    exact ⟨x, by rw [List.getElem?_append_left (by rw [h.1]; exact hj)]; exact h1, h2⟩
  · have hlt := (List.getElem?_eq_some_iff.1 hm).1
    rw [List.length_append, List.length_singleton] at hlt
    obtain rfl : j = L.length := by omega
    rw [List.getElem?_append_right (Nat.le_refl _), Nat.sub_self, List.getElem?_cons_zero, Option.some.injEq] at hm
    subst hm
    exact ⟨u, by rw [List.getElem?_append_right (by rw [h.1]; exact Nat.le_refl _), h.1, Nat.sub_self]; rfl, hu⟩
/-- what found hands back -/
def FndR (L : List Nd) (w : World) (e : Ending) (w' : World) : Prop := Below w.heap.size w w' ∧ ∃ A' c' vs, e = .returned (.slice A' L.length c') ∧ w'.ownsRow w.heap.size 24 1 (.slice A' L.length c') L.length vs ∧ FV w' w'.heap.size vs L
set_option maxRecDepth 100000 in
set_option maxHeartbeats 8000000 in
theorem found_any (x : Ck) (t : UInt16) (hf : CkFine x) (A : Option Addr) (c : Nat) (K : Option Addr) (k : Nat) (w : World) (h : Chunk w w.heap.size A c K k x) (hh : Handle w) :
    Calls Tryz.prog 113 #[ckV x A c K k, hv t] w (FndR (fndI x t) w) := by
  have b0 : Below w.heap.size w (w.alloc (.cells (ckCells x A c K k) 31)) := (Below.refl _ w).alloc (Nat.le_refl _) _
  have x0 := CkBox.new w x A c K k
  have hI := isInit_any x hf A c K k _ (h.on b0) (hh.below b0 hh.lt)
  have hz : w.heap.size < (w.alloc (.cells (ckCells x A c K k) 31)).heap.size := by simp
  obtain ⟨q0, q1, q2, q3⟩ := x0.cs
  have hks := hf.ks
  have hK0 := h.kids
  have hkc := h.kc
  have hkm := h.km
  unfold fndI
  have HB := Lib.hid b0
  clear hf h hh b0
  generalize hwa : w.alloc (.cells (ckCells x A c K k) 31) = wa at *
  have HW := Lib.hid hwa
  clear hwa
  cases hi : isI x with
  | false =>
    rw [hi] at hI
    obtain ⟨ty, fl, d, ks⟩ := x
    simp only [ckV, ckCells] at *
    clear hi x0
    go_enter Tryz.func113, Tryz.ntmps113
    go_upto_region 1 with fail
    rw [HW.out]
    go_wp2_with fail
    refine hI.mono ?_
    rintro e w2 ⟨rfl, b2⟩
    go_wp2_with fail
    go_ret
    exact ⟨HB.out.trans (b2.mono (Nat.le_of_lt hz)), none, 0, [], rfl, World.ownsRow_nil _ _ _ _, rfl, fun j n hn => by simp at hn⟩
  | true =>
    rw [hi] at hI
    rw [if_pos rfl]
    obtain ⟨ty, fl, d, ks⟩ := x
    simp only [ckV, ckCells] at *
    clear hi
    go_enter Tryz.func113, Tryz.ntmps113
    go_upto_region 1 with fail
    rw [HW.out]
    go_wp2_with fail
    refine hI.mono ?_
    rintro e w2 ⟨rfl, b2⟩
    have x2 := CkBox.below x0 (b2.mono (Nat.le_refl _))
    have B2 := HB.out.trans (b2.mono (Nat.le_of_lt hz))
    have hz2 : w.heap.size < w2.heap.size := Nat.lt_of_lt_of_le hz b2.size
    have HKd := Lib.hid hK0
    clear q0 q1 q2 q3 x0 hI hK0 HW b2 hz
    obtain ⟨q0, q1, q2, q3⟩ := x2.cs
    simp only at q3 hks hkc
    have HBB := Lib.hid B2
    clear x2 B2 HB
    go_wp2_with fail
    go_loopw [5, 14] (fun l i wr => ∃ (j : Nat) (Al : Option Addr) (cl : Nat) (vs : List Value), j ≤ ks.length ∧ i = .int .i64 (j : Int) ∧ l = .slice Al (fil (ks.take j) t).length cl ∧ wr.ownsRow w2.heap.size 24 1 (.slice Al (fil (ks.take j) t).length cl) (fil (ks.take j) t).length vs ∧ FV wr w.heap.size vs (fil (ks.take j) t) ∧ Below w2.heap.size w2 wr) (fun _ i _ => ks.length - (intOf i).toNat)
    case atStart => exact ⟨0, none, 0, [], Nat.zero_le _, rfl, rfl, World.ownsRow_nil _ _ _ _, ⟨rfl, fun j n hn => by simp at hn⟩, Below.refl _ _⟩
    case round =>
      obtain ⟨j, Al, cl, vs, hj, rfl, rfl, hown, hfv, hbel⟩ := hrel
      by_cases hlt : j < ks.length
      · have hBr := HBB.out.trans (hbel.mono (Nat.le_of_lt hz2))
        obtain ⟨ad, A', c', K', k', n, rfl, hadb, hn', hc0, hc1, hc2, hN⟩ := (HKd.out.bel hBr).at_ hlt
        have hi1 : (j : Int) < (ks.length : Int) := by omega
        have v1 : Below wr.heap.size wr (wr.alloc (.cells #[hv n.t, .slice A' n.v.length c', .slice K' n.ks.length k'] 150)) := (Below.refl _ _).alloc (Nat.le_refl _) _
        have x1 := Whole.new wr 150 #[hv n.t, .slice A' n.v.length c', .slice K' n.ks.length k']
        have o1 := hown.alloc (.cells #[hv n.t, .slice A' n.v.length c', .slice K' n.ks.length k'] 150)
        have hls := fil_le ks t j
        have hwr : w.heap.size ≤ wr.heap.size := Nat.le_trans (Nat.le_of_lt hz2) hbel.size
        have hIs : IsB wr w.heap.size (.slice A' n.v.length c') n.v := ⟨A', c', rfl, hN.data, hN.dc, hN.dm⟩
        have HFT := Lib.hid (fil_take (t := t) hn'.out)
        have B1 := hbel.trans (v1.mono hbel.size)
        have f1 := hfv.below (v1.mono hwr)
        have i1 := hIs.below (v1.mono hwr)
        have HN := Lib.hid hn'
        clear hn' hN hIs hfv hown hBr
        go_upto_region 7 with fail
        generalize hFL : fil (ks.take j) t = L at *
        clear hFL
        generalize wr.alloc (.cells #[hv n.t, .slice A' n.v.length c', .slice K' n.ks.length k'] 150) = w3 at *
        clear hc0 hc1 hc2
        have r0 : w3.cell? ⟨wr.heap.size, 0, none⟩ = some (hv n.t) := by rw [x1.cell]; rfl
        have r1 : w3.cell? ⟨wr.heap.size, 1, none⟩ = some (.slice A' n.v.length c') := by rw [x1.cell]; rfl
        by_cases ht : n.t = t
        · have hte : ((n.t.toNat : Int) == (t.toNat : Int)) = true := by rw [ht]; exact beq_self_eq_true _
          rw [if_pos ht] at HFT
          have HT := Lib.hid ht
          clear ht
          go_upto_region 8 with fail
          have hB1 := Lib.hid B1.size
          have v4 : Below w3.heap.size w3 (w3.alloc (.cells #[.slice A' n.v.length c'] 24)) := (Below.refl _ _).alloc (Nat.le_refl _) _
          go_wp2_with (at_builtin; refine wpList_append_lies _ rfl (.tmp 22) (.tmp 25) 116 rfl w2.heap.size 24 _ 24 Tryz.underlying116 bsinfo13 rfl _ _ _ rfl (o1.alloc _) _ _ 1 1 _ rfl rfl (Lies.new1 _ _ _) (by intro u hu; rw [List.mem_singleton.1 hu]; rfl) (by omega) (by unfold maxLen; omega) (by simp; have := hB1.out; omega) ?_; intro A4 c4 w4 hown4 hgrow4 _)
          have B4 := below_own (B1.trans (v4.mono B1.size)) (o1.alloc _) hgrow4 (Nat.le_refl _) (by simp; have := hB1.out; omega)
          have hw3 : w.heap.size ≤ w3.heap.size := Nat.le_trans hwr v1.size
          have hbb := below_own (((Below.refl w.heap.size w3).alloc hw3 (.cells #[.slice A' n.v.length c'] 24))) (o1.alloc _) hgrow4 (Nat.le_of_lt hz2) (by simp; omega)
          have f4 := (f1.snoc i1).below hbb
          have H4 := Lib.hid hown4
          clear hown4 o1 x1 hgrow4 r0 r1 f1 i1 hbb v4 v1
          go_wp2_with fail
          go_roundw
          case rel => exact ⟨j + 1, A4, c4, vs ++ [.slice A' n.v.length c'], by omega, by go_num, by rw [HFT.out]; simp, by rw [HFT.out]; simpa using H4.out, by rw [HFT.out]; exact f4, B4⟩
          case measure => simp [intOf]; omega
        · have hte : ((n.t.toNat : Int) == (t.toNat : Int)) = false := by rw [beq_eq_false_iff_ne]; intro e; exact ht (UInt16.toNat_inj.1 (by omega))
          rw [if_neg ht, List.append_nil] at HFT
          clear ht
          go_wp2_with fail
          go_roundw
          case rel => exact ⟨j + 1, Al, cl, vs, by omega, by go_num, by rw [HFT.out], by rw [HFT.out]; exact o1, by rw [HFT.out]; exact f1, B1⟩
          case measure => simp [intOf]; omega
      · obtain rfl : j = ks.length := by omega
        have hi1 : ¬ (ks.length : Int) < (ks.length : Int) := by omega
        rw [List.take_length] at hown hfv ⊢
        go_wp2_with fail
        go_ret
        have hB := HBB.out.trans (hbel.mono (Nat.le_of_lt hz2))
        exact ⟨hB, Al, cl, vs, rfl, own_base hown (Nat.le_of_lt hz2), hfv.1, fun j n hn => by obtain ⟨u, h1, h2⟩ := hfv.2 j n hn; exact ⟨u, h1, h2.more' hB.size⟩⟩
set_option maxRecDepth 100000 in
set_option maxHeartbeats 4000000 in
theorem ihas_any (x : Ck) (t : UInt16) (hf : CkFine x) (A : Option Addr) (c : Nat) (K : Option Addr) (k : Nat) (w : World) (h : Chunk w w.heap.size A c K k x) (hh : Handle w) :
    Calls Tryz.prog 55 #[ckV x A c K k, hv t] w fun e w' => e = .returned (.bool (decide (0 < (fndI x t).length))) ∧ Below w.heap.size w w' := by
  have b0 : Below w.heap.size w (w.alloc (.cells (ckCells x A c K k) 31)) := (Below.refl _ w).alloc (Nat.le_refl _) _
  have x0 := CkBox.new w x A c K k
  have hI := found_any x t hf A c K k _ (h.on b0) (hh.below b0 hh.lt)
  obtain ⟨q0, q1, q2, q3⟩ := x0.cs
  have HB := Lib.hid b0
  clear hf h hh b0 x0
  generalize fndI x t = L at *
  obtain ⟨ty, fl, d, ks⟩ := x
  simp only [ckV, ckCells] at *
  unfold FndR at hI
  generalize L.length = m at *
  go_enter Tryz.func55, Tryz.ntmps55
  go_wp2_with fail
  refine hI.mono ?_
  rintro e w2 ⟨b2, A2, c2, vs, rfl, _, _⟩
  go_wp2_with fail
  go_ret
  exact ⟨rfl, HB.out.trans (b2.mono (by simp))⟩
theorem FV.parts {W : World} {L : List Nd} {base : Nat} {A : Option Addr} {c n : Nat} {vs : List Value} (hf : FV W W.heap.size vs L) (h : W.ownsRow base 24 1 (.slice A n c) n vs) : Parts W W.heap.size A vs (L.map Nd.v) := by
  refine ⟨Lies.own h, by rw [List.length_map]; exact hf.1, fun i p hp => ?_⟩
  rw [List.getElem?_map] at hp
  cases hn : L[i]? with
  | none => rw [hn] at hp; cases hp
  | some n =>
    rw [hn] at hp
    simp only [Option.map_some, Option.some.injEq] at hp
    subst hp
    exact hf.2 i n hn
set_option maxRecDepth 100000 in
set_option maxHeartbeats 4000000 in
theorem iext_any (x : Ck) (hf : CkFine x) (A : Option Addr) (c : Nat) (K : Option Addr) (k : Nat) (w : World) (h : Chunk w w.heap.size A c K k x) (hh : Handle w) (ht : tot ((fndI x 32776).map Nd.v) ≤ 1000000000) :
    Calls Tryz.prog 57 #[ckV x A c K k] w fun e w' => ∃ A' c', e = .returned (.slice A' (extL x).length c') ∧ w'.ownsRow w.heap.size 5 1 (.slice A' (extL x).length c') (extL x).length ((extL x).map bv) ∧ Below w.heap.size w w' := by
  have b0 : Below w.heap.size w (w.alloc (.cells (ckCells x A c K k) 31)) := (Below.refl _ w).alloc (Nat.le_refl _) _
  have x0 := CkBox.new w x A c K k
  have hI := found_any x 32776 hf A c K k _ (h.on b0) (hh.below b0 hh.lt)
  obtain ⟨q0, q1, q2, q3⟩ := x0.cs
  have HB := Lib.hid b0
  have hlen : (fndI x 32776).length ≤ 1000 := by
    unfold fndI
    have := hf.ks
    have h2 := List.length_filter_le (fun n : Nd => decide (n.t = 32776)) x.ks
    split <;> simp <;> omega
  clear hf h hh b0 x0
  unfold extL
  generalize fndI x 32776 = L at *
  obtain ⟨ty, fl, d, ks⟩ := x
  simp only [ckV, ckCells] at *
  unfold FndR at hI
  have HJ : Hid (∀ (W : World) (B : Nat) (A2 : Option Addr) (c2 : Nat) (vs : List Value), W.ownsRow B 24 1 (.slice A2 L.length c2) L.length vs → FV W W.heap.size vs L → Calls Tryz.prog 83 #[.slice A2 L.length c2] W fun e w' => ∃ A' c', e = .returned (.slice A' (L.map Nd.v).flatten.length c') ∧
      w'.ownsRow W.heap.size 5 1 (.slice A' (L.map Nd.v).flatten.length c') (L.map Nd.v).flatten.length ((L.map Nd.v).flatten.map bv) ∧ Below W.heap.size W w') := by
    intro W B A2 c2 vs h1 h2
    have h3 := join_any A2 c2 vs (L.map Nd.v) W (h2.parts h1) (by rw [List.length_map]; unfold maxLen; omega) (by omega)
    rw [List.length_map] at h3
    exact h3
  have HL := Lib.hid hlen
  clear ht hlen
  generalize (L.map Nd.v).flatten = E at *
  go_enter Tryz.func57, Tryz.ntmps57
  go_wp2_with fail
  refine hI.mono ?_
  rintro e w2 ⟨b2, A2, c2, vs, rfl, o2, f2⟩
  have hJ := HJ.out w2 _ A2 c2 vs o2 f2
  have B2 := HB.out.trans (b2.mono (by simp))
  clear HJ hI q0 q1 q2 q3
  go_wp2_with fail
  refine hJ.mono ?_
  rintro e w3 ⟨A3, c3, rfl, o3, b3⟩
  go_wp2_with fail
  go_ret
  exact ⟨A3, c3, rfl, own_base o3 B2.size, B2.trans (b3.mono B2.size)⟩
theorem fnd_small (x : Ck) (t : UInt16) (hf : CkFine x) : (fndI x t).length ≤ 1000 ∧ ∀ n ∈ fndI x t, n.v.length ≤ 800000 := by
  unfold fndI
  have h1 := hf.ks
  have h2 := List.length_filter_le (fun n : Nd => decide (n.t = t)) x.ks
  split
  · refine ⟨by omega, fun n hn => ?_⟩
    have h3 := (hf.each n (List.mem_filter.1 hn).1).vl
    rw [Nd.vlen_eq] at h3
    omega
  · exact ⟨by simp, fun n hn => by simp at hn⟩
theorem tot_leI (l : List (List UInt8)) (m : Nat) (h : ∀ p ∈ l, p.length ≤ m) : tot l ≤ l.length * m := by
  induction l with
  | nil => simp [tot]
  | cons p l ih =>
    have h1 := ih fun x hx => h x (List.mem_cons_of_mem _ hx)
    have h2 := h p (List.mem_cons_self ..)
    unfold tot at h1 ⊢
    rw [List.flatten_cons, List.length_append, List.length_cons, Nat.succ_mul]
    omega
theorem fnd_tot (x : Ck) (t : UInt16) (hf : CkFine x) : tot ((fndI x t).map Nd.v) ≤ 1000000000 := by
  obtain ⟨h1, h2⟩ := fnd_small x t hf
  have h3 := tot_leI ((fndI x t).map Nd.v) 800000 fun p hp => by obtain ⟨n, hn, rfl⟩ := List.mem_map.1 hp; exact h2 n hn
  rw [List.length_map] at h3
  have := Nat.mul_le_mul_right 800000 h1
  omega
set_option maxRecDepth 100000 in
set_option maxHeartbeats 4000000 in
theorem icookie_any (x : Ck) (hf : CkFine x) (A : Option Addr) (c : Nat) (K : Option Addr) (k : Nat) (w : World) (h : Chunk w w.heap.size A c K k x) (hh : Handle w) :
    Calls Tryz.prog 51 #[ckV x A c K k] w fun e w' => ∃ A' c', e = .returned (.tuple #[.slice A' (ckyL x).length c', .bool (ckyB x)]) ∧ w'.ownsRow w.heap.size 5 1 (.slice A' (ckyL x).length c') (ckyL x).length ((ckyL x).map bv) ∧ Below w.heap.size w w' := by
  have b0 : Below w.heap.size w (w.alloc (.cells (ckCells x A c K k) 31)) := (Below.refl _ w).alloc (Nat.le_refl _) _
  have x0 := CkBox.new w x A c K k
  have hI := found_any x 7 hf A c K k _ (h.on b0) (hh.below b0 hh.lt)
  obtain ⟨hlen, hsm⟩ := fnd_small x 7 hf
  have hz : w.heap.size < (w.alloc (.cells (ckCells x A c K k) 31)).heap.size := by simp
  have HB := Lib.hid b0
  have HN : Hid (ckyB x = false → ckyL x = []) := Lib.hid (fun h => by unfold ckyL; rw [h]; rfl)
  have HB1 : Hid (x.t ≠ 2 → ckyB x = false) := Lib.hid (fun h => by unfold ckyB; rw [decide_eq_false h]; rfl)
  have HB2 : Hid (fndI x 7 = [] → ckyB x = false) := Lib.hid (fun h => by unfold ckyB; rw [h]; simp)
  have HB3 : Hid (∀ n L, x.t = 2 → fndI x 7 = n :: L → ckyB x = true ∧ ckyL x = n.v) := Lib.hid (fun n L h1 h2 => by
    have e : ckyB x = true := by unfold ckyB; rw [h1, h2]; rfl
    exact ⟨e, by unfold ckyL; rw [e, h2]; rfl⟩)
  clear hf h hh b0
  generalize fndI x 7 = L at *
  generalize ckyB x = bb at *
  generalize ckyL x = ll at *
  obtain ⟨ty, fl, d, ks⟩ := x
  unfold FndR at hI
  simp only [ckV, ckCells] at *
  generalize hwa : w.alloc (.cells #[bv ty, bv fl, .slice A d.length c, .slice K ks.length k] 31) = wa at *
  have HW := Lib.hid hwa
  clear hwa
  by_cases ht : ty = 2
  · subst ht
    cases L with
    | nil =>
      have e1 := HB2.out rfl
      have e2 := HN.out e1
      subst e1
      subst e2
      clear HN HB1 HB2 HB3
      go_enter Tryz.func51, Tryz.ntmps51
      obtain ⟨q0, q1, q2, q3⟩ := x0.cs
      go_upto_region 1 with fail
      rw [HW.out]
      go_wp2_with fail
      refine hI.mono ?_
      rintro e w2 ⟨b2, A2, c2, vs, rfl, o2, f2⟩
      have x2 := CkBox.below x0 b2
      clear q0 q1 q2 q3 hI x0
      obtain ⟨q0, q1, q2, q3⟩ := x2.cs
      go_wp2_with fail
      go_ret2
      exact ⟨none, 0, rfl, World.ownsRow_nil _ _ _ _, HB.out.trans (b2.mono (Nat.le_of_lt hz))⟩
    | cons n L =>
      obtain ⟨e1, e2⟩ := HB3.out n L rfl rfl
      subst e1
      subst e2
      have hnv := hsm n (List.mem_cons_self ..)
      clear HN HB1 HB2 HB3 hsm
      obtain ⟨m, hm⟩ : ∃ m, m = (n :: L).length := ⟨_, rfl⟩
      have hm1 : 0 < m := by rw [hm]; simp
      have hm2 : (0 : Int) < (m : Int) := by omega
      have hm3 : ((m : Int) == 0) = false := by rw [beq_eq_false_iff_ne]; omega
      rw [← hm] at hI hlen
      have HM := Lib.hid hm
      clear hm
      go_enter Tryz.func51, Tryz.ntmps51
      obtain ⟨q0, q1, q2, q3⟩ := x0.cs
      go_upto_region 1 with fail
      rw [HW.out]
      go_wp2_with fail
      refine hI.mono ?_
      rintro e w2 ⟨b2, A2, c2, vs, rfl, o2, f2⟩
      have x2 := CkBox.below x0 b2
      clear q0 q1 q2 q3 hI x0
      obtain ⟨q0, q1, q2, q3⟩ := x2.cs
      obtain ⟨u, hu, A3, c3, rfl, hl3, hc3, hm3'⟩ := f2.2 0 n rfl
      obtain ⟨ad, rfl, hadb, hcell⟩ := Lies.own o2 (fun e => by rw [e] at hu; simp at hu)
      have r0 := hcell 0 _ hu
      rw [show ad.add 0 = ad by simp [Addr.add]] at r0
      have B2 := HB.out.trans (b2.mono (Nat.le_of_lt hz))
      have hJ := join_one A3 c3 w2.heap.size n.v w2 hl3 (Nat.le_refl _) hc3 hm3' (by omega)
      clear x2 o2 f2 hu hcell hl3
      go_wp2_with fail
      refine hJ.mono ?_
      rintro e w3 ⟨A4, c4, rfl, o4, b4⟩
      go_wp2_with fail
      go_ret2
      exact ⟨A4, c4, rfl, own_base o4 B2.size, B2.trans (b4.mono B2.size)⟩
  · have e1 := HB1.out ht
    have e2 := HN.out e1
    subst e1
    subst e2
    have e3 : ((ty.toNat : Int) != 2) = true := u8_ne (n := 2) (by decide) ht
    clear HN HB1 HB2 HB3 ht
    go_enter Tryz.func51, Tryz.ntmps51
    obtain ⟨q0, q1, q2, q3⟩ := x0.cs
    go_upto_region 1 with fail
    rw [HW.out]
    go_wp2_with fail
    refine hI.mono ?_
    rintro e w2 ⟨b2, A2, c2, vs, rfl, o2, f2⟩
    have x2 := CkBox.below x0 b2
    clear q0 q1 q2 q3 hI x0
    obtain ⟨q0, q1, q2, q3⟩ := x2.cs
    go_wp2_with fail
    go_ret2
    exact ⟨none, 0, rfl, World.ownsRow_nil _ _ _ _, HB.out.trans (b2.mono (Nat.le_of_lt hz))⟩
def ecB (x : Ck) : Bool := decide (0 < (ckyL x).length)
/-- what Echo gives -/
def ecC (x : Ck) : Ck := if 0 < (ckyL x).length then ⟨10, 0, ckyL x, []⟩ else ⟨0, 0, [], []⟩
set_option maxRecDepth 100000 in
set_option maxHeartbeats 4000000 in
theorem iecho_any (x : Ck) (hf : CkFine x) (A : Option Addr) (c : Nat) (K : Option Addr) (k : Nat) (w : World) (h : Chunk w w.heap.size A c K k x) (hh : Handle w) :
    Calls Tryz.prog 53 #[ckV x A c K k] w fun e w' => ∃ A' c', e = .returned (.tuple #[ckV (ecC x) A' c' none 0, .bool (ecB x)]) ∧ Chunk w' w'.heap.size A' c' none 0 (ecC x) ∧ Below w.heap.size w w' := by
  have b0 : Below w.heap.size w ((w.alloc (.cells (ckCells x A c K k) 31)).alloc (.cells #[.int .u8 0, .int .u8 0, .slice none 0 0, .slice none 0 0] 31)) := ((Below.refl _ w).alloc (Nat.le_refl _) _).alloc (by simp) _
  have x0 := (CkBox.new w x A c K k).alloc (.cells #[.int .u8 0, .int .u8 0, .slice none 0 0, .slice none 0 0] 31)
  have y0 := Whole.new (w.alloc (.cells (ckCells x A c K k) 31)) 31 #[.int .u8 0, .int .u8 0, .slice none 0 0, .slice none 0 0]
  rw [World.size_alloc] at y0
  have hI := icookie_any x hf A c K k _ (h.on b0) (hh.below b0 hh.lt)
  have hz : w.heap.size + 1 < ((w.alloc (.cells (ckCells x A c K k) 31)).alloc (.cells #[.int .u8 0, .int .u8 0, .slice none 0 0, .slice none 0 0] 31)).heap.size := by simp
  have HB := Lib.hid b0
  have HY : Hid (0 < (ckyL x).length → ecC x = ⟨10, 0, ckyL x, []⟩ ∧ ecB x = true) := Lib.hid (fun h => ⟨by unfold ecC; rw [if_pos h], by unfold ecB; rw [decide_eq_true h]⟩)
  have HNo : Hid (¬ 0 < (ckyL x).length → ecC x = ⟨0, 0, [], []⟩ ∧ ecB x = false) := Lib.hid (fun h => ⟨by unfold ecC; rw [if_neg h], by unfold ecB; rw [decide_eq_false h]⟩)
  generalize ecC x = y at *
  generalize ecB x = be at *
  clear hf h hh b0
  generalize ckyB x = bb at *
  generalize ckyL x = ll at *
  obtain ⟨ty, fl, d, ks⟩ := x
  simp only [ckV, ckCells] at *
  generalize hwa : (w.alloc (.cells #[bv ty, bv fl, .slice A d.length c, .slice K ks.length k] 31)).alloc (.cells #[.int .u8 0, .int .u8 0, .slice none 0 0, .slice none 0 0] 31) = wa at *
  have HW := Lib.hid hwa
  clear hwa
  go_enter Tryz.func53, Tryz.ntmps53
  obtain ⟨q0, q1, q2, q3⟩ := wh4 x0
  go_upto_region 1 with fail
  rw [HW.out]
  go_wp2_with fail
  refine hI.mono ?_
  rintro e w2 ⟨A2, c2, rfl, o2, b2⟩
  have y2 := y0.below b2 hz
  have B2 := HB.out.trans (b2.mono (Nat.le_of_lt (Nat.lt_of_succ_lt hz)))
  have HO := Lib.hid o2
  clear q0 q1 q2 q3 hI x0 y0 o2
  by_cases hl : 0 < ll.length
  · have hl2 : ((ll.length : Int) == 0) = false := by rw [beq_eq_false_iff_ne]; omega
    have HE := Lib.hid (HY.out hl)
    have HL := Lib.hid hl
    clear hl HY HNo
    go_wp2_with (first | (refine wpList_store_row rfl 31 _ _ rfl (w.heap.size + 1) #[.int .u8 10, .int .u8 0, .slice A2 ll.length c2, .slice none 0 0] rfl rfl _ _ y2 (by kernel_rfl) rfl (by simp [Value.oneCell']) ?_) | fail)
    (try simp only [Exit.inBlock, Exit.then])
    refine bodyPost_ret (results_row_tmp rfl _ _ (w.heap.size + 1) 31 _ _ rfl (y2.setRow _) Tryz.underlying31 rfl (by kernel_rfl)) rfl ?_
    have hcap := own_cap HO.out
    rw [HE.out.1, HE.out.2]
    refine ⟨A2, c2, rfl, ⟨?_, hcap.2.1, hcap.2.2, Nodes.nil _ _ _, Nat.le_refl _, Nat.zero_le _⟩, below_setRow B2 (Nat.le_succ _) _⟩
    have hsz : (w2.setRow (w.heap.size + 1) #[.int .u8 10, .int .u8 0, .slice A2 ll.length c2, .slice none 0 0]).heap.size = w2.heap.size := by simp
    rw [hsz]
    exact lies_setRow13 (Lies.own HO.out) (whole_row_ne y2 (by decide) HO.out) _
  · have hl2 : ((ll.length : Int) == 0) = true := by rw [beq_iff_eq]; omega
    have HE := Lib.hid (HNo.out hl)
    clear hl HY HNo
    go_wp2_with (first | (refine wpList_store_row rfl 31 _ _ rfl (w.heap.size + 1) #[.int .u8 0, .int .u8 0, .slice none 0 0, .slice none 0 0] rfl rfl _ _ y2 (by kernel_rfl) rfl (by simp [Value.oneCell']) ?_) | fail)
    (try simp only [Exit.inBlock, Exit.then])
    refine bodyPost_ret (results_row_tmp rfl _ _ (w.heap.size + 1) 31 _ _ rfl (y2.setRow _) Tryz.underlying31 rfl (by kernel_rfl)) rfl ?_
    rw [HE.out.1, HE.out.2]
    exact ⟨none, 0, rfl, ⟨Lies.nil, Nat.le_refl _, Nat.zero_le _, Nodes.nil _ _ _, Nat.le_refl _, Nat.zero_le _⟩, below_setRow B2 (Nat.le_succ _) _⟩
end Go.Proofs.YtdcppcoldaaldaaGreatDoor








namespace Go.Proofs.YtdcppcoldaaldaaGreatDoor
open Go.RowKit

set_option linter.unusedSimpArgs false
theorem ChunkS.turnI {w w' : World} {S S' : Nat → Prop} {A : Option Addr} {c : Nat} {K : Option Addr} {k : Nat} {x : Ck} (h : ChunkS w S A c K k x) (hk : ∀ p : Addr, S p.block → w'.cell? p = w.cell? p) (hs : ∀ b, S b → S' b) : ChunkS w' S' A c K k x :=
  ⟨h.data.turn hk hs, h.dc, h.dm, h.kids.turn hk hs, h.kc, h.km⟩
theorem Chunk.on1 {w w' : World} {A K : Option Addr} {c k : Nat} {x : Ck} (h : Chunk w w.heap.size A c K k x) (hb : Below w.heap.size w w') : Chunk w' w'.heap.size A c K k x := h.on hb
theorem few2I (n : Nd) : Fine n → Few2 n :=
  Nd.ind (P := fun n => Fine n → Few2 n) (fun t v ks ih h => .mk (by have := h.kl; omega) (by have := h.vl; rw [Nd.vlen_eq] at this; omega) fun k hk => ih k hk (h.kid k hk)) n
theorem results_row_tmpI {P : Program} {fn : Func} {p q q2 : Tmp} {ty : TypeId} (h : fn.results = #[.cell p ty, .tmp q, .tmp q2]) (tmps : Array Value) (w : World) (g : Nat) (t : TypeId) (cs : Array Value) (d : TypeDesc)
    (hp : tmps.getD p undef = .pointer (some ⟨g, 0, none⟩)) (hg : Whole w g t cs)
    (hu : P.underlying ty = some d) (hd : (match d with | .struct _ | .array _ _ => true | _ => false) = true) (hi : (P.info? ty).map (·.size) = some cs.size) :
    (results fn tmps).run P w = .ok (.tuple #[.agg cs, tmps.getD q undef, tmps.getD q2 undef]) w := by
  have hp' : tmps[p]?.getD undef = .pointer (some ⟨g, 0, none⟩) := by simpa using hp
  simp only [results, h]
  simp [hp', asAddr, run_loadVar_row w g t ty cs (0, 0) d hg hu hd hi]
/-- what Make hands back -/
def MkI (x : Ck) (w : World) (e : Ending) (w' : World) : Prop := Below w.heap.size w w' ∧ ((chkC x = 0 ∧ ∃ A' c' K' k', e = .returned (.tuple #[ckV x A' c' K' k', .bool true]) ∧ ChunkS w' (NewS w w') A' c' K' k' x) ∨ (chkC x ≠ 0 ∧ e = .returned (.tuple #[zck13, .bool false])))
theorem ckI_fine (an : Bool) (v : Vl) (ks : List Nd) (hks : ks.length ≤ 1000) (hf : ∀ n ∈ ks, Fine n) : CkFine (ckI an v ks) := ⟨by show (vlB v).length ≤ _; rw [vlB_len]; omega, hks, hf⟩
set_option maxRecDepth 100000 in
set_option maxHeartbeats 8000000 in
theorem imake_false (v : Vl) (ks : List Nd) (hks : ks.length ≤ 1000) (hf : ∀ n ∈ ks, Fine n) (K : Option Addr) (k : Nat) (w : World) (hK : Nodes w w.heap.size K ks) (hkc : ks.length ≤ k) (hkm : k ≤ maxLen) (hh : Handle w) :
    Calls Tryz.prog 44 #[.bool false, vlV v, .slice K ks.length k] w (MkI (ckI false v ks) w) := by
  have b0 : Below w.heap.size w ((w.alloc (.cells (vlCells v) 80)).alloc (.cells #[.int .u8 0, .int .u8 0, .slice none 0 0, .slice none 0 0] 31)) := ((Below.refl _ w).alloc (Nat.le_refl _) _).alloc (by simp) _
  have x0 := (Whole.new w 80 (vlCells v)).alloc (.cells #[.int .u8 0, .int .u8 0, .slice none 0 0, .slice none 0 0] 31)
  have y0 := Whole.new (w.alloc (.cells (vlCells v) 80)) 31 #[.int .u8 0, .int .u8 0, .slice none 0 0, .slice none 0 0]
  rw [World.size_alloc] at y0
  have hz : w.heap.size + 1 < ((w.alloc (.cells (vlCells v) 80)).alloc (.cells #[.int .u8 0, .int .u8 0, .slice none 0 0, .slice none 0 0] 31)).heap.size := by simp
  have HBy := ibytes_any v ((w.alloc (.cells (vlCells v) 80)).alloc (.cells #[.int .u8 0, .int .u8 0, .slice none 0 0, .slice none 0 0] 31))
  have hf1 := ckI_fine false v ks hks hf
  have hf2 : ∀ n ∈ ks, Few2 n := fun n hn => few2I n (hf n hn)
  have HCK : Hid (∀ (V : World) (A1 : Option Addr) (c1 : Nat), Chunk V V.heap.size A1 c1 K k (ckI false v ks) → Handle V → Calls Tryz.prog 23 #[.agg #[.int .u8 1, .int .u8 0, .slice A1 16 c1, .slice K ks.length k]] V fun e w' => e = .returned (codeE (chkC (ckI false v ks))) ∧ Below V.heap.size V w') := Lib.hid (fun V A1 c1 h1 h2 => by
    have h := ccheck_any (ckI false v ks) hf1 A1 c1 K k V h1 h2
    unfold ckV at h
    rw [show (ckI false v ks).d.length = 16 from vlB_len v] at h
    exact h)
  have HCL : Hid (∀ (V : World) (A1 : Option Addr) (c1 : Nat), Chunk V V.heap.size A1 c1 K k (ckI false v ks) → Calls Tryz.prog 109 #[.agg #[.int .u8 1, .int .u8 0, .slice A1 16 c1, .slice K ks.length k]] V fun e w' => ∃ A' c' K' k', e = .returned (ckV (ckI false v ks) A' c' K' k') ∧ ChunkS w' (NewS V w') A' c' K' k' (ckI false v ks) ∧ Below V.heap.size V w') := Lib.hid (fun V A1 c1 h1 => by
    have h := cclone_any (ckI false v ks) (by show (vlB v).length ≤ _; rw [vlB_len]; omega) (by show ks.length ≤ _; omega) hf2 A1 c1 K k V h1
    unfold ckV at h
    rw [show (ckI false v ks).d.length = 16 from vlB_len v] at h
    exact h)
  have HMK : Hid (∀ (V : World) (A1 : Option Addr) (c1 : Nat), Lies V V.heap.size A1 ((vlB v).map bv) → 16 ≤ c1 → c1 ≤ maxLen → Nodes V V.heap.size K ks → Chunk V V.heap.size A1 c1 K k (ckI false v ks)) := Lib.hid (fun V A1 c1 h1 h2 h3 h4 => ⟨h1, by show (vlB v).length ≤ _; rw [vlB_len]; exact h2, h3, h4, hkc, hkm⟩)
  have HB := Lib.hid b0
  have HH := Lib.hid (fun (V : World) (hb : Below w.heap.size w V) => hh.below hb hh.lt)
  have HN := Lib.hid (fun (V : World) (hb : Below w.heap.size w V) => hK.on hb)
  unfold MkI
  have HE0 : Hid (chkC (ckI false v ks) = 0 → codeE (chkC (ckI false v ks)) = .nilIface) := Lib.hid (fun h => by rw [h]; rfl)
  have HE1 : Hid (chkC (ckI false v ks) ≠ 0 → codeE (chkC (ckI false v ks)) = _) := Lib.hid (fun h => codeE_ne h)
  clear hks hf hf1 hf2 hkc hkm hh hK b0
  generalize ckI false v ks = x at *
  generalize vlB v = bs at *
  generalize hcc : chkC x = cc at *
  clear hcc
  obtain ⟨tg, wd, ou, ii, ts⟩ := v
  simp only [vlV, vlCells] at *
  obtain ⟨q0, q1, q2, q3, q4⟩ := x0.cs5
  generalize hwa : (w.alloc (.cells #[uv tg, uv wd, hv ou, hv ii, uv ts] 80)).alloc (.cells #[.int .u8 0, .int .u8 0, .slice none 0 0, .slice none 0 0] 31) = wa at *
  have HW := Lib.hid hwa
  clear hwa
  go_enter Tryz.func44, Tryz.ntmps44
  go_upto_region 1 with fail
  rw [HW.out]
  go_wp2_with fail
  refine HBy.mono ?_
  rintro e w2 ⟨A1, c1, rfl, o1, b2⟩
  have y2 := y0.below b2 hz
  have HB2 := Lib.hid (HB.out.trans (b2.mono (Nat.le_of_lt (Nat.lt_of_succ_lt hz))))
  have hs2 := Nat.lt_of_lt_of_le hz b2.size
  clear q0 q1 q2 q3 q4 x0 y0 HBy b2 HW
  go_upto_region 2 with fail
  have v3 : Below w2.heap.size w2 (w2.alloc (.cells #[.int .u8 1, .int .u8 0, .slice A1 16 c1, .slice K ks.length k] 31)) := (Below.refl _ _).alloc (Nat.le_refl _) _
  have z3 := Whole.new w2 31 #[.int .u8 1, .int .u8 0, .slice A1 16 c1, .slice K ks.length k]
  have y3 := y2.below v3 hs2
  have o3 := o1.alloc (.cells #[.int .u8 1, .int .u8 0, .slice A1 16 c1, .slice K ks.length k] 31)
  have HB3 := Lib.hid (HB2.out.trans (v3.mono HB2.out.size))
  have hs3 := Nat.lt_of_lt_of_le hs2 v3.size
  have hne3 : w.heap.size + 1 ≠ w2.heap.size := by omega
  have hbg : w.heap.size ≤ w2.heap.size := by omega
  have hbg2 : w.heap.size + 2 ≤ w2.heap.size := by omega
  generalize w2.alloc (.cells #[.int .u8 1, .int .u8 0, .slice A1 16 c1, .slice K ks.length k] 31) = w3 at *
  generalize w2.heap.size = g at *
  clear y2 o1 v3 HB2 hs2 HB
  have z4 := z3
  have y4 := y3
  have o4 := o3
  have HB4 := HB3
  have hs4 := hs3
  clear z3 y3 o3 HB3 hs3
  have hcap := own_cap o4
  have hCh := HMK.out w3 A1 c1 (Lies.own o4) hcap.2.1 hcap.2.2 (HN.out _ HB4.out)
  have HC := HCK.out w3 A1 c1 hCh (HH.out _ HB4.out)
  obtain ⟨m0, m1, m2, m3⟩ := wh4 z4
  clear HN HMK HCK o4 hcap
  by_cases hc : cc = 0
  · rw [HE0.out hc] at HC
    have HCC := Lib.hid hc
    clear hc HE0 HE1
    go_wp2_with fail
    refine HC.mono ?_
    rintro e w5 ⟨rfl, b5⟩
    have z5 := z4.below b5 z4.lt
    have y5 := y4.below b5 hs4
    have hCh5 := hCh.on1 b5
    have HB5 := Lib.hid (HB4.out.trans (b5.mono HB4.out.size))
    have hs5 := Nat.lt_of_lt_of_le hs4 b5.size
    have HK := HCL.out w5 A1 c1 hCh5
    clear m0 m1 m2 m3 z4 y4 HC hCh HB4 HCL hCh5 b5
    obtain ⟨m0, m1, m2, m3⟩ := wh4 z5
    unfold ckV at HK
    go_wp2_with fail
    refine HK.mono ?_
    rintro e w6 ⟨A2, c2, K2, k2, rfl, hS6, b6⟩
    have y6 := y5.below b6 hs5
    have B6 := HB5.out.trans (b6.mono HB5.out.size)
    have h55 := HB5.out.size
    clear m0 m1 m2 m3 z5 y5 HK HB5
    go_wp2_with (first | (refine wpList_store_row rfl 31 _ _ rfl (w.heap.size + 1) #[bv x.t, bv x.fl, .slice A2 x.d.length c2, .slice K2 x.ks.length k2] rfl rfl _ _ y6 (by kernel_rfl) rfl (by simp [Value.oneCell']) ?_) | fail)
    (try simp only [Exit.inBlock, Exit.then])
    refine bodyPost_ret (results_row_tmp rfl _ _ (w.heap.size + 1) 31 _ _ rfl (y6.setRow _) Tryz.underlying31 rfl (by kernel_rfl)) rfl ?_
    have hsz : (w6.setRow (w.heap.size + 1) #[bv x.t, bv x.fl, .slice A2 x.d.length c2, .slice K2 x.ks.length k2]).heap.size = w6.heap.size := by simp
    refine ⟨below_setRow B6 (Nat.le_succ _) _, .inl ⟨HCC.out, A2, c2, K2, k2, rfl, ?_⟩⟩
    have hS7 : ChunkS (w6.setRow (w.heap.size + 1) #[bv x.t, bv x.fl, .slice A2 x.d.length c2, .slice K2 x.ks.length k2]) (NewS w5 w6) A2 c2 K2 k2 x := hS6.turnI (fun p hp => cell_setRow_other _ _ _ _ (fun e => by have h1 := hp.1; omega)) (fun b hb => hb)
    exact hS7.turnI (fun p _ => rfl) (fun b hb => ⟨Nat.le_trans h55 hb.1, by rw [hsz]; exact hb.2⟩)
  · rw [HE1.out hc] at HC
    have HCC := Lib.hid hc
    clear hc HE0 HE1 HCL
    go_wp2_with fail
    refine HC.mono ?_
    rintro e w5 ⟨rfl, b5⟩
    have y5 := y4.below b5 hs4
    have B5 := HB4.out.trans (b5.mono HB4.out.size)
    clear m0 m1 m2 m3 z4 y4 HC hCh
    go_wp2_with (first | (refine wpList_store_row rfl 31 _ _ rfl (w.heap.size + 1) #[.int .u8 0, .int .u8 0, .slice none 0 0, .slice none 0 0] rfl rfl _ _ y5 (by kernel_rfl) rfl (by simp [Value.oneCell']) ?_) | fail)
    (try simp only [Exit.inBlock, Exit.then])
    refine bodyPost_ret (results_row_tmp rfl _ _ (w.heap.size + 1) 31 _ _ rfl (y5.setRow _) Tryz.underlying31 rfl (by kernel_rfl)) rfl ?_
    exact ⟨below_setRow B5 (Nat.le_succ _) _, .inr ⟨HCC.out, rfl⟩⟩
set_option maxRecDepth 100000 in
set_option maxHeartbeats 8000000 in
theorem imake_true (v : Vl) (ks : List Nd) (hks : ks.length ≤ 1000) (hf : ∀ n ∈ ks, Fine n) (K : Option Addr) (k : Nat) (w : World) (hK : Nodes w w.heap.size K ks) (hkc : ks.length ≤ k) (hkm : k ≤ maxLen) (hh : Handle w) :
    Calls Tryz.prog 44 #[.bool true, vlV v, .slice K ks.length k] w (MkI (ckI true v ks) w) := by
  have b0 : Below w.heap.size w ((w.alloc (.cells (vlCells v) 80)).alloc (.cells #[.int .u8 0, .int .u8 0, .slice none 0 0, .slice none 0 0] 31)) := ((Below.refl _ w).alloc (Nat.le_refl _) _).alloc (by simp) _
  have x0 := (Whole.new w 80 (vlCells v)).alloc (.cells #[.int .u8 0, .int .u8 0, .slice none 0 0, .slice none 0 0] 31)
  have y0 := Whole.new (w.alloc (.cells (vlCells v) 80)) 31 #[.int .u8 0, .int .u8 0, .slice none 0 0, .slice none 0 0]
  rw [World.size_alloc] at y0
  have hz : w.heap.size + 1 < ((w.alloc (.cells (vlCells v) 80)).alloc (.cells #[.int .u8 0, .int .u8 0, .slice none 0 0, .slice none 0 0] 31)).heap.size := by simp
  have HBy := ibytes_any v ((w.alloc (.cells (vlCells v) 80)).alloc (.cells #[.int .u8 0, .int .u8 0, .slice none 0 0, .slice none 0 0] 31))
  have hf1 := ckI_fine true v ks hks hf
  have hf2 : ∀ n ∈ ks, Few2 n := fun n hn => few2I n (hf n hn)
  have HCK : Hid (∀ (V : World) (A1 : Option Addr) (c1 : Nat), Chunk V V.heap.size A1 c1 K k (ckI true v ks) → Handle V → Calls Tryz.prog 23 #[.agg #[.int .u8 2, .int .u8 0, .slice A1 16 c1, .slice K ks.length k]] V fun e w' => e = .returned (codeE (chkC (ckI true v ks))) ∧ Below V.heap.size V w') := Lib.hid (fun V A1 c1 h1 h2 => by
    have h := ccheck_any (ckI true v ks) hf1 A1 c1 K k V h1 h2
    unfold ckV at h
    rw [show (ckI true v ks).d.length = 16 from vlB_len v] at h
    exact h)
  have HCL : Hid (∀ (V : World) (A1 : Option Addr) (c1 : Nat), Chunk V V.heap.size A1 c1 K k (ckI true v ks) → Calls Tryz.prog 109 #[.agg #[.int .u8 2, .int .u8 0, .slice A1 16 c1, .slice K ks.length k]] V fun e w' => ∃ A' c' K' k', e = .returned (ckV (ckI true v ks) A' c' K' k') ∧ ChunkS w' (NewS V w') A' c' K' k' (ckI true v ks) ∧ Below V.heap.size V w') := Lib.hid (fun V A1 c1 h1 => by
    have h := cclone_any (ckI true v ks) (by show (vlB v).length ≤ _; rw [vlB_len]; omega) (by show ks.length ≤ _; omega) hf2 A1 c1 K k V h1
    unfold ckV at h
    rw [show (ckI true v ks).d.length = 16 from vlB_len v] at h
    exact h)
  have HMK : Hid (∀ (V : World) (A1 : Option Addr) (c1 : Nat), Lies V V.heap.size A1 ((vlB v).map bv) → 16 ≤ c1 → c1 ≤ maxLen → Nodes V V.heap.size K ks → Chunk V V.heap.size A1 c1 K k (ckI true v ks)) := Lib.hid (fun V A1 c1 h1 h2 h3 h4 => ⟨h1, by show (vlB v).length ≤ _; rw [vlB_len]; exact h2, h3, h4, hkc, hkm⟩)
  have HB := Lib.hid b0
  have HH := Lib.hid (fun (V : World) (hb : Below w.heap.size w V) => hh.below hb hh.lt)
  have HN := Lib.hid (fun (V : World) (hb : Below w.heap.size w V) => hK.on hb)
  unfold MkI
  have HE0 : Hid (chkC (ckI true v ks) = 0 → codeE (chkC (ckI true v ks)) = .nilIface) := Lib.hid (fun h => by rw [h]; rfl)
  have HE1 : Hid (chkC (ckI true v ks) ≠ 0 → codeE (chkC (ckI true v ks)) = _) := Lib.hid (fun h => codeE_ne h)
  clear hks hf hf1 hf2 hkc hkm hh hK b0
  generalize ckI true v ks = x at *
  generalize vlB v = bs at *
  generalize hcc : chkC x = cc at *
  clear hcc
  obtain ⟨tg, wd, ou, ii, ts⟩ := v
  simp only [vlV, vlCells] at *
  obtain ⟨q0, q1, q2, q3, q4⟩ := x0.cs5
  generalize hwa : (w.alloc (.cells #[uv tg, uv wd, hv ou, hv ii, uv ts] 80)).alloc (.cells #[.int .u8 0, .int .u8 0, .slice none 0 0, .slice none 0 0] 31) = wa at *
  have HW := Lib.hid hwa
  clear hwa
  go_enter Tryz.func44, Tryz.ntmps44
  go_upto_region 1 with fail
  rw [HW.out]
  go_wp2_with fail
  refine HBy.mono ?_
  rintro e w2 ⟨A1, c1, rfl, o1, b2⟩
  have y2 := y0.below b2 hz
  have HB2 := Lib.hid (HB.out.trans (b2.mono (Nat.le_of_lt (Nat.lt_of_succ_lt hz))))
  have hs2 := Nat.lt_of_lt_of_le hz b2.size
  clear q0 q1 q2 q3 q4 x0 y0 HBy b2 HW
  go_upto_region 2 with fail
  have v3 : Below w2.heap.size w2 (w2.alloc (.cells #[.int .u8 1, .int .u8 0, .slice A1 16 c1, .slice K ks.length k] 31)) := (Below.refl _ _).alloc (Nat.le_refl _) _
  have z3 := Whole.new w2 31 #[.int .u8 1, .int .u8 0, .slice A1 16 c1, .slice K ks.length k]
  have y3 := y2.below v3 hs2
  have o3 := o1.alloc (.cells #[.int .u8 1, .int .u8 0, .slice A1 16 c1, .slice K ks.length k] 31)
  have HB3 := Lib.hid (HB2.out.trans (v3.mono HB2.out.size))
  have hs3 := Nat.lt_of_lt_of_le hs2 v3.size
  have hne3 : w.heap.size + 1 ≠ w2.heap.size := by omega
  have hbg : w.heap.size ≤ w2.heap.size := by omega
  have hbg2 : w.heap.size + 2 ≤ w2.heap.size := by omega
  generalize w2.alloc (.cells #[.int .u8 1, .int .u8 0, .slice A1 16 c1, .slice K ks.length k] 31) = w3 at *
  generalize w2.heap.size = g at *
  clear y2 o1 v3 HB2 hs2 HB
  have f3 := z3.frozen 0
  obtain ⟨m0, m1, m2, m3⟩ := wh4 z3
  go_upto_region 4 with fail
  have z4 : Whole (w3.setCell ⟨g, 0, none⟩ (.int .u8 2)) g 31 #[.int .u8 2, .int .u8 0, .slice A1 16 c1, .slice K ks.length k] := z3.set_ 0 _
  have y4 : Whole (w3.setCell ⟨g, 0, none⟩ (.int .u8 2)) (w.heap.size + 1) 31 #[.int .u8 0, .int .u8 0, .slice none 0 0, .slice none 0 0] := y3.below (B := w.heap.size + 2) ((Below.refl _ w3).setCell (p := ⟨g, 0, none⟩) hbg2 _) (by omega)
  have o4 := own_set13 o3 z3 (by decide) (i := 0) (u := .int .u8 2)
  have HB4 := Lib.hid (HB3.out.setCell (p := ⟨g, 0, none⟩) hbg (.int .u8 2))
  have hs4 : w.heap.size + 1 < (w3.setCell ⟨g, 0, none⟩ (.int .u8 2)).heap.size := by rw [World.size_setCell]; exact hs3
  generalize w3.setCell ⟨g, 0, none⟩ (.int .u8 2) = w4 at *
  clear f3 m0 m1 m2 m3 z3 y3 o3 HB3 hs3
  have hcap := own_cap o4
  have hCh := HMK.out w4 A1 c1 (Lies.own o4) hcap.2.1 hcap.2.2 (HN.out _ HB4.out)
  have HC := HCK.out w4 A1 c1 hCh (HH.out _ HB4.out)
  obtain ⟨m0, m1, m2, m3⟩ := wh4 z4
  clear HN HMK HCK o4 hcap
  by_cases hc : cc = 0
  · rw [HE0.out hc] at HC
    have HCC := Lib.hid hc
    clear hc HE0 HE1
    go_wp2_with fail
    refine HC.mono ?_
    rintro e w5 ⟨rfl, b5⟩
    have z5 := z4.below b5 z4.lt
    have y5 := y4.below b5 hs4
    have hCh5 := hCh.on1 b5
    have HB5 := Lib.hid (HB4.out.trans (b5.mono HB4.out.size))
    have hs5 := Nat.lt_of_lt_of_le hs4 b5.size
    have HK := HCL.out w5 A1 c1 hCh5
    clear m0 m1 m2 m3 z4 y4 HC hCh HB4 HCL hCh5 b5
    obtain ⟨m0, m1, m2, m3⟩ := wh4 z5
    unfold ckV at HK
    go_wp2_with fail
    refine HK.mono ?_
    rintro e w6 ⟨A2, c2, K2, k2, rfl, hS6, b6⟩
    have y6 := y5.below b6 hs5
    have B6 := HB5.out.trans (b6.mono HB5.out.size)
    have h55 := HB5.out.size
    clear m0 m1 m2 m3 z5 y5 HK HB5
    go_wp2_with (first | (refine wpList_store_row rfl 31 _ _ rfl (w.heap.size + 1) #[bv x.t, bv x.fl, .slice A2 x.d.length c2, .slice K2 x.ks.length k2] rfl rfl _ _ y6 (by kernel_rfl) rfl (by simp [Value.oneCell']) ?_) | fail)
    (try simp only [Exit.inBlock, Exit.then])
    refine bodyPost_ret (results_row_tmp rfl _ _ (w.heap.size + 1) 31 _ _ rfl (y6.setRow _) Tryz.underlying31 rfl (by kernel_rfl)) rfl ?_
    have hsz : (w6.setRow (w.heap.size + 1) #[bv x.t, bv x.fl, .slice A2 x.d.length c2, .slice K2 x.ks.length k2]).heap.size = w6.heap.size := by simp
    refine ⟨below_setRow B6 (Nat.le_succ _) _, .inl ⟨HCC.out, A2, c2, K2, k2, rfl, ?_⟩⟩
    have hS7 : ChunkS (w6.setRow (w.heap.size + 1) #[bv x.t, bv x.fl, .slice A2 x.d.length c2, .slice K2 x.ks.length k2]) (NewS w5 w6) A2 c2 K2 k2 x := hS6.turnI (fun p hp => cell_setRow_other _ _ _ _ (fun e => by have h1 := hp.1; omega)) (fun b hb => hb)
    exact hS7.turnI (fun p _ => rfl) (fun b hb => ⟨Nat.le_trans h55 hb.1, by rw [hsz]; exact hb.2⟩)
  · rw [HE1.out hc] at HC
    have HCC := Lib.hid hc
    clear hc HE0 HE1 HCL
    go_wp2_with fail
    refine HC.mono ?_
    rintro e w5 ⟨rfl, b5⟩
    have y5 := y4.below b5 hs4
    have B5 := HB4.out.trans (b5.mono HB4.out.size)
    clear m0 m1 m2 m3 z4 y4 HC hCh
    go_wp2_with (first | (refine wpList_store_row rfl 31 _ _ rfl (w.heap.size + 1) #[.int .u8 0, .int .u8 0, .slice none 0 0, .slice none 0 0] rfl rfl _ _ y5 (by kernel_rfl) rfl (by simp [Value.oneCell']) ?_) | fail)
    (try simp only [Exit.inBlock, Exit.then])
    refine bodyPost_ret (results_row_tmp rfl _ _ (w.heap.size + 1) 31 _ _ rfl (y5.setRow _) Tryz.underlying31 rfl (by kernel_rfl)) rfl ?_
    exact ⟨below_setRow B5 (Nat.le_succ _) _, .inr ⟨HCC.out, rfl⟩⟩
theorem imake_any (an : Bool) (v : Vl) (ks : List Nd) (hks : ks.length ≤ 1000) (hf : ∀ n ∈ ks, Fine n) (K : Option Addr) (k : Nat) (w : World) (hK : Nodes w w.heap.size K ks) (hkc : ks.length ≤ k) (hkm : k ≤ maxLen) (hh : Handle w) :
    Calls Tryz.prog 44 #[.bool an, vlV v, .slice K ks.length k] w (MkI (ckI an v ks) w) := by
  cases an
  · exact imake_false v ks hks hf K k w hK hkc hkm hh
  · exact imake_true v ks hks hf K k w hK hkc hkm hh
/-- the parameters that Of hands back -/
def ofK (x : Ck) : List Nd := if isI x then x.ks else []
/-- what Of hands back -/
def OfIR (x : Ck) (w : World) (e : Ending) (w' : World) : Prop := Below w.heap.size w w' ∧ ∃ A' c', e = .returned (.tuple #[vlV (ofVl x), .slice A' (ofK x).length c', .bool (isI x)]) ∧ Nodes w' w'.heap.size A' (ofK x) ∧ (ofK x).length ≤ c' ∧ c' ≤ maxLen
set_option maxRecDepth 100000 in
set_option maxHeartbeats 8000000 in
theorem iof_any (x : Ck) (hf : CkFine x) (A : Option Addr) (c : Nat) (K : Option Addr) (k : Nat) (w : World) (h : Chunk w w.heap.size A c K k x) (hh : Handle w) :
    Calls Tryz.prog 47 #[ckV x A c K k] w (OfIR x w) := by
  have b0 : Below w.heap.size w ((w.alloc (.cells (ckCells x A c K k) 31)).alloc (.cells #[.int .u32 0, .int .u32 0, .int .u16 0, .int .u16 0, .int .u32 0] 80)) := ((Below.refl _ w).alloc (Nat.le_refl _) _).alloc (by simp) _
  have x0 := (CkBox.new w x A c K k).alloc (.cells #[.int .u32 0, .int .u32 0, .int .u16 0, .int .u16 0, .int .u32 0] 80)
  have y0 := Whole.new (w.alloc (.cells (ckCells x A c K k) 31)) 80 #[.int .u32 0, .int .u32 0, .int .u16 0, .int .u16 0, .int .u32 0]
  rw [World.size_alloc] at y0
  have hz : w.heap.size + 1 < ((w.alloc (.cells (ckCells x A c K k) 31)).alloc (.cells #[.int .u32 0, .int .u32 0, .int .u16 0, .int .u16 0, .int .u32 0] 80)).heap.size := by simp
  have hI := isInit_any x hf A c K k _ (h.on b0) (hh.below b0 hh.lt)
  have HV : Hid (isI x = true → ∀ V, Below w.heap.size w V → Calls Tryz.prog 111 #[.slice A x.d.length c] V fun e w' => e = .returned (vlV (vlOf x.d)) ∧ Below V.heap.size V w') := Lib.hid (fun hi V hV => by
    have h16 := (isI_parts hi).2.2.1
    have hx := h.on hV
    exact ivals_any x.d A c V hx.data hx.dc hx.dm (by omega) (by omega))
  have HP : Hid (isI x = true → ∀ V, Below w.heap.size w V → Calls Tryz.prog 112 #[ckV x A c K k] V fun e w' => ∃ A' c', e = .returned (.slice A' x.ks.length c') ∧ NodesS w' (NewS V w') A' x.ks ∧ x.ks.length ≤ c' ∧ c' ≤ maxLen ∧ Below V.heap.size V w') := Lib.hid (fun hi V hV => by
    have h9 := cparams_any x (by have := hf.ks; omega) (fun n hn => few2I n (hf.each n hn)) A c K k V (h.on hV)
    rw [if_pos (isI_parts hi).2.2.2] at h9
    exact h9)
  have HB := Lib.hid b0
  have HT : Hid (isI x = true → ofVl x = vlOf x.d ∧ ofK x = x.ks) := Lib.hid (fun hi => ⟨by unfold ofVl; rw [if_pos hi], by unfold ofK; rw [if_pos hi]⟩)
  have HF : Hid (isI x = false → ofVl x = vl0 ∧ ofK x = []) := Lib.hid (fun hi => ⟨by unfold ofVl; rw [hi]; rfl, by unfold ofK; rw [hi]; rfl⟩)
  unfold OfIR
  clear hf h hh b0
  generalize ofVl x = ov at *
  generalize ofK x = ok at *
  obtain ⟨t, fl, d, ks⟩ := x
  simp only [ckV, ckCells] at *
  generalize isI ⟨t, fl, d, ks⟩ = ii at *
  generalize vlOf d = vv at *
  generalize hwa : (w.alloc (.cells #[bv t, bv fl, .slice A d.length c, .slice K ks.length k] 31)).alloc (.cells #[.int .u32 0, .int .u32 0, .int .u16 0, .int .u16 0, .int .u32 0] 80) = wa at *
  have HW := Lib.hid hwa
  clear hwa
  obtain ⟨q0, q1, q2, q3⟩ := wh4 x0
  cases ii with
  | false =>
    obtain ⟨e1, e2⟩ := HF.out rfl
    subst e1
    subst e2
    clear HV HP HT HF
    go_enter Tryz.func47, Tryz.ntmps47
    go_upto_region 1 with fail
    rw [HW.out]
    go_wp2_with fail
    refine hI.mono ?_
    rintro e w2 ⟨rfl, b2⟩
    have y2 := y0.below b2 hz
    have B2 := HB.out.trans (b2.mono (Nat.le_of_lt (Nat.lt_of_succ_lt hz)))
    clear q0 q1 q2 q3 x0 y0 hI
    go_wp2_with (first | (refine wpList_store_row rfl 80 _ _ rfl (w.heap.size + 1) #[.int .u32 0, .int .u32 0, .int .u16 0, .int .u16 0, .int .u32 0] rfl rfl _ _ y2 (by kernel_rfl) rfl (by simp [Value.oneCell']) ?_) | fail)
    (try simp only [Exit.inBlock, Exit.then])
    refine bodyPost_ret (results_row_tmpI rfl _ _ (w.heap.size + 1) 80 _ _ rfl (y2.setRow _) Tryz.underlying80 rfl (by kernel_rfl)) rfl ?_
    exact ⟨below_setRow B2 (Nat.le_succ _) _, none, 0, rfl, Nodes.nil _ _ _, Nat.le_refl _, Nat.zero_le _⟩
  | true =>
    obtain ⟨e1, e2⟩ := HT.out rfl
    have e1 := e1.symm
    have e2 := e2.symm
    subst e1
    subst e2
    have HV1 := Lib.hid (HV.out rfl)
    have HP1 := Lib.hid (HP.out rfl)
    clear HT HF HV HP
    obtain ⟨tg, wd, ou, i9, ts⟩ := vv
    simp only [vlV] at HV1
    go_enter Tryz.func47, Tryz.ntmps47
    go_upto_region 1 with fail
    rw [HW.out]
    go_wp2_with fail
    refine hI.mono ?_
    rintro e w2 ⟨rfl, b2⟩
    have y2 := y0.below b2 hz
    have x2 := x0.below b2 (Nat.lt_of_succ_lt hz)
    have HB2 := Lib.hid (HB.out.trans (b2.mono (Nat.le_of_lt (Nat.lt_of_succ_lt hz))))
    have hs2 := Nat.lt_of_lt_of_le hz b2.size
    clear q0 q1 q2 q3 x0 y0 hI b2 HB HW hz
    have KS : Hid (∀ W, Below (w.heap.size + 1) w2 W → W.cell? ⟨w.heap.size, 0, none⟩ = some (bv t) ∧ W.cell? ⟨w.heap.size, 1, none⟩ = some (bv fl) ∧ W.cell? ⟨w.heap.size, 2, none⟩ = some (.slice A d.length c) ∧ W.cell? ⟨w.heap.size, 3, none⟩ = some (.slice K ks.length k)) := fun W hW => wh4 (Whole.below x2 hW (Nat.lt_succ_self _))
    have hbw := HB2.out.size
    clear x2
    go_upto_region 3 with fail
    refine wp_region_held_drew (S := (fun W => W.cell? ⟨w.heap.size, 0, none⟩ = some (bv t) ∧ W.cell? ⟨w.heap.size, 1, none⟩ = some (bv fl) ∧ W.cell? ⟨w.heap.size, 2, none⟩ = some (.slice A d.length c) ∧ W.cell? ⟨w.heap.size, 3, none⟩ = some (.slice K ks.length k))) (by kernel_rfl) (KS.out _ (below_drew (Below.refl _ _))) (fun hHeld => ?_)
    refine take_at (i := 0) (v := ?_) (some 9) rfl (by kernel_rfl) (by kernel_rfl) (by kernel_rfl) (fun _ _ _ h => h) (by kernel_rfl) (Or.inl ⟨by kernel_rfl, ?_⟩) (by assumption) ?_
    rotate_left
    · (intro w hSw; (try dsimp only at hSw); go_simp <;> with_reducible rfl)
    simp only [Act.put, List.setIfInBounds_toArray, List.set_cons_zero, List.set_cons_succ]
    refine take_at (i := 1) (v := ?_) (some 10) rfl (by kernel_rfl) (by kernel_rfl) (by kernel_rfl) (fun _ _ _ h => h) (by kernel_rfl) (Or.inl ⟨by kernel_rfl, ?_⟩) (by assumption) ?_
    rotate_left
    · (intro w hSw; (try dsimp only at hSw); go_simp <;> with_reducible rfl)
    simp only [Act.put, List.setIfInBounds_toArray, List.set_cons_zero, List.set_cons_succ]
    refine take_at (i := 3) (v := ?_) (some 12) rfl (by kernel_rfl) (by kernel_rfl) (by kernel_rfl) (fun _ _ _ h => h) (by kernel_rfl) (Or.inl ⟨by kernel_rfl, ?_⟩) (by assumption) ?_
    rotate_left
    · (intro w hSw; (try dsimp only at hSw); go_simp <;> with_reducible rfl)
    simp only [Act.put, List.setIfInBounds_toArray, List.set_cons_zero, List.set_cons_succ]
    refine wpAnyH_ready (rs := [2]) (by kernel_rfl) (by simp) ?_
    refine AllReadyH.cons rfl (fun K hK => ?_) AllReadyH.nil
    go_simp
    go_at_call 111; (with_reducible refine (HV1.out _ (below_drew HB2.out)).mono ?_); rintro e w3 ⟨rfl, b3⟩; have R3 : Below w2.heap.size w2 w3 := below_undrew13 b3
    go_wp2_with fail
    clear hHeld
    refine hK.out _ _ (KS.out _ (R3.mono (Nat.le_of_lt hs2))) (fun hHeld => ?_)
    clear hK K
    try simp only [Act.put, List.setIfInBounds_toArray, List.set_cons_zero, List.set_cons_succ]
    refine wpAnyH_ready (rs := [4]) (by kernel_rfl) (by simp) ?_
    refine AllReadyH.cons rfl (fun K hK => ?_) AllReadyH.nil
    go_simp
    go_at_call 112; (with_reducible refine (HP1.out _ (HB2.out.trans (R3.mono hbw))).mono ?_); rintro e w4 ⟨A4, c4, rfl, hN4, h41, h42, b4⟩; have R4 : Below w2.heap.size w2 w4 := R3.trans (b4.mono R3.size); have y4 := y2.below R4 hs2
    go_wp2_with fail
    clear hHeld
    refine hK.out _ _ (KS.out _ (R4.mono (Nat.le_of_lt hs2))) (fun hHeld => ?_)
    clear hK K
    try simp only [Act.put, List.setIfInBounds_toArray, List.set_cons_zero, List.set_cons_succ]
    refine wpAnyH_ready (rs := [5]) (by kernel_rfl) (by simp) ?_
    refine AllReadyH.cons rfl (fun K hK => ?_) AllReadyH.nil
    obtain ⟨e0, e1, e2, e3, e4⟩ := y4.cs5
    have f0 := y4.frozen 0
    have f1 := y4.frozen 1
    have f2 := y4.frozen 2
    have f3 := y4.frozen 3
    have f4 := y4.frozen 4
    go_simp
    clear hHeld
    refine hK.out _ _ (KS.out _ ((((((R4.mono (Nat.le_of_lt hs2)).setCell (Nat.le_refl _) _).setCell (Nat.le_refl _) _).setCell (Nat.le_refl _) _).setCell (Nat.le_refl _) _).setCell (Nat.le_refl _) _)) (fun hHeld => ?_)
    clear hK K
    try simp only [Act.put, List.setIfInBounds_toArray, List.set_cons_zero, List.set_cons_succ]
    refine take_at (i := 6) (v := ?_) (some 3) rfl (by kernel_rfl) (by kernel_rfl) (by kernel_rfl) (fun _ _ _ h => h) (by kernel_rfl) (Or.inl ⟨by kernel_rfl, ?_⟩) (by assumption) ?_
    rotate_left
    · (intro w hSw; (try dsimp only at hSw); go_simp <;> with_reducible rfl)
    simp only [Act.put, List.setIfInBounds_toArray, List.set_cons_zero, List.set_cons_succ]
    refine take_at (i := 7) (v := ?_) (some 4) rfl (by kernel_rfl) (by kernel_rfl) (by kernel_rfl) (fun _ _ _ h => h) (by kernel_rfl) (Or.inl ⟨by kernel_rfl, ?_⟩) (by assumption) ?_
    rotate_left
    · (intro w hSw; (try dsimp only at hSw); go_simp <;> with_reducible rfl)
    simp only [Act.put, List.setIfInBounds_toArray, List.set_cons_zero, List.set_cons_succ]
    refine wpAnyH_done (by kernel_rfl) ?_ _
    skip
    have y5 := ((((y4.set_ 0 (uv tg)).set_ 1 (uv wd)).set_ 2 (hv ou)).set_ 3 (hv i9)).set_ 4 (uv ts)
    have B5 := ((((((R4.mono (Nat.le_of_lt hs2)).setCell (p := ⟨w.heap.size + 1, 0, none⟩) (Nat.le_refl _) (uv tg)).setCell (p := ⟨w.heap.size + 1, 1, none⟩) (Nat.le_refl _) (uv wd)).setCell (p := ⟨w.heap.size + 1, 2, none⟩) (Nat.le_refl _) (hv ou)).setCell (p := ⟨w.heap.size + 1, 3, none⟩) (Nat.le_refl _) (hv i9)).setCell (p := ⟨w.heap.size + 1, 4, none⟩) (Nat.le_refl _) (uv ts))
    have hfar : ∀ p : Addr, p.block ≠ w.heap.size + 1 → (((((w4.setCell ⟨w.heap.size + 1, 0, none⟩ (uv tg)).setCell ⟨w.heap.size + 1, 1, none⟩ (uv wd)).setCell ⟨w.heap.size + 1, 2, none⟩ (hv ou)).setCell ⟨w.heap.size + 1, 3, none⟩ (hv i9)).setCell ⟨w.heap.size + 1, 4, none⟩ (uv ts)).cell? p = w4.cell? p := fun p hp => by
      rw [World.cell?_setCell_other _ _ _ _ (fun e => hp (by rw [← e])), World.cell?_setCell_other _ _ _ _ (fun e => hp (by rw [← e])), World.cell?_setCell_other _ _ _ _ (fun e => hp (by rw [← e])), World.cell?_setCell_other _ _ _ _ (fun e => hp (by rw [← e])), World.cell?_setCell_other _ _ _ _ (fun e => hp (by rw [← e]))]
    have hsz5 : (((((w4.setCell ⟨w.heap.size + 1, 0, none⟩ (uv tg)).setCell ⟨w.heap.size + 1, 1, none⟩ (uv wd)).setCell ⟨w.heap.size + 1, 2, none⟩ (hv ou)).setCell ⟨w.heap.size + 1, 3, none⟩ (hv i9)).setCell ⟨w.heap.size + 1, 4, none⟩ (uv ts)).heap.size = w4.heap.size := by simp
    have hN5 := hN4.turn (fun p hp => hfar p (by have h1 := hp.1; have h2 := R3.size; omega)) (S' := fun b => b < w4.heap.size) (fun b hb => hb.2)
    generalize (((((w4.setCell ⟨w.heap.size + 1, 0, none⟩ (uv tg)).setCell ⟨w.heap.size + 1, 1, none⟩ (uv wd)).setCell ⟨w.heap.size + 1, 2, none⟩ (hv ou)).setCell ⟨w.heap.size + 1, 3, none⟩ (hv i9)).setCell ⟨w.heap.size + 1, 4, none⟩ (uv ts)) = w5 at *
    clear hfar hN4 y4 R4 R3
    go_wp2_with fail
    (try simp only [Exit.inBlock, Exit.then])
    refine bodyPost_ret (results_row_tmpI rfl _ _ (w.heap.size + 1) 80 _ _ rfl y5 Tryz.underlying80 rfl (by kernel_rfl)) rfl ?_
    exact ⟨HB2.out.trans (B5.mono (Nat.le_succ _) |>.mono (Nat.le_refl _)), A4, c4, rfl, by rw [hsz5]; exact hN5.nodes (fun b hb => hb), h41, h42⟩
end Go.Proofs.YtdcppcoldaaldaaGreatDoor







namespace Go.Proofs.YtdcppcoldaaldaaGreatDoor
open Go.RowKit

set_option linter.unusedSimpArgs false
def vlEq (a b : Vl) : Bool := (a.tg == b.tg) && ((a.wd == b.wd) && ((a.ou == b.ou) && ((a.ii == b.ii) && (a.ts == b.ts))))
theorem vlEq_self (a : Vl) : vlEq a a = true := by simp [vlEq]
theorem i32_beq (a b : UInt32) : ((a.toNat : Int) == (b.toNat : Int)) = (a == b) := by
  rw [Bool.eq_iff_iff, beq_iff_eq, beq_iff_eq]
  exact ⟨fun h => UInt32.toNat_inj.1 (by omega), fun h => by rw [h]⟩
theorem i16_beq (a b : UInt16) : ((a.toNat : Int) == (b.toNat : Int)) = (a == b) := by
  rw [Bool.eq_iff_iff, beq_iff_eq, beq_iff_eq]
  exact ⟨fun h => UInt16.toNat_inj.1 (by omega), fun h => by rw [h]⟩
theorem size_u16 : (Tryz.prog.info? 23).map (·.size) = some 1 := by kernel_rfl
theorem eq_vals (a b : Vl) (w : World) : (Op.equalIn 10000 80 (vlV a) (vlV b)).run Tryz.prog w = .ok (vlEq a b) w := by
  obtain ⟨a0, a1, a2, a3, a4⟩ := a
  obtain ⟨b0, b1, b2, b3, b4⟩ := b
  have hu : ∀ x y : Int, (Op.equalIn 9999 22 (.int .u32 x) (.int .u32 y)).run Tryz.prog w = .ok (x == y) w := fun x y => run_equalIn_int w 9998 22 .u32 .u32 x y Tryz.underlying22
  have hh : ∀ x y : Int, (Op.equalIn 9999 23 (.int .u16 x) (.int .u16 y)).run Tryz.prog w = .ok (x == y) w := fun x y => run_equalIn_int w 9998 23 .u16 .u16 x y Tryz.underlying23
  have hf : (Tryz.prog.fieldsOf 80).toList.map (fun f => (f.name == "_", f.type, f.offset)) = [(false, 22, 0), (false, 22, 1), (false, 23, 2), (false, 23, 3), (false, 22, 4)] := by kernel_rfl
  obtain ⟨i, hi, hs⟩ := Option.map_eq_some_iff.1 size_u32
  obtain ⟨i2, hi2, hs2⟩ := Option.map_eq_some_iff.1 size_u16
  rw [show (10000 : Nat) = 9999 + 1 from rfl, run_equalIn_struct w 9999 80 _ _ (by kernel_rfl) (by kernel_rfl)]
  generalize (Tryz.prog.fieldsOf 80).toList = fs at *
  rcases fs with _ | ⟨f0, _ | ⟨f1, _ | ⟨f2, _ | ⟨f3, _ | ⟨f4, _ | ⟨f5, fs⟩⟩⟩⟩⟩⟩ <;> simp at hf
  obtain ⟨⟨n0, t0, o0⟩, ⟨n1, t1, o1⟩, ⟨n2, t2, o2⟩, ⟨n3, t3, o3⟩, ⟨n4, t4, o4⟩⟩ := hf
  simp [Op.eqFields, n0, n1, n2, n3, n4, t0, t1, t2, t3, t4, o0, o1, o2, o3, o4, go_sem, part, sizeOf, typeInfo, hi, hs, hi2, hs2, hu, hh, i32_beq, i16_beq]
  unfold vlEq
  repeat' split
  all_goals simp_all
theorem eq_valsR (a b : Vl) (w : World) : (Op.equalIn 10000 77 (vlV a) (vlV b)).run Tryz.prog w = .ok (vlEq a b) w := by
  obtain ⟨a0, a1, a2, a3, a4⟩ := a
  obtain ⟨b0, b1, b2, b3, b4⟩ := b
  have hu : ∀ x y : Int, (Op.equalIn 9999 22 (.int .u32 x) (.int .u32 y)).run Tryz.prog w = .ok (x == y) w := fun x y => run_equalIn_int w 9998 22 .u32 .u32 x y Tryz.underlying22
  have hh : ∀ x y : Int, (Op.equalIn 9999 23 (.int .u16 x) (.int .u16 y)).run Tryz.prog w = .ok (x == y) w := fun x y => run_equalIn_int w 9998 23 .u16 .u16 x y Tryz.underlying23
  have hf : (Tryz.prog.fieldsOf 77).toList.map (fun f => (f.name == "_", f.type, f.offset)) = [(false, 22, 0), (false, 22, 1), (false, 23, 2), (false, 23, 3), (false, 22, 4)] := by kernel_rfl
  obtain ⟨i, hi, hs⟩ := Option.map_eq_some_iff.1 size_u32
  obtain ⟨i2, hi2, hs2⟩ := Option.map_eq_some_iff.1 size_u16
  rw [show (10000 : Nat) = 9999 + 1 from rfl, run_equalIn_struct w 9999 77 _ _ (by kernel_rfl) (by kernel_rfl)]
  generalize (Tryz.prog.fieldsOf 77).toList = fs at *
  rcases fs with _ | ⟨f0, _ | ⟨f1, _ | ⟨f2, _ | ⟨f3, _ | ⟨f4, _ | ⟨f5, fs⟩⟩⟩⟩⟩⟩ <;> simp at hf
  obtain ⟨⟨n0, t0, o0⟩, ⟨n1, t1, o1⟩, ⟨n2, t2, o2⟩, ⟨n3, t3, o3⟩, ⟨n4, t4, o4⟩⟩ := hf
  simp [Op.eqFields, n0, n1, n2, n3, n4, t0, t1, t2, t3, t4, o0, o1, o2, o3, o4, go_sem, part, sizeOf, typeInfo, hi, hs, hi2, hs2, hu, hh, i32_beq, i16_beq]
  unfold vlEq
  repeat' split
  all_goals simp_all
def awVl : Vl := ⟨1, 0, 5, 9, 3⟩
def awN : Nd := .mk 7 [1, 2] []
def awI : Ck := ckI true awVl [awN]
theorem awI_chk : chkC awI = 0 := by decide +kernel
theorem awI_is : isI awI = true := by decide +kernel
theorem awI_of : ofVl awI = awVl := (ofVl_ckI awI_chk).2
theorem awI_ks : ofK awI = [awN] := by unfold ofK; rw [if_pos awI_is]; rfl
theorem awI_f7 : fndI awI 7 = [awN] := by unfold fndI; rw [if_pos awI_is]; rfl
theorem awI_f8 : fndI awI 8 = [] := by unfold fndI; rw [if_pos awI_is]; rfl
theorem awI_cb : ckyB awI = true := by unfold ckyB; rw [awI_f7]; rfl
theorem awI_cl : ckyL awI = [1, 2] := by unfold ckyL; rw [awI_cb, awI_f7]; rfl
theorem awN_fine : ∀ n ∈ [awN], Fine n := fun n hn => by
  rw [List.mem_singleton.1 hn]
  refine .mk ?_ (by decide) (fun k hk => by cases hk)
  rw [Nd.vlen_eq]
  decide
theorem awI_fine : CkFine awI := ckI_fine true awVl [awN] (by decide) awN_fine
theorem nodesAw {W : World} {q p : Nat} (hq : Whole W q 150 #[.int .u16 7, .slice (some ⟨p, 0, none⟩) 2 2, .slice none 0 0]) (hp : Whole W p 5 #[.int .u8 1, .int .u8 2]) : Nodes W W.heap.size (some ⟨q, 0, none⟩) [awN] := by
  refine .mk [hv 7, .slice (some ⟨p, 0, none⟩) 2 2, .slice none 0 0] (fun _ => none) (fun _ => 0) (fun _ => ⟨_, rfl, hq.lt, fun j x hx => ?_⟩) rfl (fun i m hm => ?_) (fun i m hm => ?_)
  · rw [add_row, hq.cell, List.getElem?_toArray]
    exact hx
  · match i, hm with
    | 0, hm =>
      simp only [List.getElem?_cons_zero, Option.some.injEq] at hm
      subst hm
      refine ⟨rfl, ⟨_, rfl, some ⟨p, 0, none⟩, 2, rfl, fun _ => ⟨_, rfl, hp.lt, fun j x hx => ?_⟩, Nat.le_refl _, by unfold maxLen; omega⟩, rfl, Nat.le_refl _, Nat.zero_le _⟩
      rw [add_row, hp.cell, List.getElem?_toArray]
      exact hx
    | i + 1, hm => simp at hm
  · match i, hm with
    | 0, hm =>
      simp only [List.getElem?_cons_zero, Option.some.injEq] at hm
      subst hm
      exact Nodes.nil _ _ _
    | i + 1, hm => simp at hm
theorem awI_mk (K : Option Addr) (w : World) (hK : Nodes w w.heap.size K [awN]) (hh : Handle w) : Calls Tryz.prog 44 #[.bool true, .agg #[.int .u32 1, .int .u32 0, .int .u16 5, .int .u16 9, .int .u32 3], .slice K 1 1] w fun e w' => Below w.heap.size w w' ∧ ∃ A' c' K' k', e = .returned (.tuple #[ckV awI A' c' K' k', .bool true]) ∧ Chunk w' w'.heap.size A' c' K' k' awI :=
  Calls.mono (imake_any true awVl [awN] (by decide) awN_fine K 1 w hK (by decide) (by unfold maxLen; omega) hh) fun e w' h => by
    obtain ⟨hb, ⟨_, A', c', K', k', he, hS⟩ | ⟨h1, _⟩⟩ := h
    · exact ⟨hb, A', c', K', k', he, hS.chunk fun b hb => hb.2⟩
    · exact absurd awI_chk h1
theorem awI_ck (A : Option Addr) (c : Nat) (K : Option Addr) (k : Nat) (w : World) (h : Chunk w w.heap.size A c K k awI) (hh : Handle w) : Calls Tryz.prog 51 #[ckV awI A c K k] w fun e w' => ∃ A' c', e = .returned (.tuple #[.slice A' 2 c', .bool true]) ∧ w'.ownsRow w.heap.size 5 1 (.slice A' 2 c') 2 [bv 1, bv 2] ∧ Below w.heap.size w w' := by
  have h2 := icookie_any awI awI_fine A c K k w h hh
  rw [awI_cl, awI_cb] at h2
  exact h2
theorem awI_ofc (A : Option Addr) (c : Nat) (K : Option Addr) (k : Nat) (w : World) (h : Chunk w w.heap.size A c K k awI) (hh : Handle w) : Calls Tryz.prog 47 #[ckV awI A c K k] w fun e w' => Below w.heap.size w w' ∧ ∃ A' c', e = .returned (.tuple #[.agg #[.int .u32 1, .int .u32 0, .int .u16 5, .int .u16 9, .int .u32 3], .slice A' 1 c', .bool true]) :=
  Calls.mono (iof_any awI awI_fine A c K k w h hh) fun e w' h => by
    obtain ⟨hb, A', c', he, _⟩ := h
    rw [awI_of, awI_ks, awI_is] at he
    exact ⟨hb, A', c', he⟩
theorem awI_st (w : World) : Calls Tryz.prog 59 #[.agg #[.int .u32 1, .int .u32 0, .int .u16 5, .int .u16 9, .int .u32 3], .agg #[.int .u32 0, .int .u32 0, .int .u16 7, .int .u16 7, .int .u32 0]] w fun e w' => e = .returned (.tuple #[.int .u16 5, .int .u16 7]) ∧ Below w.heap.size w w' := istreams_any awVl ⟨0, 0, 7, 7, 0⟩ w
theorem awI_ec (A : Option Addr) (c : Nat) (K : Option Addr) (k : Nat) (w : World) (h : Chunk w w.heap.size A c K k awI) (hh : Handle w) : Calls Tryz.prog 53 #[ckV awI A c K k] w fun e w' => ∃ A' c', e = .returned (.tuple #[.agg #[.int .u8 10, .int .u8 0, .slice A' 2 c', .slice none 0 0], .bool true]) ∧ Below w.heap.size w w' :=
  Calls.mono (iecho_any awI awI_fine A c K k w h hh) fun e w' h => by
    obtain ⟨A', c', he, _, hb⟩ := h
    have e1 : ecC awI = ⟨10, 0, [1, 2], []⟩ := by unfold ecC; rw [awI_cl]; rfl
    have e2 : ecB awI = true := by unfold ecB; rw [awI_cl]; rfl
    rw [e1, e2] at he
    exact ⟨A', c', he, hb⟩
theorem awI_h7 (A : Option Addr) (c : Nat) (K : Option Addr) (k : Nat) (w : World) (h : Chunk w w.heap.size A c K k awI) (hh : Handle w) : Calls Tryz.prog 55 #[ckV awI A c K k, .int .u16 7] w fun e w' => e = .returned (.bool true) ∧ Below w.heap.size w w' := by
  have h2 := ihas_any awI 7 awI_fine A c K k w h hh
  rw [awI_f7] at h2
  exact h2
theorem awI_h8 (A : Option Addr) (c : Nat) (K : Option Addr) (k : Nat) (w : World) (h : Chunk w w.heap.size A c K k awI) (hh : Handle w) : Calls Tryz.prog 55 #[ckV awI A c K k, .int .u16 8] w fun e w' => e = .returned (.bool false) ∧ Below w.heap.size w w' := by
  have h2 := ihas_any awI 8 awI_fine A c K k w h hh
  rw [awI_f8] at h2
  exact h2
theorem awI_eq (w : World) : (Op.equalIn 10000 80 (.agg #[.int .u32 1, .int .u32 0, .int .u16 5, .int .u16 9, .int .u32 3]) (.agg #[.int .u32 1, .int .u32 0, .int .u16 5, .int .u16 9, .int .u32 3])).run Tryz.prog w = .ok true w := by
  have h := eq_vals awVl awVl w
  rw [vlEq_self] at h
  exact h
theorem awI_sm (A A' : Option Addr) (c : Nat) (w : World) (ha : Lies w w.heap.size A [bv 1, bv 2]) (hb : Lies w w.heap.size A' [bv 1, bv 2]) : Calls Tryz.prog 54 #[.slice A 2 c, .slice A' 2 2] w fun e w' => e = .returned (.bool true) ∧ Below w.heap.size w w' :=
  Calls.mono (same_any A A' c 2 w.heap.size [1, 2] [1, 2] w ha hb (by unfold maxLen; decide)) fun e w' h => by
    obtain ⟨he, q, rfl⟩ := h
    exact ⟨he, below_drewN (Below.refl _ _) q⟩
set_option maxRecDepth 100000 in
set_option maxHeartbeats 8000000 in
theorem awake15_any (w : World) (hh : Handle w) : Calls Tryz.prog 42 #[] w fun e w' => e = .returned (.bool true) ∧ Below w.heap.size w w' := by
  have bA : Below w.heap.size w (((w.alloc (.cells #[.int .u32 1, .int .u32 0, .int .u16 5, .int .u16 9, .int .u32 3] 80)).alloc (.cells #[.int .u8 1, .int .u8 2] 5)).alloc (.cells #[.int .u16 7, .slice (some ⟨w.heap.size + 1, 0, none⟩) 2 2, .slice none 0 0] 150)) := (((Below.refl _ w).alloc (Nat.le_refl _) _).alloc (by simp) _).alloc (by simp; omega) _
  have xV := ((Whole.new w 80 #[.int .u32 1, .int .u32 0, .int .u16 5, .int .u16 9, .int .u32 3]).alloc (.cells #[.int .u8 1, .int .u8 2] 5)).alloc (.cells #[.int .u16 7, .slice (some ⟨w.heap.size + 1, 0, none⟩) 2 2, .slice none 0 0] 150)
  have xB := (Whole.new (w.alloc (.cells #[.int .u32 1, .int .u32 0, .int .u16 5, .int .u16 9, .int .u32 3] 80)) 5 #[.int .u8 1, .int .u8 2]).alloc (.cells #[.int .u16 7, .slice (some ⟨w.heap.size + 1, 0, none⟩) 2 2, .slice none 0 0] 150)
  have xN := Whole.new ((w.alloc (.cells #[.int .u32 1, .int .u32 0, .int .u16 5, .int .u16 9, .int .u32 3] 80)).alloc (.cells #[.int .u8 1, .int .u8 2] 5)) 150 #[.int .u16 7, .slice (some ⟨w.heap.size + 1, 0, none⟩) 2 2, .slice none 0 0]
  rw [World.size_alloc] at xB
  rw [World.size_alloc, World.size_alloc] at xN
  have hM := awI_mk _ _ (nodesAw xN xB) (hh.below bA hh.lt)
  have hsz : w.heap.size + 3 ≤ (((w.alloc (.cells #[.int .u32 1, .int .u32 0, .int .u16 5, .int .u16 9, .int .u32 3] 80)).alloc (.cells #[.int .u8 1, .int .u8 2] 5)).alloc (.cells #[.int .u16 7, .slice (some ⟨w.heap.size + 1, 0, none⟩) 2 2, .slice none 0 0] 150)).heap.size := by simp
  have HH := Lib.hid (fun (V : World) (hb : Below w.heap.size w V) => hh.below hb hh.lt)
  have x0 := Whole.new w 80 #[.int .u32 1, .int .u32 0, .int .u16 5, .int .u16 9, .int .u32 3]
  obtain ⟨q0, q1, q2, q3, q4⟩ := x0.cs5
  clear hh xB xN x0
  go_enter Tryz.func42, Tryz.ntmps42
  go_upto_region 2 with fail
  go_wp2_with fail
  refine hM.mono ?_
  rintro e w1 ⟨b1, A1, c1, K1, k1, rfl, hC1⟩
  have B1 := bA.trans (b1.mono (by omega))
  have xV1 := xV.below b1 (by omega)
  have hs1 : w.heap.size + 3 ≤ w1.heap.size := by have := b1.size; omega
  clear q0 q1 q2 q3 q4 xV hM bA hsz b1
  obtain ⟨x, hx⟩ : ∃ x, x = awI := ⟨_, rfl⟩
  have HCk := Lib.hid awI_ck
  have HOf := Lib.hid awI_ofc
  have HEc := Lib.hid awI_ec
  have H7 := Lib.hid awI_h7
  have H8 := Lib.hid awI_h8
  rw [← hx] at hC1 HCk HOf HEc H7 H8 ⊢
  have HX := Lib.hid hx
  clear hx
  obtain ⟨ty, fl, d, ks⟩ := x
  simp only [ckV] at *
  go_upto_region 3 with fail
  have v2 : Below w1.heap.size w1 (w1.alloc (.cells #[bv ty, bv fl, .slice A1 d.length c1, .slice K1 ks.length k1] 31)) := (Below.refl _ _).alloc (Nat.le_refl _) _
  have xC2 := Whole.new w1 31 #[bv ty, bv fl, .slice A1 d.length c1, .slice K1 ks.length k1]
  have xV2 := xV1.below v2 (by omega)
  have hC2 := hC1.on v2
  have B2 := B1.trans (v2.mono (by omega))
  generalize w1.alloc (.cells #[bv ty, bv fl, .slice A1 d.length c1, .slice K1 ks.length k1] 31) = w2 at *
  generalize hg : w1.heap.size = g at *
  have hlg := xC2.lt
  clear hg v2 xV1 hC1 B1 hs1
  have hsB : w.heap.size + 1 ≤ w2.heap.size := by have := xV2.lt; omega
  have hK := HCk.out A1 c1 K1 k1 w2 hC2 (HH.out _ B2)
  obtain ⟨m0, m1, m2, m3⟩ := wh4 xC2
  go_wp2_with fail
  refine hK.mono ?_
  rintro e w3 ⟨A3, c3, rfl, o3, b3⟩
  have xC3 := xC2.below b3 xC2.lt
  have xV3 := xV2.below b3 xV2.lt
  have hC3 := hC2.on b3
  have B3 := B2.trans (b3.mono (by omega))
  have L3 := Lies.own o3
  clear m0 m1 m2 m3 xC2 xV2 hC2 B2 hK o3
  obtain ⟨m0, m1, m2, m3⟩ := wh4 xC3
  have hO := HOf.out A1 c1 K1 k1 w3 hC3 (HH.out _ B3)
  go_wp2_with fail
  refine hO.mono ?_
  rintro e w4 ⟨b4, A4, c4, rfl⟩
  have xC4 := xC3.below b4 xC3.lt
  have xV4 := xV3.below b4 xV3.lt
  have hC4 := hC3.on b4
  have hs34 : w.heap.size ≤ w3.heap.size := Nat.le_trans (Nat.le_of_succ_le hsB) b3.size
  have B4 := B3.trans (b4.mono hs34)
  have L4 := (L3.below b4).more b4.size
  clear m0 m1 m2 m3 xC3 xV3 hC3 B3 hO L3
  obtain ⟨m0, m1, m2, m3⟩ := wh4 xC4
  obtain ⟨q0, q1, q2, q3, q4⟩ := xV4.cs5
  go_upto_region 5 with fail
  have v5 : Below w4.heap.size w4 (w4.alloc (.cells #[.int .u32 1, .int .u32 0, .int .u16 5, .int .u16 9, .int .u32 3] 80)) := (Below.refl _ _).alloc (Nat.le_refl _) _
  have xU5 := Whole.new w4 80 #[.int .u32 1, .int .u32 0, .int .u16 5, .int .u16 9, .int .u32 3]
  have xV5 := xV4.below v5 xV4.lt
  have xC5 := xC4.below v5 xC4.lt
  have hC5 := hC4.on v5
  have hs45 : w.heap.size ≤ w4.heap.size := Nat.le_trans hs34 b4.size
  have B5 := B4.trans (v5.mono hs45)
  have L5 := (L4.below v5).more v5.size
  generalize w4.alloc (.cells #[.int .u32 1, .int .u32 0, .int .u16 5, .int .u16 9, .int .u32 3] 80) = w5 at *
  generalize w4.heap.size = g5 at *
  clear m0 m1 m2 m3 q0 q1 q2 q3 q4 xC4 xV4 hC4 B4 L4 v5 b4 b3
  obtain ⟨m0, m1, m2, m3⟩ := wh4 xC5
  obtain ⟨q0, q1, q2, q3, q4⟩ := xV5.cs5
  have hS := awI_st w5
  go_wp2_with fail
  refine hS.mono ?_
  rintro e w6 ⟨rfl, b6⟩
  have xU6 := xU5.below b6 xU5.lt
  have xV6 := xV5.below b6 xV5.lt
  have xC6 := xC5.below b6 xC5.lt
  have hC6 := hC5.on b6
  have hs56 : w.heap.size ≤ w5.heap.size := Nat.le_trans hs45 (Nat.le_of_lt xU5.lt)
  have B6 := B5.trans (b6.mono hs56)
  have L6 := (L5.below b6).more b6.size
  clear m0 m1 m2 m3 q0 q1 q2 q3 q4 xC5 xV5 xU5 hC5 B5 L5 hS
  obtain ⟨m0, m1, m2, m3⟩ := wh4 xC6
  have hE := HEc.out A1 c1 K1 k1 w6 hC6 (HH.out _ B6)
  go_wp2_with fail
  refine hE.mono ?_
  rintro e w7 ⟨A7, c7, rfl, b7⟩
  have xU7 := xU6.below b7 xU6.lt
  have xV7 := xV6.below b7 xV6.lt
  have xC7 := xC6.below b7 xC6.lt
  have hC7 := hC6.on b7
  have hs67 : w.heap.size ≤ w6.heap.size := Nat.le_trans hs56 b6.size
  have B7 := B6.trans (b7.mono hs67)
  have L7 := (L6.below b7).more b7.size
  have hs77 : w.heap.size ≤ w7.heap.size := Nat.le_trans hs67 b7.size
  clear m0 m1 m2 m3 xC6 xV6 xU6 hC6 B6 L6 hE b7 b6
  go_upto_region 7 with fail
  have v8 : Below w7.heap.size w7 ((w7.alloc (.cells #[.int .u8 10, .int .u8 0, .slice A7 2 c7, .slice none 0 0] 31)).alloc (.cells #[.int .u8 1, .int .u8 2] 5)) := ((Below.refl _ _).alloc (Nat.le_refl _) _).alloc (by simp) _
  have xE8 := (Whole.new w7 31 #[.int .u8 10, .int .u8 0, .slice A7 2 c7, .slice none 0 0]).alloc (.cells #[.int .u8 1, .int .u8 2] 5)
  have xR8 := Whole.new (w7.alloc (.cells #[.int .u8 10, .int .u8 0, .slice A7 2 c7, .slice none 0 0] 31)) 5 #[.int .u8 1, .int .u8 2]
  rw [World.size_alloc] at xR8
  have xU8 := xU7.below v8 xU7.lt
  have xV8 := xV7.below v8 xV7.lt
  have xC8 := xC7.below v8 xC7.lt
  have hC8 := hC7.on v8
  have B8 := B7.trans (v8.mono hs77)
  have L8 := (L7.below v8).more v8.size
  have M8 : Lies ((w7.alloc (.cells #[.int .u8 10, .int .u8 0, .slice A7 2 c7, .slice none 0 0] 31)).alloc (.cells #[.int .u8 1, .int .u8 2] 5)) ((w7.alloc (.cells #[.int .u8 10, .int .u8 0, .slice A7 2 c7, .slice none 0 0] 31)).alloc (.cells #[.int .u8 1, .int .u8 2] 5)).heap.size (some ⟨w7.heap.size + 1, 0, none⟩) [bv 1, bv 2] := fun _ => ⟨_, rfl, xR8.lt, fun j u hu => by rw [add_row, xR8.cell, List.getElem?_toArray]; exact hu⟩
  have hSm := awI_sm A3 _ c3 _ L8 M8
  clear xC7 xV7 xU7 hC7 B7 L7 v8 xR8 M8
  go_wp2_with fail
  refine hSm.mono ?_
  rintro e w9 ⟨rfl, b9⟩
  have xE9 := xE8.below b9 xE8.lt
  have xU9 := xU8.below b9 xU8.lt
  have xV9 := xV8.below b9 xV8.lt
  have xC9 := xC8.below b9 xC8.lt
  have hC9 := hC8.on b9
  have hs89 : w.heap.size ≤ w9.heap.size := by have h1 := b9.size; have h2 := xE8.lt; omega
  have B9 := B8.trans (b9.mono (by have h2 := xE8.lt; omega))
  have EQ := awI_eq
  clear hSm b9 xE8 xU8 xV8 xC8 hC8 B8 L8
  obtain ⟨m0, m1, m2, m3⟩ := wh4 xC9
  obtain ⟨q0, q1, q2, q3, q4⟩ := xV9.cs5
  obtain ⟨u0, u1, u2, u3, u4⟩ := xU9.cs5
  obtain ⟨k0, k1', k2', k3'⟩ := wh4 xE9
  have h7 := H7.out A1 c1 K1 k1 w9 hC9 (HH.out _ B9)
  go_wp2_with fail
  refine h7.mono ?_
  rintro e w10 ⟨rfl, b10⟩
  have xC10 := xC9.below b10 xC9.lt
  have hC10 := hC9.on b10
  have B10 := B9.trans (b10.mono hs89)
  have hs910 : w.heap.size ≤ w10.heap.size := Nat.le_trans hs89 b10.size
  clear m0 m1 m2 m3 q0 q1 q2 q3 q4 u0 u1 u2 u3 u4 k0 k1' k2' k3' xC9 xE9 xU9 xV9 h7 hC9 b10 EQ
  obtain ⟨m0, m1, m2, m3⟩ := wh4 xC10
  have h8 := H8.out A1 c1 K1 k1 w10 hC10 (HH.out _ B10)
  go_wp2_with fail
  refine h8.mono ?_
  rintro e w11 ⟨rfl, b11⟩
  go_wp2_with fail
  go_ret
  exact ⟨rfl, B10.trans (b11.mono hs910)⟩
end Go.Proofs.YtdcppcoldaaldaaGreatDoor


