/- Layer 12: Parse. It writes nothing that was there. -/
import Derived.Test.YthkbcpbgoefanaaGreatDoorQChunkF
import Derived.Test.YthkbcpbgoefanaaGreatDoorQChunkLR
import Derived.Test.YthkbcpbgoefanaaGreatDoorQCI
import Derived.Test.YthkbcpbgoefanaaGreatDoorQE
import Derived.Test.YthkbcpbgoefanaaGreatDoorQNodePQ






namespace Go.Proofs.YthkbcpbgoefanaaGreatDoor
open Go.RowKit

set_option linter.unusedSimpArgs false
inductive CR where
  | ok (x : Ck)
  | bad (code at_ : Nat)
/-- the error of the first of Parse's four checks -/
def ck4 (x : Ck) : Option (Nat × Nat) := if flB x = true then some (6, 1) else if daB x = true then some (7, 0) else if cntC x = true then some (8, 12) else match cvalO x with | some a => some (11, a) | none => none
theorem ckE4_of (x : Ck) : (ck4 x = none ∧ ckE4 x = .nilIface) ∨ ∃ p, ck4 x = some p ∧ ckE4 x = faultV (p.1 : Int) (p.2 : Int) := by
  unfold ck4 ckE4
  split
  · exact .inr ⟨_, rfl, rfl⟩
  · split
    · exact .inr ⟨_, rfl, rfl⟩
    · split
      · exact .inr ⟨_, rfl, rfl⟩
      · cases cvalO x with
        | some a => exact .inr ⟨_, rfl, rfl⟩
        | none => exact .inl ⟨rfl, rfl⟩
/-- a chunk without its kids -/
def frontC (b : List UInt8) : Ck := ⟨b.getD 0 0, b.getD 1 0, (b.drop 4).take (frO b - 4), []⟩
/-- what bytes are read as -/
def cpa (b : List UInt8) : CR := if whB b = false then .bad 4 0 else match ck4 (frontC b) with
  | some p => .bad p.1 p.2
  | none => match pa 4 (kc (b.getD 0 0)) (b.drop (frO b)) with
    | .bad code k => .bad code (k + frO b)
    | .ok ns => if kidP (kdOf (b.getD 0 0)).ki ns = true then .bad 7 0 else .ok ⟨b.getD 0 0, b.getD 1 0, (b.drop 4).take (frO b - 4), ns⟩
abbrev zck : Value := .agg #[.int .u8 0, .int .u8 0, .slice none 0 0, .slice none 0 0]
def CPaR (w : World) (r : CR) (e : Ending) (w' : World) : Prop := Below w.heap.size w w' ∧ match r with
  | .ok x => ∃ A c K k, e = .returned (.tuple #[ckV x A c K k, .nilIface]) ∧ ChunkS w' (NewS w w') A c K k x
  | .bad code a => e = .returned (.tuple #[zck, faultV (code : Int) (a : Int)])
theorem fr_bounds {b : List UInt8} (h : 4 ≤ b.length) : 4 ≤ frO b ∧ frO b ≤ b.length := by
  unfold frO
  split <;> omega
theorem whole_cells12 {w : World} {g : Nat} {t : TypeId} {fs : List Value} (h : Whole w g t fs.toArray) : ∀ (j : Nat) (u : Value), fs[j]? = some u → w.cell? ⟨g, j, none⟩ = some u := fun j u hu => by
  rw [h.cell]
  simpa using hu
theorem liesS_set12 {w : World} {S : Nat → Prop} {A : Option Addr} {d : List UInt8} {g i : Nat} {B : Option Addr} {n k : Nat} {v : Value} (h : LiesS w S A (d.map bv)) (hc : w.cell? ⟨g, i, none⟩ = some (.slice B n k)) : LiesS (w.setCell ⟨g, i, none⟩ v) S A (d.map bv) := fun hne => by
  obtain ⟨ad, h1, h2, h3⟩ := h hne
  refine ⟨ad, h1, h2, fun j u hu => ?_⟩
  have h4 := h3 j u hu
  rw [World.cell?_setCell_other _ _ _ _ (fun e => ?_)]
  · exact h4
  · rw [← e, hc] at h4
    rw [List.getElem?_map] at hu
    cases hd : d[j]? with
    | none => rw [hd] at hu; cases hu
    | some y => rw [hd] at hu; cases hu; cases h4
set_option maxRecDepth 100000 in
set_option maxHeartbeats 8000000 in
theorem cparse_any (A : Option Addr) (c : Nat) (b : List UInt8) (w : World) (hh : Handle w) (h : Lies w w.heap.size A (b.map bv)) (hc : b.length ≤ c) (hm : c ≤ maxLen) (hs : b.length ≤ 1000000) :
    Calls Tryz.prog 21 #[.slice A b.length c] w (CPaR w (cpa b)) := by
  have b0 : Below w.heap.size w (w.alloc (.cells #[.int .u8 0, .int .u8 0, .slice none 0 0, .slice none 0 0] 25)) := (Below.refl _ w).alloc (Nat.le_refl _) _
  have y0 := Whole.new w 25 #[.int .u8 0, .int .u8 0, .slice none 0 0, .slice none 0 0]
  have hW := isWhole_any A c b _ ((h.below b0).more b0.size) hc hs
  have HN4 := New_any 4 0
  unfold CPaR cpa
  cases hwb : whB b with
  | false =>
    rw [hwb] at hW
    simp only [if_true]
    go_enter Tryz.func21, Tryz.ntmps21
    go_wp2_with fail
    refine hW.mono ?_
    rintro e w1 ⟨rfl, b1⟩
    have y1 := y0.below b1 y0.lt
    have hb1 := b0.trans (b1.mono b0.size)
    have f0 := y1.frozen 0
    have f1 := y1.frozen 1
    have f2 := y1.frozen 2
    have f3 := y1.frozen 3
    have r0 : w1.cell? ⟨w.heap.size, 0, none⟩ = some (.int .u8 0) := by rw [y1.cell]; rfl
    have r1 : w1.cell? ⟨w.heap.size, 1, none⟩ = some (.int .u8 0) := by rw [y1.cell]; rfl
    have r2 : w1.cell? ⟨w.heap.size, 2, none⟩ = some (.slice none 0 0) := by rw [y1.cell]; rfl
    have r3 : w1.cell? ⟨w.heap.size, 3, none⟩ = some (.slice none 0 0) := by rw [y1.cell]; rfl
    go_wp2_with fail
    refine (HN4 _).mono ?_
    rintro e w2 ⟨rfl, rfl⟩
    go_wp2_with fail
    have hF := (((y1.set_ 0 (.int .u8 0)).set_ 1 (.int .u8 0)).set_ 2 (.slice none 0 0)).set_ 3 (.slice none 0 0)
    have hBf := (((Below.setCell (p := ⟨w.heap.size, 0, none⟩) hb1 (Nat.le_refl _) (.int .u8 0)).setCell (p := ⟨w.heap.size, 1, none⟩) (Nat.le_refl _) (.int .u8 0)).setCell (p := ⟨w.heap.size, 2, none⟩) (Nat.le_refl _) (.slice none 0 0)).setCell (p := ⟨w.heap.size, 3, none⟩) (Nat.le_refl _) (.slice none 0 0)
    (try simp only [Exit.inBlock, Exit.then])
    refine bodyPost_ret (results_row_tmp rfl _ _ w.heap.size 25 _ _ rfl hF Tryz.underlying25 rfl (by kernel_rfl)) rfl ?_
    exact ⟨hBf, rfl⟩
  | true =>
    rw [hwb] at hW
    simp only [Bool.true_eq_false, if_false]
    have h4 : 4 ≤ b.length := by
      unfold whB at hwb
      simp only [Bool.and_eq_true, decide_eq_true_eq] at hwb
      exact hwb.1
    obtain ⟨ad, rfl, hadb, _⟩ := h (fun e => by rw [List.map_eq_nil_iff] at e; rw [e] at h4; simp at h4)
    obtain ⟨hf4, hfl⟩ := fr_bounds h4
    have hFO := fun W hW => frontOf_any (some ad) c b W hW (by omega) hs
    have hE4 := ckE4_of (frontC b)
    have hIn := cinside_any (b.getD 0 0)
    have hFC : Hid (frontC b = ⟨b.getD 0 0, b.getD 1 0, (b.drop 4).take (frO b - 4), []⟩) := rfl
    have HDL : Hid (((b.drop 4).take (frO b - 4)).length = frO b - 4) := by unfold Hid; rw [List.length_take, List.length_drop]; omega
    have HPP : Hid (frO b + (b.drop (frO b)).length = b.length) := by unfold Hid; rw [List.length_drop]; omega
    have HH := Lib.hid hh
    have HL := Lib.hid h
    generalize hfrv : frO b = fr at *
    generalize hxv : frontC b = x at *
    have hx0 := hFC.out
    have hxt : b.getD 0 0 = x.t := by rw [hx0]
    have hxf : b.getD 1 0 = x.fl := by rw [hx0]
    have hxd : (b.drop 4).take (fr - 4) = x.d := by rw [hx0]
    have hxk : x.ks = [] := by rw [hx0]
    rw [hxt, hxf, hxd]
    rw [hxt] at hIn
    have hdl : x.d.length = fr - 4 := by rw [← hxd]; exact HDL.out
    have hfx : CkFine x := ⟨by omega, by rw [hxk]; simp, by rw [hxk]; simp⟩
    have HFX := Lib.hid hfx
    have HXK := Lib.hid hxk
    have HDX := Lib.hid hdl
    have hdp : (b.drop fr).length = b.length - fr := List.length_drop
    have HPA : Hid (∀ W, Below w.heap.size w W → Handle W → Calls Tryz.prog 72 #[.int .i64 (kc x.t), .slice (some (ad.add fr)) (b.length - fr) (c - fr)] W (ParseR W (pa 4 (kc x.t) (b.drop fr)))) := fun W hWb hH => by
      have hL2 := lies_piece ((h.below hWb).more hWb.size) fr (b.length - fr)
      rw [List.take_of_length_le (by rw [List.length_drop]; omega)] at hL2
      have := nparse_any (kc x.t) (b.drop fr) (some (ad.add fr)) (c - fr) W hH hL2 (by rw [hdp]; omega) (by omega) (by rw [hdp]; omega)
      rwa [hdp] at this
    have HPB : Hid (c = fr → ∀ W, Handle W → Calls Tryz.prog 72 #[.int .i64 (kc x.t), .slice (some ad) (b.length - fr) 0] W (ParseR W (pa 4 (kc x.t) (b.drop fr)))) := fun hcf W hH => by
      have hn : b.drop fr = [] := List.drop_eq_nil_of_le (by omega)
      have := nparse_any (kc x.t) (b.drop fr) (some ad) 0 W hH (by rw [hn]; exact Lies.nil) (by rw [hdp]; omega) (Nat.zero_le _) (by rw [hdp]; omega)
      rwa [hdp] at this
    have HN7 := New_any 7 0
    have i1 : (fr : Int) ≤ (b.length : Int) := by omega
    have i2 : (b.length : Int) ≤ (c : Int) := by omega
    have HH := Lib.hid hh
    have HL := Lib.hid h
    clear hh h hwb hx0 hxt hxf hxd hxk hdl hfx hdp
    rcases hE4 with ⟨h4a, h4b⟩ | ⟨p, h4a, h4b⟩
    · rw [h4a]
      simp only []
      cases hpa : pa 4 (kc x.t) (b.drop fr) with
      | bad code kk =>
        rw [hpa] at HPA HPB
        have HKK : Hid (kk ≤ 1000000) := by have := pa_at hpa; rw [List.length_drop] at this; unfold Hid; omega
        simp only []
        go_enter Tryz.func21, Tryz.ntmps21
        go_wp2_with fail
        generalize w.alloc (.cells #[.int .u8 0, .int .u8 0, .slice none 0 0, .slice none 0 0] 25) = w0 at *
        refine hW.mono ?_
        rintro e w1 ⟨rfl, b1⟩
        have hb1 := b0.trans (b1.mono b0.size)
        have hF1 := hFO w1 ((HL.out.below hb1).more hb1.size)
        go_wp2_with fail
        refine hF1.mono ?_
        rintro e w2 ⟨rfl, b2⟩
        have hb2 := hb1.trans (b2.mono hb1.size)
        have b02 := b1.trans (b2.mono b1.size)
        clear hF1 hFO
        go_wp2_with fail
        refine region4P _ _ _ _ _ _ _ _ _ _ _ _ _ _ _ _ _ _ _ _ _ _ _ _ _ _ _ _ _ _ _ _ _ _ _ _ _ _ _ _ _ _ _ _ _ _ _ _ _ _ _ _ _ _ _ _ _ _ _ _ _ _ _ _ _ ad b c fr x w2 ((HL.out.below hb2).more hb2.size) hc hm hs hf4 hfl hFC.out ?_
        intro u19 u20 u21 u22 u23 u24 u25 u26 u27 u28 u29 u30 g5 A3 c3 Wf hbx hl3 m2 m3 bf hg5
        have hbf := hb2.trans (bf.mono hb2.size)
        have b0f := b02.trans (bf.mono b02.size)
        have hg5l := hbx.lt
        have hs2 := hb2.size
        have hw0s : w.heap.size < w0.heap.size := y0.lt
        have hs02 := b02.size
        obtain ⟨q0, q1, q2, q3⟩ := hbx.cs
        have HFI : Calls Tryz.prog 58 #[ckV x A3 c3 none 0, .slice (some ⟨Wf.heap.size, 0, none⟩) 4 4] (Wf.alloc (.cells ckFs4.toArray 150)) fun e w' => e = .returned (ckE4 x) ∧ Below Wf.heap.size Wf w' := by
          have bn := (Below.refl _ Wf).alloc (Nat.le_refl _) (.cells ckFs4.toArray 150)
          have hWn := Whole.new Wf 150 ckFs4.toArray
          have hCh : Chunk Wf Wf.heap.size A3 c3 none 0 x := ⟨fun hne => by obtain ⟨ad, h1, h2, h3⟩ := hl3 hne; exact ⟨ad, h1, h2.2, h3⟩, m2, m3, by rw [HXK.out]; exact Nodes.nil _ _ _, by rw [HXK.out]; exact Nat.le_refl _, Nat.zero_le _⟩
          refine (first4_any x HFX.out A3 c3 none 0 Wf.heap.size _ (hCh.on bn) (by simp) (whole_cells12 hWn)).mono ?_
          rintro e w' ⟨h1, h2⟩
          exact ⟨h1, bn.trans (h2.mono bn.size)⟩
        rw [h4b] at HFI
        go_wp2_with fail
        refine HFI.mono ?_
        rintro e w5 ⟨rfl, b5⟩
        have b05 := b0f.trans (b5.mono b0f.size)
        have hb5 := hbf.trans (b5.mono hbf.size)
        have x5 := hbx.below b5
        clear q0 q1 q2 q3
        obtain ⟨q0, q1, q2, q3⟩ := x5.cs
        go_wp2_with fail
        refine (hIn _).mono ?_
        rintro e w6 ⟨rfl, b6⟩
        have b06 := b05.trans (b6.mono b05.size)
        have hb6 := hb5.trans (b6.mono hb5.size)
        have x6 := x5.below b6
        clear q0 q1 q2 q3
        obtain ⟨q0, q1, q2, q3⟩ := x6.cs
        have hP6a := HPA.out w6 hb6 (HH.out.below hb6 HH.out.lt)
        have HP6b := Lib.hid (fun hcf => HPB.out hcf w6 (HH.out.below hb6 HH.out.lt))
        unfold ParseR at hP6a HP6b
        clear HPA HPB
        go_wp2_with fail
        · refine Calls.mono (HP6b.out (by assumption)) ?_
          rintro e w7 ⟨b7, rfl⟩
          have b07 := b06.trans (b7.mono b06.size)
          have hb7 := hb6.trans (b7.mono hb6.size)
          have hS7 := Shift_fault (code : Int) kk fr w7 (HH.out.below hb7 HH.out.lt) (by have := HKK.out; omega)
          unfold faultV
          unfold faultV at hS7
          clear q0 q1 q2 q3
          go_wp2_with fail
          refine hS7.mono ?_
          rintro e w8 ⟨rfl, b8⟩
          have y8 := y0.below (b07.trans (b8.mono b07.size)) y0.lt
          have hb8 := hb7.trans (b8.mono hb7.size)
          have f0 := y8.frozen 0
          have f1 := y8.frozen 1
          have f2 := y8.frozen 2
          have f3 := y8.frozen 3
          have r0 : w8.cell? ⟨w.heap.size, 0, none⟩ = some (.int .u8 0) := by rw [y8.cell]; rfl
          have r1 : w8.cell? ⟨w.heap.size, 1, none⟩ = some (.int .u8 0) := by rw [y8.cell]; rfl
          have r2 : w8.cell? ⟨w.heap.size, 2, none⟩ = some (.slice none 0 0) := by rw [y8.cell]; rfl
          have r3 : w8.cell? ⟨w.heap.size, 3, none⟩ = some (.slice none 0 0) := by rw [y8.cell]; rfl
          go_wp2_with fail
          have hF := (((y8.set_ 0 (.int .u8 0)).set_ 1 (.int .u8 0)).set_ 2 (.slice none 0 0)).set_ 3 (.slice none 0 0)
          have hBf := (((Below.setCell (p := ⟨w.heap.size, 0, none⟩) hb8 (Nat.le_refl _) (.int .u8 0)).setCell (p := ⟨w.heap.size, 1, none⟩) (Nat.le_refl _) (.int .u8 0)).setCell (p := ⟨w.heap.size, 2, none⟩) (Nat.le_refl _) (.slice none 0 0)).setCell (p := ⟨w.heap.size, 3, none⟩) (Nat.le_refl _) (.slice none 0 0)
          (try simp only [Exit.inBlock, Exit.then])
          refine bodyPost_ret (results_row_tmp rfl _ _ w.heap.size 25 _ _ rfl hF Tryz.underlying25 rfl (by kernel_rfl)) rfl ?_
          exact ⟨hBf, rfl⟩
        · refine Calls.mono hP6a ?_
          rintro e w7 ⟨b7, rfl⟩
          have b07 := b06.trans (b7.mono b06.size)
          have hb7 := hb6.trans (b7.mono hb6.size)
          have hS7 := Shift_fault (code : Int) kk fr w7 (HH.out.below hb7 HH.out.lt) (by have := HKK.out; omega)
          unfold faultV
          unfold faultV at hS7
          clear q0 q1 q2 q3
          go_wp2_with fail
          refine hS7.mono ?_
          rintro e w8 ⟨rfl, b8⟩
          have y8 := y0.below (b07.trans (b8.mono b07.size)) y0.lt
          have hb8 := hb7.trans (b8.mono hb7.size)
          have f0 := y8.frozen 0
          have f1 := y8.frozen 1
          have f2 := y8.frozen 2
          have f3 := y8.frozen 3
          have r0 : w8.cell? ⟨w.heap.size, 0, none⟩ = some (.int .u8 0) := by rw [y8.cell]; rfl
          have r1 : w8.cell? ⟨w.heap.size, 1, none⟩ = some (.int .u8 0) := by rw [y8.cell]; rfl
          have r2 : w8.cell? ⟨w.heap.size, 2, none⟩ = some (.slice none 0 0) := by rw [y8.cell]; rfl
          have r3 : w8.cell? ⟨w.heap.size, 3, none⟩ = some (.slice none 0 0) := by rw [y8.cell]; rfl
          go_wp2_with fail
          have hF := (((y8.set_ 0 (.int .u8 0)).set_ 1 (.int .u8 0)).set_ 2 (.slice none 0 0)).set_ 3 (.slice none 0 0)
          have hBf := (((Below.setCell (p := ⟨w.heap.size, 0, none⟩) hb8 (Nat.le_refl _) (.int .u8 0)).setCell (p := ⟨w.heap.size, 1, none⟩) (Nat.le_refl _) (.int .u8 0)).setCell (p := ⟨w.heap.size, 2, none⟩) (Nat.le_refl _) (.slice none 0 0)).setCell (p := ⟨w.heap.size, 3, none⟩) (Nat.le_refl _) (.slice none 0 0)
          (try simp only [Exit.inBlock, Exit.then])
          refine bodyPost_ret (results_row_tmp rfl _ _ w.heap.size 25 _ _ rfl hF Tryz.underlying25 rfl (by kernel_rfl)) rfl ?_
          exact ⟨hBf, rfl⟩
      | ok ns =>
        rw [hpa] at HPA HPB
        simp only []
        cases hkp : kidP (kdOf x.t).ki ns with
        | true =>
          simp only [if_true]
          go_enter Tryz.func21, Tryz.ntmps21
          go_wp2_with fail
          generalize w.alloc (.cells #[.int .u8 0, .int .u8 0, .slice none 0 0, .slice none 0 0] 25) = w0 at *
          refine hW.mono ?_
          rintro e w1 ⟨rfl, b1⟩
          have hb1 := b0.trans (b1.mono b0.size)
          have hF1 := hFO w1 ((HL.out.below hb1).more hb1.size)
          go_wp2_with fail
          refine hF1.mono ?_
          rintro e w2 ⟨rfl, b2⟩
          have hb2 := hb1.trans (b2.mono hb1.size)
          have b02 := b1.trans (b2.mono b1.size)
          clear hF1 hFO
          go_wp2_with fail
          refine region4P _ _ _ _ _ _ _ _ _ _ _ _ _ _ _ _ _ _ _ _ _ _ _ _ _ _ _ _ _ _ _ _ _ _ _ _ _ _ _ _ _ _ _ _ _ _ _ _ _ _ _ _ _ _ _ _ _ _ _ _ _ _ _ _ _ ad b c fr x w2 ((HL.out.below hb2).more hb2.size) hc hm hs hf4 hfl hFC.out ?_
          intro u19 u20 u21 u22 u23 u24 u25 u26 u27 u28 u29 u30 g5 A3 c3 Wf hbx hl3 m2 m3 bf hg5
          have hbf := hb2.trans (bf.mono hb2.size)
          have b0f := b02.trans (bf.mono b02.size)
          have hg5l := hbx.lt
          have hs2 := hb2.size
          have hw0s : w.heap.size < w0.heap.size := y0.lt
          have hs02 := b02.size
          obtain ⟨q0, q1, q2, q3⟩ := hbx.cs
          have HFI : Calls Tryz.prog 58 #[ckV x A3 c3 none 0, .slice (some ⟨Wf.heap.size, 0, none⟩) 4 4] (Wf.alloc (.cells ckFs4.toArray 150)) fun e w' => e = .returned (ckE4 x) ∧ Below Wf.heap.size Wf w' := by
            have bn := (Below.refl _ Wf).alloc (Nat.le_refl _) (.cells ckFs4.toArray 150)
            have hWn := Whole.new Wf 150 ckFs4.toArray
            have hCh : Chunk Wf Wf.heap.size A3 c3 none 0 x := ⟨fun hne => by obtain ⟨ad, h1, h2, h3⟩ := hl3 hne; exact ⟨ad, h1, h2.2, h3⟩, m2, m3, by rw [HXK.out]; exact Nodes.nil _ _ _, by rw [HXK.out]; exact Nat.le_refl _, Nat.zero_le _⟩
            refine (first4_any x HFX.out A3 c3 none 0 Wf.heap.size _ (hCh.on bn) (by simp) (whole_cells12 hWn)).mono ?_
            rintro e w' ⟨h1, h2⟩
            exact ⟨h1, bn.trans (h2.mono bn.size)⟩
          rw [h4b] at HFI
          go_wp2_with fail
          refine HFI.mono ?_
          rintro e w5 ⟨rfl, b5⟩
          have b05 := b0f.trans (b5.mono b0f.size)
          have hb5 := hbf.trans (b5.mono hbf.size)
          have x5 := hbx.below b5
          clear q0 q1 q2 q3
          obtain ⟨q0, q1, q2, q3⟩ := x5.cs
          go_wp2_with fail
          refine (hIn _).mono ?_
          rintro e w6 ⟨rfl, b6⟩
          have b06 := b05.trans (b6.mono b05.size)
          have hb6 := hb5.trans (b6.mono hb5.size)
          have x6 := x5.below b6
          clear q0 q1 q2 q3
          obtain ⟨q0, q1, q2, q3⟩ := x6.cs
          have hP6a := HPA.out w6 hb6 (HH.out.below hb6 HH.out.lt)
          have HP6b := Lib.hid (fun hcf => HPB.out hcf w6 (HH.out.below hb6 HH.out.lt))
          unfold ParseR at hP6a HP6b
          clear HPA HPB
          go_wp2_with fail
          · refine Calls.mono (HP6b.out (by assumption)) ?_
            rintro e w7 ⟨b7, A7, c7, rfl, hN7, n1, n2, n3⟩
            have b07 := b06.trans (b7.mono b06.size)
            have hb7 := hb6.trans (b7.mono hb6.size)
            have x7 := x6.below b7
            have hs6 := b6.size
            have hs5 := b5.size
            have hs7 := b7.size
            have hsf := bf.size
            have q7 := x7.c3
            have f7 := Whole.frozen x7 3
            have x8 : CkBox (w7.setCell ⟨g5, 3, none⟩ (.slice A7 ns.length c7)) g5 (⟨x.t, x.fl, x.d, ns⟩ : Ck) A3 c3 A7 c7 := x7.set_ 3 (.slice A7 ns.length c7)
            have hN8 : NodesS (w7.setCell ⟨g5, 3, none⟩ (.slice A7 ns.length c7)) (fun q => w6.heap.size ≤ q ∧ q < w7.heap.size) A7 ns := hN7.turn (fun p hp => World.cell?_setCell_other _ _ _ _ (fun e => by have := hp.1; rw [← e] at this; simp only at this; omega)) (fun q hq => hq)
            have hd8 : LiesS (w7.setCell ⟨g5, 3, none⟩ (.slice A7 ns.length c7)) (NewS w2 Wf) A3 (x.d.map bv) := liesS_set12 (LiesS.turn hl3 (fun p hp => (((b5.trans (b6.mono b5.size)).trans (b7.mono (b5.trans (b6.mono b5.size)).size))).cell hp.2) (fun q hq => hq)) q7
            have b08 : Below w0.heap.size w0 (w7.setCell ⟨g5, 3, none⟩ (.slice A7 ns.length c7)) := b07.setCell (p := ⟨g5, 3, none⟩) (by show w0.heap.size ≤ g5; omega) _
            have hb8 : Below w.heap.size w (w7.setCell ⟨g5, 3, none⟩ (.slice A7 ns.length c7)) := hb7.setCell (p := ⟨g5, 3, none⟩) (by show w.heap.size ≤ g5; omega) _
            have hsz8 : (w7.setCell ⟨g5, 3, none⟩ (.slice A7 ns.length c7)).heap.size = w7.heap.size := by simp [World.setCell]
            have hK8 := checkKids_any (⟨x.t, x.fl, x.d, ns⟩ : Ck) (Nat.le_trans n3 (by decide)) A3 c3 A7 c7 (w7.setCell ⟨g5, 3, none⟩ (.slice A7 ns.length c7)) (hN8.nodes (fun q hq => by rw [hsz8]; exact hq.2))
            unfold kidB at hK8
            simp only [] at hK8
            rw [hkp] at hK8
            clear q0 q1 q2 q3 hN7 hl3
            obtain ⟨q0, q1, q2, q3⟩ := x8.cs
            unfold errV faultV at hK8
            simp only [if_true, Bool.false_eq_true, if_false] at hK8
            go_wp2_with fail
            generalize w7.setCell ⟨g5, 3, none⟩ (.slice A7 ns.length c7) = w8 at *
            refine hK8.mono ?_
            rintro e w9 ⟨rfl, b9⟩
            have b09 := b08.trans (b9.mono b08.size)
            have hb9 := hb8.trans (b9.mono hb8.size)
            have x9 := x8.below b9
            have y9 := y0.below b09 y0.lt
            clear q0 q1 q2 q3
            obtain ⟨q0, q1, q2, q3⟩ := x9.cs
            have f0 := y9.frozen 0
            have f1 := y9.frozen 1
            have f2 := y9.frozen 2
            have f3 := y9.frozen 3
            have r0 : w9.cell? ⟨w.heap.size, 0, none⟩ = some (.int .u8 0) := by rw [y9.cell]; rfl
            have r1 : w9.cell? ⟨w.heap.size, 1, none⟩ = some (.int .u8 0) := by rw [y9.cell]; rfl
            have r2 : w9.cell? ⟨w.heap.size, 2, none⟩ = some (.slice none 0 0) := by rw [y9.cell]; rfl
            have r3 : w9.cell? ⟨w.heap.size, 3, none⟩ = some (.slice none 0 0) := by rw [y9.cell]; rfl
            go_wp2_with fail
            have hF := (((y9.set_ 0 (.int .u8 0)).set_ 1 (.int .u8 0)).set_ 2 (.slice none 0 0)).set_ 3 (.slice none 0 0)
            have hBf := (((Below.setCell (p := ⟨w.heap.size, 0, none⟩) hb9 (Nat.le_refl _) (.int .u8 0)).setCell (p := ⟨w.heap.size, 1, none⟩) (Nat.le_refl _) (.int .u8 0)).setCell (p := ⟨w.heap.size, 2, none⟩) (Nat.le_refl _) (.slice none 0 0)).setCell (p := ⟨w.heap.size, 3, none⟩) (Nat.le_refl _) (.slice none 0 0)
            (try simp only [Exit.inBlock, Exit.then])
            refine bodyPost_ret (results_row_tmp rfl _ _ w.heap.size 25 _ _ rfl hF Tryz.underlying25 rfl (by kernel_rfl)) rfl ?_
            exact ⟨hBf, rfl⟩
          · refine Calls.mono hP6a ?_
            rintro e w7 ⟨b7, A7, c7, rfl, hN7, n1, n2, n3⟩
            have b07 := b06.trans (b7.mono b06.size)
            have hb7 := hb6.trans (b7.mono hb6.size)
            have x7 := x6.below b7
            have hs6 := b6.size
            have hs5 := b5.size
            have hs7 := b7.size
            have hsf := bf.size
            have q7 := x7.c3
            have f7 := Whole.frozen x7 3
            have x8 : CkBox (w7.setCell ⟨g5, 3, none⟩ (.slice A7 ns.length c7)) g5 (⟨x.t, x.fl, x.d, ns⟩ : Ck) A3 c3 A7 c7 := x7.set_ 3 (.slice A7 ns.length c7)
            have hN8 : NodesS (w7.setCell ⟨g5, 3, none⟩ (.slice A7 ns.length c7)) (fun q => w6.heap.size ≤ q ∧ q < w7.heap.size) A7 ns := hN7.turn (fun p hp => World.cell?_setCell_other _ _ _ _ (fun e => by have := hp.1; rw [← e] at this; simp only at this; omega)) (fun q hq => hq)
            have hd8 : LiesS (w7.setCell ⟨g5, 3, none⟩ (.slice A7 ns.length c7)) (NewS w2 Wf) A3 (x.d.map bv) := liesS_set12 (LiesS.turn hl3 (fun p hp => (((b5.trans (b6.mono b5.size)).trans (b7.mono (b5.trans (b6.mono b5.size)).size))).cell hp.2) (fun q hq => hq)) q7
            have b08 : Below w0.heap.size w0 (w7.setCell ⟨g5, 3, none⟩ (.slice A7 ns.length c7)) := b07.setCell (p := ⟨g5, 3, none⟩) (by show w0.heap.size ≤ g5; omega) _
            have hb8 : Below w.heap.size w (w7.setCell ⟨g5, 3, none⟩ (.slice A7 ns.length c7)) := hb7.setCell (p := ⟨g5, 3, none⟩) (by show w.heap.size ≤ g5; omega) _
            have hsz8 : (w7.setCell ⟨g5, 3, none⟩ (.slice A7 ns.length c7)).heap.size = w7.heap.size := by simp [World.setCell]
            have hK8 := checkKids_any (⟨x.t, x.fl, x.d, ns⟩ : Ck) (Nat.le_trans n3 (by decide)) A3 c3 A7 c7 (w7.setCell ⟨g5, 3, none⟩ (.slice A7 ns.length c7)) (hN8.nodes (fun q hq => by rw [hsz8]; exact hq.2))
            unfold kidB at hK8
            simp only [] at hK8
            rw [hkp] at hK8
            clear q0 q1 q2 q3 hN7 hl3
            obtain ⟨q0, q1, q2, q3⟩ := x8.cs
            unfold errV faultV at hK8
            simp only [if_true, Bool.false_eq_true, if_false] at hK8
            go_wp2_with fail
            generalize w7.setCell ⟨g5, 3, none⟩ (.slice A7 ns.length c7) = w8 at *
            refine hK8.mono ?_
            rintro e w9 ⟨rfl, b9⟩
            have b09 := b08.trans (b9.mono b08.size)
            have hb9 := hb8.trans (b9.mono hb8.size)
            have x9 := x8.below b9
            have y9 := y0.below b09 y0.lt
            clear q0 q1 q2 q3
            obtain ⟨q0, q1, q2, q3⟩ := x9.cs
            have f0 := y9.frozen 0
            have f1 := y9.frozen 1
            have f2 := y9.frozen 2
            have f3 := y9.frozen 3
            have r0 : w9.cell? ⟨w.heap.size, 0, none⟩ = some (.int .u8 0) := by rw [y9.cell]; rfl
            have r1 : w9.cell? ⟨w.heap.size, 1, none⟩ = some (.int .u8 0) := by rw [y9.cell]; rfl
            have r2 : w9.cell? ⟨w.heap.size, 2, none⟩ = some (.slice none 0 0) := by rw [y9.cell]; rfl
            have r3 : w9.cell? ⟨w.heap.size, 3, none⟩ = some (.slice none 0 0) := by rw [y9.cell]; rfl
            go_wp2_with fail
            have hF := (((y9.set_ 0 (.int .u8 0)).set_ 1 (.int .u8 0)).set_ 2 (.slice none 0 0)).set_ 3 (.slice none 0 0)
            have hBf := (((Below.setCell (p := ⟨w.heap.size, 0, none⟩) hb9 (Nat.le_refl _) (.int .u8 0)).setCell (p := ⟨w.heap.size, 1, none⟩) (Nat.le_refl _) (.int .u8 0)).setCell (p := ⟨w.heap.size, 2, none⟩) (Nat.le_refl _) (.slice none 0 0)).setCell (p := ⟨w.heap.size, 3, none⟩) (Nat.le_refl _) (.slice none 0 0)
            (try simp only [Exit.inBlock, Exit.then])
            refine bodyPost_ret (results_row_tmp rfl _ _ w.heap.size 25 _ _ rfl hF Tryz.underlying25 rfl (by kernel_rfl)) rfl ?_
            exact ⟨hBf, rfl⟩
        | false =>
          simp only [Bool.false_eq_true, if_false]
          go_enter Tryz.func21, Tryz.ntmps21
          go_wp2_with fail
          generalize w.alloc (.cells #[.int .u8 0, .int .u8 0, .slice none 0 0, .slice none 0 0] 25) = w0 at *
          refine hW.mono ?_
          rintro e w1 ⟨rfl, b1⟩
          have hb1 := b0.trans (b1.mono b0.size)
          have hF1 := hFO w1 ((HL.out.below hb1).more hb1.size)
          go_wp2_with fail
          refine hF1.mono ?_
          rintro e w2 ⟨rfl, b2⟩
          have hb2 := hb1.trans (b2.mono hb1.size)
          have b02 := b1.trans (b2.mono b1.size)
          clear hF1 hFO
          go_wp2_with fail
          refine region4P _ _ _ _ _ _ _ _ _ _ _ _ _ _ _ _ _ _ _ _ _ _ _ _ _ _ _ _ _ _ _ _ _ _ _ _ _ _ _ _ _ _ _ _ _ _ _ _ _ _ _ _ _ _ _ _ _ _ _ _ _ _ _ _ _ ad b c fr x w2 ((HL.out.below hb2).more hb2.size) hc hm hs hf4 hfl hFC.out ?_
          intro u19 u20 u21 u22 u23 u24 u25 u26 u27 u28 u29 u30 g5 A3 c3 Wf hbx hl3 m2 m3 bf hg5
          have hbf := hb2.trans (bf.mono hb2.size)
          have b0f := b02.trans (bf.mono b02.size)
          have hg5l := hbx.lt
          have hs2 := hb2.size
          have hw0s : w.heap.size < w0.heap.size := y0.lt
          have hs02 := b02.size
          obtain ⟨q0, q1, q2, q3⟩ := hbx.cs
          have HFI : Calls Tryz.prog 58 #[ckV x A3 c3 none 0, .slice (some ⟨Wf.heap.size, 0, none⟩) 4 4] (Wf.alloc (.cells ckFs4.toArray 150)) fun e w' => e = .returned (ckE4 x) ∧ Below Wf.heap.size Wf w' := by
            have bn := (Below.refl _ Wf).alloc (Nat.le_refl _) (.cells ckFs4.toArray 150)
            have hWn := Whole.new Wf 150 ckFs4.toArray
            have hCh : Chunk Wf Wf.heap.size A3 c3 none 0 x := ⟨fun hne => by obtain ⟨ad, h1, h2, h3⟩ := hl3 hne; exact ⟨ad, h1, h2.2, h3⟩, m2, m3, by rw [HXK.out]; exact Nodes.nil _ _ _, by rw [HXK.out]; exact Nat.le_refl _, Nat.zero_le _⟩
            refine (first4_any x HFX.out A3 c3 none 0 Wf.heap.size _ (hCh.on bn) (by simp) (whole_cells12 hWn)).mono ?_
            rintro e w' ⟨h1, h2⟩
            exact ⟨h1, bn.trans (h2.mono bn.size)⟩
          rw [h4b] at HFI
          go_wp2_with fail
          refine HFI.mono ?_
          rintro e w5 ⟨rfl, b5⟩
          have b05 := b0f.trans (b5.mono b0f.size)
          have hb5 := hbf.trans (b5.mono hbf.size)
          have x5 := hbx.below b5
          clear q0 q1 q2 q3
          obtain ⟨q0, q1, q2, q3⟩ := x5.cs
          go_wp2_with fail
          refine (hIn _).mono ?_
          rintro e w6 ⟨rfl, b6⟩
          have b06 := b05.trans (b6.mono b05.size)
          have hb6 := hb5.trans (b6.mono hb5.size)
          have x6 := x5.below b6
          clear q0 q1 q2 q3
          obtain ⟨q0, q1, q2, q3⟩ := x6.cs
          have hP6a := HPA.out w6 hb6 (HH.out.below hb6 HH.out.lt)
          have HP6b := Lib.hid (fun hcf => HPB.out hcf w6 (HH.out.below hb6 HH.out.lt))
          unfold ParseR at hP6a HP6b
          clear HPA HPB
          go_wp2_with fail
          · refine Calls.mono (HP6b.out (by assumption)) ?_
            rintro e w7 ⟨b7, A7, c7, rfl, hN7, n1, n2, n3⟩
            have b07 := b06.trans (b7.mono b06.size)
            have hb7 := hb6.trans (b7.mono hb6.size)
            have x7 := x6.below b7
            have hs6 := b6.size
            have hs5 := b5.size
            have hs7 := b7.size
            have hsf := bf.size
            have q7 := x7.c3
            have f7 := Whole.frozen x7 3
            have x8 : CkBox (w7.setCell ⟨g5, 3, none⟩ (.slice A7 ns.length c7)) g5 (⟨x.t, x.fl, x.d, ns⟩ : Ck) A3 c3 A7 c7 := x7.set_ 3 (.slice A7 ns.length c7)
            have hN8 : NodesS (w7.setCell ⟨g5, 3, none⟩ (.slice A7 ns.length c7)) (fun q => w6.heap.size ≤ q ∧ q < w7.heap.size) A7 ns := hN7.turn (fun p hp => World.cell?_setCell_other _ _ _ _ (fun e => by have := hp.1; rw [← e] at this; simp only at this; omega)) (fun q hq => hq)
            have hd8 : LiesS (w7.setCell ⟨g5, 3, none⟩ (.slice A7 ns.length c7)) (NewS w2 Wf) A3 (x.d.map bv) := liesS_set12 (LiesS.turn hl3 (fun p hp => (((b5.trans (b6.mono b5.size)).trans (b7.mono (b5.trans (b6.mono b5.size)).size))).cell hp.2) (fun q hq => hq)) q7
            have b08 : Below w0.heap.size w0 (w7.setCell ⟨g5, 3, none⟩ (.slice A7 ns.length c7)) := b07.setCell (p := ⟨g5, 3, none⟩) (by show w0.heap.size ≤ g5; omega) _
            have hb8 : Below w.heap.size w (w7.setCell ⟨g5, 3, none⟩ (.slice A7 ns.length c7)) := hb7.setCell (p := ⟨g5, 3, none⟩) (by show w.heap.size ≤ g5; omega) _
            have hsz8 : (w7.setCell ⟨g5, 3, none⟩ (.slice A7 ns.length c7)).heap.size = w7.heap.size := by simp [World.setCell]
            have hK8 := checkKids_any (⟨x.t, x.fl, x.d, ns⟩ : Ck) (Nat.le_trans n3 (by decide)) A3 c3 A7 c7 (w7.setCell ⟨g5, 3, none⟩ (.slice A7 ns.length c7)) (hN8.nodes (fun q hq => by rw [hsz8]; exact hq.2))
            unfold kidB at hK8
            simp only [] at hK8
            rw [hkp] at hK8
            clear q0 q1 q2 q3 hN7 hl3
            obtain ⟨q0, q1, q2, q3⟩ := x8.cs
            unfold errV faultV at hK8
            simp only [if_true, Bool.false_eq_true, if_false] at hK8
            go_wp2_with fail
            generalize w7.setCell ⟨g5, 3, none⟩ (.slice A7 ns.length c7) = w8 at *
            refine hK8.mono ?_
            rintro e w9 ⟨rfl, b9⟩
            have b09 := b08.trans (b9.mono b08.size)
            have hb9 := hb8.trans (b9.mono hb8.size)
            have x9 := x8.below b9
            have y9 := y0.below b09 y0.lt
            clear q0 q1 q2 q3
            obtain ⟨q0, q1, q2, q3⟩ := x9.cs
            have f0 := y9.frozen 0
            have f1 := y9.frozen 1
            have f2 := y9.frozen 2
            have f3 := y9.frozen 3
            have r0 : w9.cell? ⟨w.heap.size, 0, none⟩ = some (.int .u8 0) := by rw [y9.cell]; rfl
            have r1 : w9.cell? ⟨w.heap.size, 1, none⟩ = some (.int .u8 0) := by rw [y9.cell]; rfl
            have r2 : w9.cell? ⟨w.heap.size, 2, none⟩ = some (.slice none 0 0) := by rw [y9.cell]; rfl
            have r3 : w9.cell? ⟨w.heap.size, 3, none⟩ = some (.slice none 0 0) := by rw [y9.cell]; rfl
            go_wp2_with fail
            have hF := (((y9.set_ 0 (.int .u8 (x.t.toNat : Int))).set_ 1 (.int .u8 (x.fl.toNat : Int))).set_ 2 (.slice A3 x.d.length c3)).set_ 3 (.slice A7 ns.length c7)
            have hBf := (((Below.setCell (p := ⟨w.heap.size, 0, none⟩) hb9 (Nat.le_refl _) (.int .u8 (x.t.toNat : Int))).setCell (p := ⟨w.heap.size, 1, none⟩) (Nat.le_refl _) (.int .u8 (x.fl.toNat : Int))).setCell (p := ⟨w.heap.size, 2, none⟩) (Nat.le_refl _) (.slice A3 x.d.length c3)).setCell (p := ⟨w.heap.size, 3, none⟩) (Nat.le_refl _) (.slice A7 ns.length c7)
            have hszf : ((((w9.setCell ⟨w.heap.size, 0, none⟩ (.int .u8 (x.t.toNat : Int))).setCell ⟨w.heap.size, 1, none⟩ (.int .u8 (x.fl.toNat : Int))).setCell ⟨w.heap.size, 2, none⟩ (.slice A3 x.d.length c3)).setCell ⟨w.heap.size, 3, none⟩ (.slice A7 ns.length c7)).heap.size = w9.heap.size := by simp [World.setCell]
            have hfar : ∀ p : Addr, p.block ≠ w.heap.size → ((((w9.setCell ⟨w.heap.size, 0, none⟩ (.int .u8 (x.t.toNat : Int))).setCell ⟨w.heap.size, 1, none⟩ (.int .u8 (x.fl.toNat : Int))).setCell ⟨w.heap.size, 2, none⟩ (.slice A3 x.d.length c3)).setCell ⟨w.heap.size, 3, none⟩ (.slice A7 ns.length c7)).cell? p = w9.cell? p := fun p hp => by
              rw [World.cell?_setCell_other _ _ _ _ (fun e => hp (by rw [← e])), World.cell?_setCell_other _ _ _ _ (fun e => hp (by rw [← e])), World.cell?_setCell_other _ _ _ _ (fun e => hp (by rw [← e])), World.cell?_setCell_other _ _ _ _ (fun e => hp (by rw [← e]))]
            have hs9 := b9.size
            (try simp only [Exit.inBlock, Exit.then])
            refine bodyPost_ret (results_row_tmp rfl _ _ w.heap.size 25 _ _ rfl hF Tryz.underlying25 rfl (by kernel_rfl)) rfl ?_
            refine ⟨hBf, A3, c3, A7, c7, rfl, ⟨hd8.turn (fun p hp => (hfar p (by have := hp.1; omega)).trans (b9.cell (by have := hp.2; omega))) (fun q hq => ⟨by have := hq.1; omega, by have := hq.2; rw [hszf]; omega⟩), m2, m3, hN8.turn (fun p hp => (hfar p (by have := hp.1; omega)).trans (b9.cell (by have := hp.2; omega))) (fun q hq => ⟨by have := hq.1; omega, by have := hq.2; rw [hszf]; omega⟩), n1, n2⟩⟩
          · refine Calls.mono hP6a ?_
            rintro e w7 ⟨b7, A7, c7, rfl, hN7, n1, n2, n3⟩
            have b07 := b06.trans (b7.mono b06.size)
            have hb7 := hb6.trans (b7.mono hb6.size)
            have x7 := x6.below b7
            have hs6 := b6.size
            have hs5 := b5.size
            have hs7 := b7.size
            have hsf := bf.size
            have q7 := x7.c3
            have f7 := Whole.frozen x7 3
            have x8 : CkBox (w7.setCell ⟨g5, 3, none⟩ (.slice A7 ns.length c7)) g5 (⟨x.t, x.fl, x.d, ns⟩ : Ck) A3 c3 A7 c7 := x7.set_ 3 (.slice A7 ns.length c7)
            have hN8 : NodesS (w7.setCell ⟨g5, 3, none⟩ (.slice A7 ns.length c7)) (fun q => w6.heap.size ≤ q ∧ q < w7.heap.size) A7 ns := hN7.turn (fun p hp => World.cell?_setCell_other _ _ _ _ (fun e => by have := hp.1; rw [← e] at this; simp only at this; omega)) (fun q hq => hq)
            have hd8 : LiesS (w7.setCell ⟨g5, 3, none⟩ (.slice A7 ns.length c7)) (NewS w2 Wf) A3 (x.d.map bv) := liesS_set12 (LiesS.turn hl3 (fun p hp => (((b5.trans (b6.mono b5.size)).trans (b7.mono (b5.trans (b6.mono b5.size)).size))).cell hp.2) (fun q hq => hq)) q7
            have b08 : Below w0.heap.size w0 (w7.setCell ⟨g5, 3, none⟩ (.slice A7 ns.length c7)) := b07.setCell (p := ⟨g5, 3, none⟩) (by show w0.heap.size ≤ g5; omega) _
            have hb8 : Below w.heap.size w (w7.setCell ⟨g5, 3, none⟩ (.slice A7 ns.length c7)) := hb7.setCell (p := ⟨g5, 3, none⟩) (by show w.heap.size ≤ g5; omega) _
            have hsz8 : (w7.setCell ⟨g5, 3, none⟩ (.slice A7 ns.length c7)).heap.size = w7.heap.size := by simp [World.setCell]
            have hK8 := checkKids_any (⟨x.t, x.fl, x.d, ns⟩ : Ck) (Nat.le_trans n3 (by decide)) A3 c3 A7 c7 (w7.setCell ⟨g5, 3, none⟩ (.slice A7 ns.length c7)) (hN8.nodes (fun q hq => by rw [hsz8]; exact hq.2))
            unfold kidB at hK8
            simp only [] at hK8
            rw [hkp] at hK8
            clear q0 q1 q2 q3 hN7 hl3
            obtain ⟨q0, q1, q2, q3⟩ := x8.cs
            unfold errV faultV at hK8
            simp only [if_true, Bool.false_eq_true, if_false] at hK8
            go_wp2_with fail
            generalize w7.setCell ⟨g5, 3, none⟩ (.slice A7 ns.length c7) = w8 at *
            refine hK8.mono ?_
            rintro e w9 ⟨rfl, b9⟩
            have b09 := b08.trans (b9.mono b08.size)
            have hb9 := hb8.trans (b9.mono hb8.size)
            have x9 := x8.below b9
            have y9 := y0.below b09 y0.lt
            clear q0 q1 q2 q3
            obtain ⟨q0, q1, q2, q3⟩ := x9.cs
            have f0 := y9.frozen 0
            have f1 := y9.frozen 1
            have f2 := y9.frozen 2
            have f3 := y9.frozen 3
            have r0 : w9.cell? ⟨w.heap.size, 0, none⟩ = some (.int .u8 0) := by rw [y9.cell]; rfl
            have r1 : w9.cell? ⟨w.heap.size, 1, none⟩ = some (.int .u8 0) := by rw [y9.cell]; rfl
            have r2 : w9.cell? ⟨w.heap.size, 2, none⟩ = some (.slice none 0 0) := by rw [y9.cell]; rfl
            have r3 : w9.cell? ⟨w.heap.size, 3, none⟩ = some (.slice none 0 0) := by rw [y9.cell]; rfl
            go_wp2_with fail
            have hF := (((y9.set_ 0 (.int .u8 (x.t.toNat : Int))).set_ 1 (.int .u8 (x.fl.toNat : Int))).set_ 2 (.slice A3 x.d.length c3)).set_ 3 (.slice A7 ns.length c7)
            have hBf := (((Below.setCell (p := ⟨w.heap.size, 0, none⟩) hb9 (Nat.le_refl _) (.int .u8 (x.t.toNat : Int))).setCell (p := ⟨w.heap.size, 1, none⟩) (Nat.le_refl _) (.int .u8 (x.fl.toNat : Int))).setCell (p := ⟨w.heap.size, 2, none⟩) (Nat.le_refl _) (.slice A3 x.d.length c3)).setCell (p := ⟨w.heap.size, 3, none⟩) (Nat.le_refl _) (.slice A7 ns.length c7)
            have hszf : ((((w9.setCell ⟨w.heap.size, 0, none⟩ (.int .u8 (x.t.toNat : Int))).setCell ⟨w.heap.size, 1, none⟩ (.int .u8 (x.fl.toNat : Int))).setCell ⟨w.heap.size, 2, none⟩ (.slice A3 x.d.length c3)).setCell ⟨w.heap.size, 3, none⟩ (.slice A7 ns.length c7)).heap.size = w9.heap.size := by simp [World.setCell]
            have hfar : ∀ p : Addr, p.block ≠ w.heap.size → ((((w9.setCell ⟨w.heap.size, 0, none⟩ (.int .u8 (x.t.toNat : Int))).setCell ⟨w.heap.size, 1, none⟩ (.int .u8 (x.fl.toNat : Int))).setCell ⟨w.heap.size, 2, none⟩ (.slice A3 x.d.length c3)).setCell ⟨w.heap.size, 3, none⟩ (.slice A7 ns.length c7)).cell? p = w9.cell? p := fun p hp => by
              rw [World.cell?_setCell_other _ _ _ _ (fun e => hp (by rw [← e])), World.cell?_setCell_other _ _ _ _ (fun e => hp (by rw [← e])), World.cell?_setCell_other _ _ _ _ (fun e => hp (by rw [← e])), World.cell?_setCell_other _ _ _ _ (fun e => hp (by rw [← e]))]
            have hs9 := b9.size
            (try simp only [Exit.inBlock, Exit.then])
            refine bodyPost_ret (results_row_tmp rfl _ _ w.heap.size 25 _ _ rfl hF Tryz.underlying25 rfl (by kernel_rfl)) rfl ?_
            refine ⟨hBf, A3, c3, A7, c7, rfl, ⟨hd8.turn (fun p hp => (hfar p (by have := hp.1; omega)).trans (b9.cell (by have := hp.2; omega))) (fun q hq => ⟨by have := hq.1; omega, by have := hq.2; rw [hszf]; omega⟩), m2, m3, hN8.turn (fun p hp => (hfar p (by have := hp.1; omega)).trans (b9.cell (by have := hp.2; omega))) (fun q hq => ⟨by have := hq.1; omega, by have := hq.2; rw [hszf]; omega⟩), n1, n2⟩⟩
    · rw [h4a]
      simp only []
      unfold faultV at h4b
      go_enter Tryz.func21, Tryz.ntmps21
      go_wp2_with fail
      generalize w.alloc (.cells #[.int .u8 0, .int .u8 0, .slice none 0 0, .slice none 0 0] 25) = w0 at *
      refine hW.mono ?_
      rintro e w1 ⟨rfl, b1⟩
      have hb1 := b0.trans (b1.mono b0.size)
      have hF1 := hFO w1 ((HL.out.below hb1).more hb1.size)
      go_wp2_with fail
      refine hF1.mono ?_
      rintro e w2 ⟨rfl, b2⟩
      have hb2 := hb1.trans (b2.mono hb1.size)
      have b02 := b1.trans (b2.mono b1.size)
      clear hF1 hFO
      go_wp2_with fail
      refine region4P _ _ _ _ _ _ _ _ _ _ _ _ _ _ _ _ _ _ _ _ _ _ _ _ _ _ _ _ _ _ _ _ _ _ _ _ _ _ _ _ _ _ _ _ _ _ _ _ _ _ _ _ _ _ _ _ _ _ _ _ _ _ _ _ _ ad b c fr x w2 ((HL.out.below hb2).more hb2.size) hc hm hs hf4 hfl hFC.out ?_
      intro u19 u20 u21 u22 u23 u24 u25 u26 u27 u28 u29 u30 g5 A3 c3 Wf hbx hl3 m2 m3 bf hg5
      have hbf := hb2.trans (bf.mono hb2.size)
      have b0f := b02.trans (bf.mono b02.size)
      have hg5l := hbx.lt
      have hs2 := hb2.size
      have hw0s : w.heap.size < w0.heap.size := y0.lt
      have hs02 := b02.size
      obtain ⟨q0, q1, q2, q3⟩ := hbx.cs
      have HFI : Calls Tryz.prog 58 #[ckV x A3 c3 none 0, .slice (some ⟨Wf.heap.size, 0, none⟩) 4 4] (Wf.alloc (.cells ckFs4.toArray 150)) fun e w' => e = .returned (ckE4 x) ∧ Below Wf.heap.size Wf w' := by
        have bn := (Below.refl _ Wf).alloc (Nat.le_refl _) (.cells ckFs4.toArray 150)
        have hWn := Whole.new Wf 150 ckFs4.toArray
        have hCh : Chunk Wf Wf.heap.size A3 c3 none 0 x := ⟨fun hne => by obtain ⟨ad, h1, h2, h3⟩ := hl3 hne; exact ⟨ad, h1, h2.2, h3⟩, m2, m3, by rw [HXK.out]; exact Nodes.nil _ _ _, by rw [HXK.out]; exact Nat.le_refl _, Nat.zero_le _⟩
        refine (first4_any x HFX.out A3 c3 none 0 Wf.heap.size _ (hCh.on bn) (by simp) (whole_cells12 hWn)).mono ?_
        rintro e w' ⟨h1, h2⟩
        exact ⟨h1, bn.trans (h2.mono bn.size)⟩
      rw [h4b] at HFI
      go_wp2_with fail
      refine HFI.mono ?_
      rintro e w5 ⟨rfl, b5⟩
      have y5 := y0.below (b0f.trans (b5.mono b0f.size)) y0.lt
      have hb5 := hbf.trans (b5.mono hbf.size)
      have f0 := y5.frozen 0
      have f1 := y5.frozen 1
      have f2 := y5.frozen 2
      have f3 := y5.frozen 3
      have r0 : w5.cell? ⟨w.heap.size, 0, none⟩ = some (.int .u8 0) := by rw [y5.cell]; rfl
      have r1 : w5.cell? ⟨w.heap.size, 1, none⟩ = some (.int .u8 0) := by rw [y5.cell]; rfl
      have r2 : w5.cell? ⟨w.heap.size, 2, none⟩ = some (.slice none 0 0) := by rw [y5.cell]; rfl
      have r3 : w5.cell? ⟨w.heap.size, 3, none⟩ = some (.slice none 0 0) := by rw [y5.cell]; rfl
      go_wp2_with fail
      have hF := (((y5.set_ 0 (.int .u8 0)).set_ 1 (.int .u8 0)).set_ 2 (.slice none 0 0)).set_ 3 (.slice none 0 0)
      have hBf := (((Below.setCell (p := ⟨w.heap.size, 0, none⟩) hb5 (Nat.le_refl _) (.int .u8 0)).setCell (p := ⟨w.heap.size, 1, none⟩) (Nat.le_refl _) (.int .u8 0)).setCell (p := ⟨w.heap.size, 2, none⟩) (Nat.le_refl _) (.slice none 0 0)).setCell (p := ⟨w.heap.size, 3, none⟩) (Nat.le_refl _) (.slice none 0 0)
      (try simp only [Exit.inBlock, Exit.then])
      refine bodyPost_ret (results_row_tmp rfl _ _ w.heap.size 25 _ _ rfl hF Tryz.underlying25 rfl (by kernel_rfl)) rfl ?_
      exact ⟨hBf, rfl⟩
end Go.Proofs.YthkbcpbgoefanaaGreatDoor


