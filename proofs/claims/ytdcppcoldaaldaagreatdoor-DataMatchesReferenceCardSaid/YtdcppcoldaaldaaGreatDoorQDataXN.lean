/- Layer 13: the law DataMatchesReference (written by tools/gen_data_xn.py). It writes nothing that was there. -/
import Derived.Test.YtdcppcoldaaldaaGreatDoorQDataXM
import Derived.Test.YtdcppcoldaaldaaGreatDoorQXA
import Derived.Test.YtdcppcoldaaldaaGreatDoorQDT
import Derived.Test.YtdcppcoldaaldaaGreatDoorQDataD
import Derived.Test.YtdcppcoldaaldaaGreatDoorQCT
import Derived.Test.YtdcppcoldaaldaaGreatDoorQNS
import Derived.Test.YtdcppcoldaaldaaGreatDoorQNF
import Derived.BigGuard
import Derived.Deep.RegionHeld3









namespace Go.Proofs.YtdcppcoldaaldaaGreatDoor
open Go.ChangeShapes Go.WideShapes Go.ChangeAt Go.RowKit

set_option linter.unusedSimpArgs false
section
variable {H : Type} {enc : TypeId × Value → H} {w : World} {base : Nat} {v : Value} {d : DataW H} {p : List MemPlace}
set_option maxRecDepth 100000 in
/-- an argument that is a description -/
theorem open_part (o : Value.okWide Tryz.prog w .any base 26 v) (h : DataW.Trod enc Tryz.prog w 0 (fun _ => true) true 26 v d p) :
    ∃ (p : Pt) (A : Option Addr) (c : Nat), v = ptV p A c ∧ PtL w w.heap.size A c p := by
  obtain ⟨cs, rfl, hsz⟩ := okWide_struct Tryz.underlying26 o
  obtain ⟨fuel, hf⟩ := h
  have c10 : Tryz.prog.cellsOf 26 = 10 := by kernel_rfl
  rw [c10] at hsz
  have hf' : DataW.trod enc Tryz.prog w 0 (fun _ => true) true fuel 26 cs.toList = some (d, p) := hf
  obtain ⟨q, A, c, e, hq⟩ := part_of_trod hf' (by simpa using hsz)
  refine ⟨q, A, c, ?_, hq⟩
  show Value.agg cs = .agg _
  congr 1
  exact Array.ext' e
end
theorem ckEq_selfM (a : Ck) : ckEq a a = true := by
  unfold ckEq
  rw [beqL_true rfl]
  simp
def zckM : Ck := ⟨0, 0, [], []⟩
theorem zckM_no : isD zckM = false := by decide +kernel
theorem zckM_fine : CkFine zckM := ⟨by simp [zckM], by simp [zckM], by intro q hq; cases hq⟩
theorem zckM_lies (w : World) (B : Nat) : Chunk w B none 0 none 0 zckM := ⟨Lies.nil, Nat.le_refl _, Nat.zero_le _, Nodes.nil _ _ _, Nat.le_refl _, Nat.zero_le _⟩
set_option maxRecDepth 100000 in
set_option maxHeartbeats 16000000 in
theorem dmr_law (p : Pt) (A : Option Addr) (c : Nat) (w : World) (h : PtL w w.heap.size A c p) (hh : Handle w) :
    Calls Tryz.prog 3 #[ptV p A c] w fun e w' => e = .returned (.bool true) ∧ Below w.heap.size w w' := by
  have b0 : Below w.heap.size w (w.alloc (.cells (ptCells p A c) 26)) := (Below.refl _ w).alloc (Nat.le_refl _) _
  have x0 := Whole.new w 26 (ptCells p A c)
  have H0 := hh.below b0 hh.lt
  have HH := Lib.hid (fun (V : World) (hV : Below w.heap.size w V) => hh.below hV hh.lt)
  have HP := Lib.hid (fun (V : World) (hV : Below w.heap.size w V) => h.on hV)
  clear h hh
  go_enter Tryz.func3, Tryz.ntmps3
  go_wp2_with fail
  generalize w.alloc (.cells (ptCells p A c) 26) = w0 at *
  refine (awake13_any w0 H0).mono ?_
  rintro e w1 ⟨rfl, b1⟩
  have B1 := b0.trans (b1.mono b0.size)
  have x1 := x0.below b1 x0.lt
  have hF1 := few13_any p A c w1
  obtain ⟨q0, q1, q2, q3, q4, q5, q6, q7, q8, q9⟩ := x1.cs10
  cases hf : few13B p with
  | false =>
    rw [hf] at hF1
    clear hf
    go_wp2_with fail
    refine hF1.mono ?_
    rintro e w2 ⟨rfl, b2⟩
    have B2 := B1.trans (b2.mono B1.size)
    go_wp2_with fail
    refine (awake13_any w2 (HH.out _ B2)).mono ?_
    rintro e w3 ⟨rfl, b3⟩
    go_wp2_with fail
    go_ret
    exact ⟨rfl, B2.trans (b3.mono B2.size)⟩
  | true =>
    have hu : p.us.length ≤ 1000 := by unfold few13B at hf; simpa using hf
    rw [hf] at hF1
    clear hf
    go_wp2_with fail
    refine hF1.mono ?_
    rintro e w2 ⟨rfl, b2⟩
    have B2 := B1.trans (b2.mono B1.size)
    have x2 := x1.below b2 x1.lt
    have hM := dmake_any p A c w2 (HP.out w2 B2)
    have hR := rright_any p A c
    clear q0 q1 q2 q3 q4 q5 q6 q7 q8 q9 hF1 x0 x1 b0 b1 b2 B1 H0
    obtain ⟨q0, q1, q2, q3, q4, q5, q6, q7, q8, q9⟩ := x2.cs10
    cases hd : desB p with
    | false =>
      have hM2 := Calls.mono (R := MkR p w2) hM fun e w' h => mkR_no hd h
      have HR := Lib.hid hR
      rw [hd] at HR
      have HOf : Hid (∀ V, Below w.heap.size w V → Calls Tryz.prog 19 #[.agg #[.int .u8 0, .int .u8 0, .slice none 0 0, .slice none 0 0]] V fun e w' => Below V.heap.size V w' ∧ ∃ A' c', e = .returned (.tuple #[.agg #[.bool false, .int .u32 0, .int .u16 0, .int .u32 0, .int .u32 0, .bool false, .bool false, .bool false, .bool false, .slice A' 0 c'], .bool false]) ∧ PtL w' w'.heap.size A' c' pt0) := Lib.hid (fun V hV => by
        have h9 := dof_any zckM zckM_fine none 0 none 0 V (zckM_lies _ _) (HH.out V hV)
        unfold OfR ofP at h9
        rw [zckM_no] at h9
        exact h9)
      have HB2 := Lib.hid B2
      clear hM hR hd hu HP HH B2
      unfold zck13 at hM2
      go_wp2_with fail
      refine hM2.mono ?_
      rintro e w3 ⟨b3, rfl⟩
      have x3 := x2.below b3 x2.lt
      have HB3 := Lib.hid (HB2.out.trans (b3.mono HB2.out.size))
      clear q0 q1 q2 q3 q4 q5 q6 q7 q8 q9 hM2 x2 b3 HB2
      go_upto_region 4 with fail
      have v4 : Below w3.heap.size w3 (w3.alloc (.cells #[.int .u8 0, .int .u8 0, .slice none 0 0, .slice none 0 0] 31)) := (Below.refl _ _).alloc (Nat.le_refl _) _
      have z4 := Whole.new w3 31 #[.int .u8 0, .int .u8 0, .slice none 0 0, .slice none 0 0]
      have x4 := x3.below v4 x3.lt
      have HB4 := Lib.hid (HB3.out.trans (v4.mono HB3.out.size))
      generalize w3.alloc (.cells #[.int .u8 0, .int .u8 0, .slice none 0 0, .slice none 0 0] 31) = w4 at *
      generalize w3.heap.size = g4 at *
      clear v4 x3 HB3
      obtain ⟨q0, q1, q2, q3, q4, q5, q6, q7, q8, q9⟩ := x4.cs10
      have hR4 := HR.out w4
      go_wp2_with fail
      refine hR4.mono ?_
      rintro e w5 ⟨rfl, b5⟩
      have z5 := z4.below b5 z4.lt
      have HB5 := Lib.hid (HB4.out.trans (b5.mono HB4.out.size))
      clear q0 q1 q2 q3 q4 q5 q6 q7 q8 q9 hR4 z4 x4 b5 HB4
      obtain ⟨m0, m1, m2, m3⟩ := wh4 z5
      have hO := HOf.out w5 HB5.out
      go_wp2_with fail
      refine hO.mono ?_
      rintro e w6 ⟨b6, A6, c6, rfl, hP6⟩
      have z6 := z5.below b6 z5.lt
      have HB6 := Lib.hid (HB5.out.trans (b6.mono HB5.out.size))
      clear m0 m1 m2 m3 hO z5 b6 HB5
      go_upto_region 7 with fail
      have v7 : Below w6.heap.size w6 (w6.alloc (.cells #[.bool false, .int .u32 0, .int .u16 0, .int .u32 0, .int .u32 0, .bool false, .bool false, .bool false, .bool false, .slice A6 0 c6] 34)) := (Below.refl _ _).alloc (Nat.le_refl _) _
      have y7 := Whole.new w6 34 #[.bool false, .int .u32 0, .int .u16 0, .int .u32 0, .int .u32 0, .bool false, .bool false, .bool false, .bool false, .slice A6 0 c6]
      have z7 := z6.below v7 z6.lt
      have hP7 := hP6.on v7
      have HB7 := Lib.hid (HB6.out.trans (v7.mono HB6.out.size))
      generalize w6.alloc (.cells #[.bool false, .int .u32 0, .int .u16 0, .int .u32 0, .int .u32 0, .bool false, .bool false, .bool false, .bool false, .slice A6 0 c6] 34) = w7 at *
      generalize w6.heap.size = g7 at *
      clear v7 z6 hP6 HB6
      obtain ⟨m0, m1, m2, m3⟩ := wh4 z7
      have hS : Calls Tryz.prog 20 #[.agg #[.int .u8 0, .int .u8 0, .slice none 0 0, .slice none 0 0], .agg #[.int .u8 0, .int .u8 0, .slice none 0 0, .slice none 0 0]] w7 fun e w' => e = .returned (.bool true) ∧ Below w7.heap.size w7 w' := by
        have h9 := rcsame12 zckM zckM (by simp [zckM]) (by simp [zckM]) (by simp [zckM]) none 0 none 0 none 0 none 0 w7 (zckM_lies _ _) (zckM_lies _ _)
        rw [ckEq_selfM] at h9
        exact h9
      go_wp2_with fail
      refine hS.mono ?_
      rintro e w8 ⟨rfl, b8⟩
      have y8 := y7.below b8 y7.lt
      have hP8 := hP7.on b8
      have HB8 := Lib.hid (HB7.out.trans (b8.mono HB7.out.size))
      clear m0 m1 m2 m3 hS z7 y7 hP7 b8 HB7
      obtain ⟨q0, q1, q2, q3, q4, q5, q6, q7, q8, q9⟩ := y8.cs10
      have hT : Calls Tryz.prog 21 #[.agg #[.bool false, .int .u32 0, .int .u16 0, .int .u32 0, .int .u32 0, .bool false, .bool false, .bool false, .bool false, .slice A6 0 c6], .agg #[.bool false, .int .u32 0, .int .u16 0, .int .u32 0, .int .u32 0, .bool false, .bool false, .bool false, .bool false, .slice none 0 0]] w8 fun e w' => e = .returned (.bool true) ∧ Below w8.heap.size w8 w' := by
        have h9 := rsame13_any pt0 pt0 (by simp [pt0]) A6 c6 none 0 w8 hP8 ⟨Lies.nil, Nat.le_refl _, Nat.zero_le _⟩
        rw [ptEq_self] at h9
        exact h9
      go_wp2_with fail
      refine hT.mono ?_
      rintro e w9 ⟨rfl, b9⟩
      go_wp2_with fail
      go_ret
      exact ⟨rfl, HB8.out.trans (b9.mono HB8.out.size)⟩
    | true =>
      have hM2 := Calls.mono (R := MkR p w2) hM fun e w' h => mkR_ck hd h
      have HR := Lib.hid hR
      rw [hd] at HR
      have HOf : Hid (∀ (V : World) (A' : Option Addr) (c' : Nat), Below w.heap.size w V → Chunk V V.heap.size A' c' none 0 (ckD p) → Calls Tryz.prog 19 #[.agg #[bv (tyB p), bv (flP p), .slice A' (datB p).length c', .slice none 0 0]] V fun e w' => Below V.heap.size V w' ∧ ∃ A' c', e = .returned (.tuple #[ptV p A' c', .bool true]) ∧ PtL w' w'.heap.size A' c' p) := Lib.hid (fun V A' c' hV hC => Calls.mono (R := OfR (ckD p) V) (dof_any (ckD p) (ckD_fine hd) A' c' none 0 V hC (HH.out V hV)) fun e w' h => ofR_ckD hd h)
      have HMk : Hid (∀ V, Below w.heap.size w V → Calls Tryz.prog 22 #[ptV p A c] V fun e w' => ∃ A' c', e = .returned (.agg #[bv (tyB p), bv (flP p), .slice A' (datB p).length c', .slice none 0 0]) ∧ Chunk w' w'.heap.size A' c' none 0 (ckD p) ∧ Below V.heap.size V w') := Lib.hid (fun V hV => Calls.mono (rmake13_any p (by omega) A c V (HP.out V hV)) fun e w' h => by
        obtain ⟨A', c', n, he, rfl, ho, hb⟩ := h
        have hcap := own_cap ho
        exact ⟨A', c', he, ⟨Lies.own ho, hcap.2.1, hcap.2.2, Nodes.nil _ _ _, Nat.le_refl _, Nat.zero_le _⟩, hb⟩)
      have hdl : (datB p).length ≤ 1000000 := (ckD_fine hd).d
      have HSm : Hid (∀ (V : World) (A1 : Option Addr) (c1 : Nat) (A2 : Option Addr) (c2 : Nat), Chunk V V.heap.size A1 c1 none 0 (ckD p) → Chunk V V.heap.size A2 c2 none 0 (ckD p) → Calls Tryz.prog 20 #[.agg #[bv (tyB p), bv (flP p), .slice A1 (datB p).length c1, .slice none 0 0], .agg #[bv (tyB p), bv (flP p), .slice A2 (datB p).length c2, .slice none 0 0]] V fun e w' => e = .returned (.bool true) ∧ Below V.heap.size V w') := Lib.hid (fun V A1 c1 A2 c2 h1 h2 => by
        have h9 := rcsame12 (ckD p) (ckD p) (by show (datB p).length ≤ _; unfold maxLen; omega) (by simp [ckD]) (by simp [ckD]) A1 c1 none 0 A2 c2 none 0 V h1 h2
        rw [ckEq_selfM] at h9
        exact h9)
      have HSp : Hid (∀ (V : World) (A1 : Option Addr) (c1 : Nat), Below w.heap.size w V → PtL V V.heap.size A1 c1 p → Calls Tryz.prog 21 #[ptV p A1 c1, ptV p A c] V fun e w' => e = .returned (.bool true) ∧ Below V.heap.size V w') := Lib.hid (fun V A1 c1 hV h1 => by
        have h9 := rsame13_any p p (by unfold maxLen; omega) A1 c1 A c V h1 (HP.out V hV)
        rw [ptEq_self] at h9
        exact h9)
      have HCk : Hid (∀ (V : World) (A1 : Option Addr) (c1 : Nat), Below w.heap.size w V → Chunk V V.heap.size A1 c1 none 0 (ckD p) → Calls Tryz.prog 23 #[.agg #[bv (tyB p), bv (flP p), .slice A1 (datB p).length c1, .slice none 0 0]] V fun e w' => e = .returned .nilIface ∧ Below V.heap.size V w') := Lib.hid (fun V A1 c1 hV h1 => by
        have h9 := ccheck_any (ckD p) (ckD_fine hd) A1 c1 none 0 V h1 (HH.out V hV)
        rw [ckD_right hd] at h9
        exact h9)
      have HB2 := Lib.hid B2
      have hg2 := x2.lt
      unfold ckV at hM2
      have hM3 : Calls Tryz.prog 17 #[ptV p A c] w2 fun e w' => Below w2.heap.size w2 w' ∧ ∃ A' c', e = .returned (.tuple #[.agg #[bv (tyB p), bv (flP p), .slice A' (datB p).length c', .slice none 0 0], .bool true]) ∧ Chunk w' w'.heap.size A' c' none 0 (ckD p) := hM2
      clear hM hM2 hR hd hu HP HH B2 hdl
      generalize hx : ckD p = x at *
      clear hx
      generalize tyB p = ty at *
      generalize flP p = fl at *
      generalize datB p = bs at *
      obtain ⟨inter, tsn, st, sq, pr, bg, en, un, nw, us⟩ := p
      simp only [ptV, ptCells] at *
      go_wp2_with fail
      refine hM3.mono ?_
      rintro e w3 ⟨b3, A3, c3, rfl, C3⟩
      have x3 := x2.below b3 x2.lt
      have HB3 := Lib.hid (HB2.out.trans (b3.mono HB2.out.size))
      clear q0 q1 q2 q3 q4 q5 q6 q7 q8 q9 hM3 x2 b3 HB2 hg2
      go_upto_region 4 with fail
      have v4 : Below w3.heap.size w3 (w3.alloc (.cells #[bv ty, bv fl, .slice A3 bs.length c3, .slice none 0 0] 31)) := (Below.refl _ _).alloc (Nat.le_refl _) _
      have z4 := Whole.new w3 31 #[bv ty, bv fl, .slice A3 bs.length c3, .slice none 0 0]
      have x4 := x3.below v4 x3.lt
      have C4 := C3.on v4
      have HB4 := Lib.hid (HB3.out.trans (v4.mono HB3.out.size))
      generalize w3.alloc (.cells #[bv ty, bv fl, .slice A3 bs.length c3, .slice none 0 0] 31) = w4 at *
      generalize w3.heap.size = g4 at *
      clear v4 x3 C3 HB3
      obtain ⟨q0, q1, q2, q3, q4, q5, q6, q7, q8, q9⟩ := x4.cs10
      have hR4 := HR.out w4
      go_wp2_with fail
      refine hR4.mono ?_
      rintro e w5 ⟨rfl, b5⟩
      have z5 := z4.below b5 z4.lt
      have x5 := x4.below b5 x4.lt
      have C5 := C4.on b5
      have HB5 := Lib.hid (HB4.out.trans (b5.mono HB4.out.size))
      clear q0 q1 q2 q3 q4 q5 q6 q7 q8 q9 hR4 z4 x4 C4 b5 HB4
      obtain ⟨m0, m1, m2, m3⟩ := wh4 z5
      have hO := HOf.out w5 A3 c3 HB5.out C5
      go_wp2_with fail
      refine hO.mono ?_
      rintro e w6 ⟨b6, A5, c5, rfl, P6⟩
      have z6 := z5.below b6 z5.lt
      have x6 := x5.below b6 x5.lt
      have C6 := C5.on b6
      have HB6 := Lib.hid (HB5.out.trans (b6.mono HB5.out.size))
      clear m0 m1 m2 m3 hO z5 x5 C5 b6 HB5
      go_upto_region 7 with fail
      have v7 : Below w6.heap.size w6 (w6.alloc (.cells #[.bool inter, uv tsn, hv st, uv sq, uv pr, .bool bg, .bool en, .bool un, .bool nw, .slice A5 us.length c5] 34)) := (Below.refl _ _).alloc (Nat.le_refl _) _
      have y7 := Whole.new w6 34 #[.bool inter, uv tsn, hv st, uv sq, uv pr, .bool bg, .bool en, .bool un, .bool nw, .slice A5 us.length c5]
      have z7 := z6.below v7 z6.lt
      have x7 := x6.below v7 x6.lt
      have C7 := C6.on v7
      have P7 := P6.on v7
      have HB7 := Lib.hid (HB6.out.trans (v7.mono HB6.out.size))
      have hy7 := y7.lt
      have hz7 := z7.lt
      have hx7 := x7.lt
      generalize w6.alloc (.cells #[.bool inter, uv tsn, hv st, uv sq, uv pr, .bool bg, .bool en, .bool un, .bool nw, .slice A5 us.length c5] 34) = w7 at *
      generalize w6.heap.size = g7 at *
      clear v7 z6 x6 C6 P6 HB6
      have KS : Hid (∀ W, Below w7.heap.size w7 W → (W.cell? ⟨g4, 0, none⟩ = some (bv ty) ∧ W.cell? ⟨g4, 1, none⟩ = some (bv fl) ∧ W.cell? ⟨g4, 2, none⟩ = some (.slice A3 bs.length c3) ∧ W.cell? ⟨g4, 3, none⟩ = some (.slice none 0 0)) ∧ (W.cell? ⟨w.heap.size, 0, none⟩ = some (.bool inter) ∧ W.cell? ⟨w.heap.size, 1, none⟩ = some (uv tsn) ∧ W.cell? ⟨w.heap.size, 2, none⟩ = some (hv st) ∧ W.cell? ⟨w.heap.size, 3, none⟩ = some (uv sq) ∧ W.cell? ⟨w.heap.size, 4, none⟩ = some (uv pr) ∧ W.cell? ⟨w.heap.size, 5, none⟩ = some (.bool bg) ∧ W.cell? ⟨w.heap.size, 6, none⟩ = some (.bool en) ∧ W.cell? ⟨w.heap.size, 7, none⟩ = some (.bool un) ∧ W.cell? ⟨w.heap.size, 8, none⟩ = some (.bool nw) ∧ W.cell? ⟨w.heap.size, 9, none⟩ = some (.slice A us.length c)) ∧ (W.cell? ⟨g7, 0, none⟩ = some (.bool inter) ∧ W.cell? ⟨g7, 1, none⟩ = some (uv tsn) ∧ W.cell? ⟨g7, 2, none⟩ = some (hv st) ∧ W.cell? ⟨g7, 3, none⟩ = some (uv sq) ∧ W.cell? ⟨g7, 4, none⟩ = some (uv pr) ∧ W.cell? ⟨g7, 5, none⟩ = some (.bool bg) ∧ W.cell? ⟨g7, 6, none⟩ = some (.bool en) ∧ W.cell? ⟨g7, 7, none⟩ = some (.bool un) ∧ W.cell? ⟨g7, 8, none⟩ = some (.bool nw) ∧ W.cell? ⟨g7, 9, none⟩ = some (.slice A5 us.length c5))) := fun W hW => ⟨wh4 (z7.below hW hz7), (x7.below hW hx7).cs10, (y7.below hW hy7).cs10⟩
      go_upto_region 9 with fail
      refine wp_region_held_drew (S := (fun W => (W.cell? ⟨g4, 0, none⟩ = some (bv ty) ∧ W.cell? ⟨g4, 1, none⟩ = some (bv fl) ∧ W.cell? ⟨g4, 2, none⟩ = some (.slice A3 bs.length c3) ∧ W.cell? ⟨g4, 3, none⟩ = some (.slice none 0 0)) ∧ (W.cell? ⟨w.heap.size, 0, none⟩ = some (.bool inter) ∧ W.cell? ⟨w.heap.size, 1, none⟩ = some (uv tsn) ∧ W.cell? ⟨w.heap.size, 2, none⟩ = some (hv st) ∧ W.cell? ⟨w.heap.size, 3, none⟩ = some (uv sq) ∧ W.cell? ⟨w.heap.size, 4, none⟩ = some (uv pr) ∧ W.cell? ⟨w.heap.size, 5, none⟩ = some (.bool bg) ∧ W.cell? ⟨w.heap.size, 6, none⟩ = some (.bool en) ∧ W.cell? ⟨w.heap.size, 7, none⟩ = some (.bool un) ∧ W.cell? ⟨w.heap.size, 8, none⟩ = some (.bool nw) ∧ W.cell? ⟨w.heap.size, 9, none⟩ = some (.slice A us.length c)) ∧ (W.cell? ⟨g7, 0, none⟩ = some (.bool inter) ∧ W.cell? ⟨g7, 1, none⟩ = some (uv tsn) ∧ W.cell? ⟨g7, 2, none⟩ = some (hv st) ∧ W.cell? ⟨g7, 3, none⟩ = some (uv sq) ∧ W.cell? ⟨g7, 4, none⟩ = some (uv pr) ∧ W.cell? ⟨g7, 5, none⟩ = some (.bool bg) ∧ W.cell? ⟨g7, 6, none⟩ = some (.bool en) ∧ W.cell? ⟨g7, 7, none⟩ = some (.bool un) ∧ W.cell? ⟨g7, 8, none⟩ = some (.bool nw) ∧ W.cell? ⟨g7, 9, none⟩ = some (.slice A5 us.length c5)))) (by kernel_rfl) (KS.out _ (below_drew (Below.refl _ _))) (fun hHeld => ?_)
      refine take_at (i := 0) (v := ?_) (some 43) rfl (by kernel_rfl) (by kernel_rfl) (by kernel_rfl) (fun _ _ _ h => h) (by kernel_rfl) (Or.inl ⟨by kernel_rfl, ?_⟩) (by assumption) ?_
      rotate_left
      · (intro w hSw; (try dsimp only at hSw); go_simp <;> with_reducible rfl)
      simp only [Act.put, List.setIfInBounds_toArray, List.set_cons_zero, List.set_cons_succ]
      refine take_at (i := 1) (v := ?_) (some 44) rfl (by kernel_rfl) (by kernel_rfl) (by kernel_rfl) (fun _ _ _ h => h) (by kernel_rfl) (Or.inl ⟨by kernel_rfl, ?_⟩) (by assumption) ?_
      rotate_left
      · (intro w hSw; (try dsimp only at hSw); go_simp <;> with_reducible rfl)
      simp only [Act.put, List.setIfInBounds_toArray, List.set_cons_zero, List.set_cons_succ]
      refine wpAnyH_ready (rs := [2]) (by kernel_rfl) (by simp) ?_
      refine AllReadyH.cons rfl (fun K hK => ?_) AllReadyH.nil
      go_simp
      go_at_call 22; (with_reducible refine (HMk.out _ (below_drew HB7.out)).mono ?_); rintro e w8 ⟨A8, c8, rfl, C8, b8⟩; have R8 : Below w7.heap.size w7 w8 := below_undrew13 b8; have D8 := C7.on R8
      go_wp2_with fail
      clear hHeld
      refine hK.out _ _ (KS.out _ R8) (fun hHeld => ?_)
      clear hK K
      try simp only [Act.put, List.setIfInBounds_toArray, List.set_cons_zero, List.set_cons_succ]
      refine wpAnyH_ready (rs := [3]) (by kernel_rfl) (by simp) ?_
      refine AllReadyH.cons rfl (fun K hK => ?_) AllReadyH.nil
      go_simp
      go_at_call 20; (with_reducible refine (HSm.out _ _ _ _ _ D8 C8).mono ?_); rintro e w9 ⟨rfl, b9⟩; have R9 : Below w7.heap.size w7 w9 := R8.trans (b9.mono R8.size)
      go_wp2_with fail
      clear hHeld
      refine hK.out _ _ (KS.out _ R9) (fun hHeld => ?_)
      clear hK K
      try simp only [Act.put, List.setIfInBounds_toArray, List.set_cons_zero, List.set_cons_succ]
      refine take_at (i := 4) (v := ?_) (some 47) rfl (by kernel_rfl) (by kernel_rfl) (by kernel_rfl) (fun _ _ _ h => h) (by kernel_rfl) (Or.inl ⟨by kernel_rfl, ?_⟩) (by assumption) ?_
      rotate_left
      · (intro w hSw; (try dsimp only at hSw); go_simp <;> with_reducible rfl)
      simp only [Act.put, List.setIfInBounds_toArray, List.set_cons_zero, List.set_cons_succ]
      refine take_at (i := 5) (v := ?_) (some 48) rfl (by kernel_rfl) (by kernel_rfl) (by kernel_rfl) (fun _ _ _ h => h) (by kernel_rfl) (Or.inl ⟨by kernel_rfl, ?_⟩) (by assumption) ?_
      rotate_left
      · (intro w hSw; (try dsimp only at hSw); go_simp <;> with_reducible rfl)
      simp only [Act.put, List.setIfInBounds_toArray, List.set_cons_zero, List.set_cons_succ]
      refine take_at (i := 6) (v := ?_) (some 49) rfl (by kernel_rfl) (by kernel_rfl) (by kernel_rfl) (fun _ _ _ h => h) (by kernel_rfl) (Or.inl ⟨by kernel_rfl, ?_⟩) (by assumption) ?_
      rotate_left
      · (intro w hSw; (try dsimp only at hSw); go_simp <;> with_reducible rfl)
      simp only [Act.put, List.setIfInBounds_toArray, List.set_cons_zero, List.set_cons_succ]
      refine take_at (i := 7) (v := ?_) (some 50) rfl (by kernel_rfl) (by kernel_rfl) (by kernel_rfl) (fun _ _ _ h => h) (by kernel_rfl) (Or.inl ⟨by kernel_rfl, ?_⟩) (by assumption) ?_
      rotate_left
      · (intro w hSw; (try dsimp only at hSw); go_simp <;> with_reducible rfl)
      simp only [Act.put, List.setIfInBounds_toArray, List.set_cons_zero, List.set_cons_succ]
      refine take_at (i := 8) (v := ?_) (some 51) rfl (by kernel_rfl) (by kernel_rfl) (by kernel_rfl) (fun _ _ _ h => h) (by kernel_rfl) (Or.inl ⟨by kernel_rfl, ?_⟩) (by assumption) ?_
      rotate_left
      · (intro w hSw; (try dsimp only at hSw); go_simp <;> with_reducible rfl)
      simp only [Act.put, List.setIfInBounds_toArray, List.set_cons_zero, List.set_cons_succ]
      refine take_at (i := 9) (v := ?_) (some 52) rfl (by kernel_rfl) (by kernel_rfl) (by kernel_rfl) (fun _ _ _ h => h) (by kernel_rfl) (Or.inl ⟨by kernel_rfl, ?_⟩) (by assumption) ?_
      rotate_left
      · (intro w hSw; (try dsimp only at hSw); go_simp <;> with_reducible rfl)
      simp only [Act.put, List.setIfInBounds_toArray, List.set_cons_zero, List.set_cons_succ]
      refine wpAnyH_ready (rs := [10]) (by kernel_rfl) (by simp) ?_
      refine AllReadyH.cons rfl (fun K hK => ?_) AllReadyH.nil
      go_simp
      go_at_call 21; (with_reducible refine (HSp.out _ _ _ (HB7.out.trans (R9.mono HB7.out.size)) (P7.on R9)).mono ?_); rintro e w10 ⟨rfl, b10⟩; have R10 : Below w7.heap.size w7 w10 := R9.trans (b10.mono R9.size)
      go_wp2_with fail
      clear hHeld
      refine hK.out _ _ (KS.out _ R10) (fun hHeld => ?_)
      clear hK K
      try simp only [Act.put, List.setIfInBounds_toArray, List.set_cons_zero, List.set_cons_succ]
      refine take_at (i := 11) (v := ?_) (some 54) rfl (by kernel_rfl) (by kernel_rfl) (by kernel_rfl) (fun _ _ _ h => h) (by kernel_rfl) (Or.inl ⟨by kernel_rfl, ?_⟩) (by assumption) ?_
      rotate_left
      · (intro w hSw; (try dsimp only at hSw); go_simp <;> with_reducible rfl)
      simp only [Act.put, List.setIfInBounds_toArray, List.set_cons_zero, List.set_cons_succ]
      refine take_at (i := 12) (v := ?_) (some 55) rfl (by kernel_rfl) (by kernel_rfl) (by kernel_rfl) (fun _ _ _ h => h) (by kernel_rfl) (Or.inl ⟨by kernel_rfl, ?_⟩) (by assumption) ?_
      rotate_left
      · (intro w hSw; (try dsimp only at hSw); go_simp <;> with_reducible rfl)
      simp only [Act.put, List.setIfInBounds_toArray, List.set_cons_zero, List.set_cons_succ]
      refine take_at (i := 13) (v := ?_) (some 56) rfl (by kernel_rfl) (by kernel_rfl) (by kernel_rfl) (fun _ _ _ h => h) (by kernel_rfl) (Or.inl ⟨by kernel_rfl, ?_⟩) (by assumption) ?_
      rotate_left
      · (intro w hSw; (try dsimp only at hSw); go_simp <;> with_reducible rfl)
      simp only [Act.put, List.setIfInBounds_toArray, List.set_cons_zero, List.set_cons_succ]
      refine wpAnyH_ready (rs := [14]) (by kernel_rfl) (by simp) ?_
      refine AllReadyH.cons rfl (fun K hK => ?_) AllReadyH.nil
      go_simp
      go_at_call 23; (with_reducible refine (HCk.out _ _ _ (HB7.out.trans (R10.mono HB7.out.size)) (C7.on R10)).mono ?_); rintro e w11 ⟨rfl, b11⟩; have R11 : Below w7.heap.size w7 w11 := R10.trans (b11.mono R10.size)
      go_wp2_with fail
      clear hHeld
      refine hK.out _ _ (KS.out _ R11) (fun hHeld => ?_)
      clear hK K
      try simp only [Act.put, List.setIfInBounds_toArray, List.set_cons_zero, List.set_cons_succ]
      refine take_at (i := 15) (v := ?_) (some 58) rfl (by kernel_rfl) (by kernel_rfl) (by kernel_rfl) (fun _ _ _ h => h) (by kernel_rfl) (Or.inl ⟨by kernel_rfl, ?_⟩) (by assumption) ?_
      rotate_left
      · (intro w hSw; (try dsimp only at hSw); go_simp <;> with_reducible rfl)
      simp only [Act.put, List.setIfInBounds_toArray, List.set_cons_zero, List.set_cons_succ]
      refine take_at (i := 16) (v := ?_) (some 59) rfl (by kernel_rfl) (by kernel_rfl) (by kernel_rfl) (fun _ _ _ h => h) (by kernel_rfl) (Or.inl ⟨by kernel_rfl, ?_⟩) (by assumption) ?_
      rotate_left
      · (intro w hSw; (try dsimp only at hSw); go_simp <;> with_reducible rfl)
      simp only [Act.put, List.setIfInBounds_toArray, List.set_cons_zero, List.set_cons_succ]
      refine take_at (i := 17) (v := ?_) (some 2) rfl (by kernel_rfl) (by kernel_rfl) (by kernel_rfl) (fun _ _ _ h => h) (by kernel_rfl) (Or.inl ⟨by kernel_rfl, ?_⟩) (by assumption) ?_
      rotate_left
      · (intro w hSw; (try dsimp only at hSw); go_simp <;> with_reducible rfl)
      simp only [Act.put, List.setIfInBounds_toArray, List.set_cons_zero, List.set_cons_succ]
      refine wpAnyH_done (by kernel_rfl) ?_ _
      go_wp2_with fail
      go_ret
      exact ⟨rfl, HB7.out.trans (R11.mono HB7.out.size)⟩
set_option maxRecDepth 100000 in
theorem law_DataMatchesReference {H : Type} {enc : TypeId × Value → H} {W : World} {base : Nat} {v0 : Value} {d0 : DataW H} {p0 : List MemPlace}
    (o0 : Value.okWide Tryz.prog W .any base 26 v0) (h0 : DataW.Trod enc Tryz.prog W 0 (fun _ => true) true 26 v0 d0 p0) (_s0 : Small Tryz.prog 26 d0) (hL : laidMetH Tryz.prog laidL W) :
    Calls Tryz.prog 3 #[v0] W fun e w' => e = .returned (.bool true) ∧ Below W.heap.size W w' := by
  obtain ⟨p, A, c, rfl, hp⟩ := open_part o0 h0
  exact dmr_law p A c W hp (handle_of_laid hL)
end Go.Proofs.YtdcppcoldaaldaaGreatDoor

