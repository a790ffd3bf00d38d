/- Layer 18: the law AsconfReads (written by tools/gen_asc_t.py). It writes nothing that was there. -/
import Derived.Test.YteknmgmdmjmnmaaGreatDoorUAscS
import Derived.BigGuard


namespace Go.Proofs.YteknmgmdmjmnmaaGreatDoor
open Go.ChangeShapes Go.WideShapes Go.ChangeAt Go.RowKit

set_option linter.unusedSimpArgs false
theorem fewC_fine18 {x : Ck} (h : fewB x = true) : CkFine x := (ck_fine h).1
set_option maxRecDepth 100000 in
set_option maxHeartbeats 16000000 in
theorem reads_law18 (n : Nd) (x : Ck) (hbn : Bnd n) (hbx : ∀ m ∈ x.ks, Bnd m) (A : Option Addr) (c : Nat) (K : Option Addr) (k : Nat) (A' : Option Addr) (c' : Nat) (K' : Option Addr) (k' : Nat) (w : World) (hn : Node w w.heap.size A c K k n) (hx : Chunk w w.heap.size A' c' K' k' x) (hxl : x.ks.length ≤ 9223372036854775807) (hh : Handle w) (hT : Tbl w) :
    Calls Tryz.prog 7 #[ndV n A c K k, ckV x A' c' K' k'] w fun e w' => e = .returned (.bool true) ∧ Below w.heap.size w w' := by
  have b0 : Below w.heap.size w ((w.alloc (.cells #[hv n.t, .slice A n.v.length c, .slice K n.ks.length k] 51)).alloc (.cells (ckCells x A' c' K' k') 62)) := ((Below.refl _ w).alloc (Nat.le_refl _) _).alloc (by simp) _
  have x0 := (Whole.new w 51 #[hv n.t, .slice A n.v.length c, .slice K n.ks.length k]).alloc (.cells (ckCells x A' c' K' k') 62)
  have y0 := Whole.new (w.alloc (.cells #[hv n.t, .slice A n.v.length c, .slice K n.ks.length k] 51)) 62 (ckCells x A' c' K' k')
  rw [World.size_alloc] at y0
  have hz0 : w.heap.size + 1 < ((w.alloc (.cells #[hv n.t, .slice A n.v.length c, .slice K n.ks.length k] 51)).alloc (.cells (ckCells x A' c' K' k') 62)).heap.size := by simp
  have HAW := Lib.hid (fun (V : World) (hb : Below w.heap.size w V) => awake18_any V (hh.below hb hh.lt) (hT.below hb))
  have HFN := Lib.hid (fun (V : World) (hb : Below w.heap.size w V) => few17_any n hbn A c K k V (hn.on hb))
  have HFX := Lib.hid (fun (V : World) (hb : Below w.heap.size w V) => rfew12 x hxl hbx A' c' K' k' V (hx.on hb))
  have HNF : Hid (fewN n = true → Fine n) := Lib.hid (fun h => fewN_fine h)
  have HXF : Hid (fewB x = true → CkFine x) := Lib.hid (fun h => fewC_fine18 h)
  have HID := Lib.hid (fun (hf : fewN n = true) (V : World) (hb : Below w.heap.size w V) => id18_any n (HNF.out hf) A c K k V (hn.on hb))
  have HSR := Lib.hid (fun (hf : fewB x = true) (V : World) (hb : Below w.heap.size w V) => serial18_any x (HXF.out hf) A' c' K' k' V (hx.on hb) (hh.below hb hh.lt))
  have HCH := Lib.hid (fun (hf : fewN n = true) (V : World) (hb : Below w.heap.size w V) => rchg18_any n (HNF.out hf) A c K k V (hn.on hb))
  have HRS := Lib.hid (fun (hf : fewN n = true) (V : World) (hb : Below w.heap.size w V) => rres18_any n (HNF.out hf) A c K k V (hn.on hb))
  have HRQ := Lib.hid (fun (hf : fewB x = true) (V : World) (hb : Below w.heap.size w V) => rreq18_any x (HXF.out hf) A' c' K' k' V (hx.on hb))
  have HRA := Lib.hid (fun (hf : fewB x = true) (V : World) (hb : Below w.heap.size w V) => rack18_any x (HXF.out hf) A' c' K' k' V (hx.on hb))
  have HN1 : Hid (idB n = true → ∀ V, Below w.heap.size w V → Calls Tryz.prog 37 #[.slice A n.v.length c] V fun e w' => e = .returned (uv (idV n)) ∧ V = w') := Lib.hid (fun hi V hV => by
    have e : idV n = numD n.v := by unfold idV; rw [if_pos hi]
    rw [e]
    exact rnum18_any n.v (idB_len hi) A c V.heap.size V (hn.on hV).data)
  have HN2 : Hid (serB x = true → ∀ V, Below w.heap.size w V → Calls Tryz.prog 37 #[.slice A' x.d.length c'] V fun e w' => e = .returned (uv (serV x)) ∧ V = w') := Lib.hid (fun hi V hV => by
    have e : serV x = numD x.d := by unfold serV; rw [if_pos hi]
    rw [e]
    exact rnum18_any x.d (serB_len hi) A' c' V.heap.size V (hx.on hV).data)
  have HI1 : Hid (idB n = (chgB n || resB n)) := Lib.hid rfl
  have HI2 : Hid (serB x = (reqB x || ackB x)) := Lib.hid rfl
  have HI3 : Hid (idB n = false → idV n = 0) := Lib.hid (fun h => by unfold idV; rw [h]; rfl)
  have HI4 : Hid (serB x = false → serV x = 0) := Lib.hid (fun h => by unfold serV; rw [h]; rfl)
  clear hn hx hbn hbx hxl hh hT HNF HXF
  unfold ndV at HID HCH HRS ⊢
  generalize fewN n = fn at *
  generalize fewB x = fx at *
  generalize idB n = ib at *
  generalize idV n = iv at *
  generalize serB x = sb at *
  generalize serV x = sv at *
  generalize chgB n = cb at *
  generalize resB n = rb at *
  generalize reqB x = qb at *
  generalize ackB x = ab at *
  generalize n.v.length = lv at *
  generalize n.ks.length = lk at *
  generalize n.t = tn at *
  obtain ⟨t, fl, d, ks⟩ := x
  simp only [ckV, ckCells] at *
  generalize d.length = ld at *
  generalize ks.length = lks at *
  go_enter Tryz.func7, Tryz.ntmps7
  go_upto_region 1 with fail
  generalize (w.alloc (.cells #[hv tn, .slice A lv c, .slice K lk k] 51)).alloc (.cells #[bv t, bv fl, .slice A' ld c', .slice K' lks k'] 62) = w0 at *
  have B0 := b0
  clear b0 hz0
  obtain ⟨p0, p1, p2⟩ := wh318 x0
  obtain ⟨r0, r1, r2, r3⟩ := wh4 y0
  have H1 := Lib.hid (HAW.out w0 B0)
  go_wp2_with fail
  refine H1.out.mono ?_
  rintro e w1 ⟨rfl, b1⟩
  have B1 := B0.trans (b1.mono B0.size)
  have x1 := x0.below b1 x0.lt
  have y1 := y0.below b1 y0.lt
  clear H1 p0 p1 p2 r0 r1 r2 r3 x0 y0 B0 b1
  obtain ⟨p0, p1, p2⟩ := wh318 x1
  obtain ⟨r0, r1, r2, r3⟩ := wh4 y1
  have HF1 := Lib.hid (HFN.out w1 B1)
  clear HFN
  cases fn with
  | false =>
    go_wp2_with fail
    refine HF1.out.mono ?_
    rintro e w2 ⟨rfl, b2⟩
    have B2 := B1.trans (b2.mono B1.size)
    have HW := Lib.hid (HAW.out w2 B2)
    clear HF1
    go_wp2_with fail
    refine HW.out.mono ?_
    rintro e w3 ⟨rfl, b3⟩
    have HBF := Lib.hid (B2.trans (b3.mono B2.size))
    clear HW
    go_wp2_with fail
    go_ret
    exact ⟨rfl, HBF.out⟩
  | true =>
    go_wp2_with fail
    refine HF1.out.mono ?_
    rintro e w2 ⟨rfl, b2⟩
    have B2 := B1.trans (b2.mono B1.size)
    have x2 := x1.below b2 x1.lt
    have y2 := y1.below b2 y1.lt
    clear HF1 p0 p1 p2 r0 r1 r2 r3 x1 y1 B1 b2
    obtain ⟨p0, p1, p2⟩ := wh318 x2
    obtain ⟨r0, r1, r2, r3⟩ := wh4 y2
    have HF1 := Lib.hid (HFX.out w2 B2)
    clear HFX
    cases fx with
    | false =>
      go_wp2_with fail
      refine HF1.out.mono ?_
      rintro e w3 ⟨rfl, b3⟩
      have B3 := B2.trans (b3.mono B2.size)
      have HW := Lib.hid (HAW.out w3 B3)
      clear HF1
      go_wp2_with fail
      refine HW.out.mono ?_
      rintro e w4 ⟨rfl, b4⟩
      have HBF := Lib.hid (B3.trans (b4.mono B3.size))
      clear HW
      go_wp2_with fail
      go_ret
      exact ⟨rfl, HBF.out⟩
    | true =>
      go_wp2_with fail
      refine HF1.out.mono ?_
      rintro e w3 ⟨rfl, b3⟩
      have B3 := B2.trans (b3.mono B2.size)
      have x3 := x2.below b3 x2.lt
      have y3 := y2.below b3 y2.lt
      clear HF1 p0 p1 p2 r0 r1 r2 r3 x2 y2 B2 b3
      obtain ⟨p0, p1, p2⟩ := wh318 x3
      obtain ⟨r0, r1, r2, r3⟩ := wh4 y3
      go_upto_region 3 with fail
      have H1 := Lib.hid (HID.out (by trivial) w3 B3)
      clear HID HAW
      go_wp2_with fail
      refine H1.out.mono ?_
      rintro e w4 ⟨rfl, b4⟩
      have B4 := B3.trans (b4.mono B3.size)
      have x4 := x3.below b4 x3.lt
      have y4 := y3.below b4 y3.lt
      clear H1 p0 p1 p2 r0 r1 r2 r3 x3 y3 B3 b4
      obtain ⟨p0, p1, p2⟩ := wh318 x4
      obtain ⟨r0, r1, r2, r3⟩ := wh4 y4
      go_upto_region 4 with fail
      have H1 := Lib.hid (HSR.out (by trivial) w4 B4)
      clear HSR
      go_wp2_with fail
      refine H1.out.mono ?_
      rintro e w5 ⟨rfl, b5⟩
      have B5 := B4.trans (b5.mono B4.size)
      have x5 := x4.below b5 x4.lt
      have y5 := y4.below b5 y4.lt
      clear H1 p0 p1 p2 r0 r1 r2 r3 x4 y4 B4 b5
      obtain ⟨p0, p1, p2⟩ := wh318 x5
      obtain ⟨r0, r1, r2, r3⟩ := wh4 y5
      go_upto_region 5 with fail
      cases cb with
      | true =>
        cases qb with
        | true =>
          obtain rfl : ib = true := by rw [HI1.out]; rfl
          obtain rfl : sb = true := by rw [HI2.out]; rfl
          have e1 : ((iv.toNat : Int) == (iv.toNat : Int)) = true := by simp
          have e2 : ((sv.toNat : Int) == (sv.toNat : Int)) = true := by simp
          have H1 := Lib.hid (HCH.out (by trivial) w5 B5)
          go_wp2_with fail
          refine H1.out.mono ?_
          rintro e w6 ⟨rfl, b6⟩
          have B6 := B5.trans (b6.mono B5.size)
          have x6 := x5.below b6 x5.lt
          have y6 := y5.below b6 y5.lt
          clear H1 p0 p1 p2 r0 r1 r2 r3 x5 y5 B5 b6
          obtain ⟨p0, p1, p2⟩ := wh318 x6
          obtain ⟨r0, r1, r2, r3⟩ := wh4 y6
          have H1 := Lib.hid (HRQ.out (by trivial) w6 B6)
          go_wp2_with fail
          refine H1.out.mono ?_
          rintro e w7 ⟨rfl, b7⟩
          have B7 := B6.trans (b7.mono B6.size)
          have x7 := x6.below b7 x6.lt
          have y7 := y6.below b7 y6.lt
          clear H1 p0 p1 p2 r0 r1 r2 r3 x6 y6 B6 b7
          obtain ⟨p0, p1, p2⟩ := wh318 x7
          obtain ⟨r0, r1, r2, r3⟩ := wh4 y7
          clear HCH HRS HRQ HRA
          have H1 := Lib.hid (HN1.out (by trivial) w7 B7)
          have H2 := Lib.hid (HN2.out (by trivial) w7 B7)
          clear HN1 HN2
          go_wp2_with fail
          refine H1.out.mono ?_
          rintro e w8 ⟨rfl, rfl⟩
          clear H1
          go_wp2_with fail
          refine H2.out.mono ?_
          rintro e w8 ⟨rfl, rfl⟩
          clear H2
          have HBF := Lib.hid B7
          clear B7
          go_wp2_with fail
          go_ret
          exact ⟨rfl, HBF.out⟩
        | false =>
          cases ab with
          | true =>
            obtain rfl : ib = true := by rw [HI1.out]; rfl
            obtain rfl : sb = true := by rw [HI2.out]; rfl
            have e1 : ((iv.toNat : Int) == (iv.toNat : Int)) = true := by simp
            have e2 : ((sv.toNat : Int) == (sv.toNat : Int)) = true := by simp
            have H1 := Lib.hid (HCH.out (by trivial) w5 B5)
            go_wp2_with fail
            refine H1.out.mono ?_
            rintro e w6 ⟨rfl, b6⟩
            have B6 := B5.trans (b6.mono B5.size)
            have x6 := x5.below b6 x5.lt
            have y6 := y5.below b6 y5.lt
            clear H1 p0 p1 p2 r0 r1 r2 r3 x5 y5 B5 b6
            obtain ⟨p0, p1, p2⟩ := wh318 x6
            obtain ⟨r0, r1, r2, r3⟩ := wh4 y6
            have H1 := Lib.hid (HRQ.out (by trivial) w6 B6)
            go_wp2_with fail
            refine H1.out.mono ?_
            rintro e w7 ⟨rfl, b7⟩
            have B7 := B6.trans (b7.mono B6.size)
            have x7 := x6.below b7 x6.lt
            have y7 := y6.below b7 y6.lt
            clear H1 p0 p1 p2 r0 r1 r2 r3 x6 y6 B6 b7
            obtain ⟨p0, p1, p2⟩ := wh318 x7
            obtain ⟨r0, r1, r2, r3⟩ := wh4 y7
            have H1 := Lib.hid (HRA.out (by trivial) w7 B7)
            go_wp2_with fail
            refine H1.out.mono ?_
            rintro e w8 ⟨rfl, b8⟩
            have B8 := B7.trans (b8.mono B7.size)
            have x8 := x7.below b8 x7.lt
            have y8 := y7.below b8 y7.lt
            clear H1 p0 p1 p2 r0 r1 r2 r3 x7 y7 B7 b8
            obtain ⟨p0, p1, p2⟩ := wh318 x8
            obtain ⟨r0, r1, r2, r3⟩ := wh4 y8
            clear HCH HRS HRQ HRA
            have H1 := Lib.hid (HN1.out (by trivial) w8 B8)
            have H2 := Lib.hid (HN2.out (by trivial) w8 B8)
            clear HN1 HN2
            go_wp2_with fail
            refine H1.out.mono ?_
            rintro e w9 ⟨rfl, rfl⟩
            clear H1
            go_wp2_with fail
            refine H2.out.mono ?_
            rintro e w9 ⟨rfl, rfl⟩
            clear H2
            have HBF := Lib.hid B8
            clear B8
            go_wp2_with fail
            go_ret
            exact ⟨rfl, HBF.out⟩
          | false =>
            obtain rfl : ib = true := by rw [HI1.out]; rfl
            obtain rfl : sb = false := by rw [HI2.out]; rfl
            obtain rfl : sv = 0 := HI4.out (by trivial)
            have e1 : ((iv.toNat : Int) == (iv.toNat : Int)) = true := by simp
            have e3 : (((0 : UInt32).toNat : Int) == 0) = true := rfl
            have H1 := Lib.hid (HCH.out (by trivial) w5 B5)
            go_wp2_with fail
            refine H1.out.mono ?_
            rintro e w6 ⟨rfl, b6⟩
            have B6 := B5.trans (b6.mono B5.size)
            have x6 := x5.below b6 x5.lt
            have y6 := y5.below b6 y5.lt
            clear H1 p0 p1 p2 r0 r1 r2 r3 x5 y5 B5 b6
            obtain ⟨p0, p1, p2⟩ := wh318 x6
            obtain ⟨r0, r1, r2, r3⟩ := wh4 y6
            have H1 := Lib.hid (HRQ.out (by trivial) w6 B6)
            go_wp2_with fail
            refine H1.out.mono ?_
            rintro e w7 ⟨rfl, b7⟩
            have B7 := B6.trans (b7.mono B6.size)
            have x7 := x6.below b7 x6.lt
            have y7 := y6.below b7 y6.lt
            clear H1 p0 p1 p2 r0 r1 r2 r3 x6 y6 B6 b7
            obtain ⟨p0, p1, p2⟩ := wh318 x7
            obtain ⟨r0, r1, r2, r3⟩ := wh4 y7
            have H1 := Lib.hid (HRA.out (by trivial) w7 B7)
            go_wp2_with fail
            refine H1.out.mono ?_
            rintro e w8 ⟨rfl, b8⟩
            have B8 := B7.trans (b8.mono B7.size)
            have x8 := x7.below b8 x7.lt
            have y8 := y7.below b8 y7.lt
            clear H1 p0 p1 p2 r0 r1 r2 r3 x7 y7 B7 b8
            obtain ⟨p0, p1, p2⟩ := wh318 x8
            obtain ⟨r0, r1, r2, r3⟩ := wh4 y8
            clear HCH HRS HRQ HRA
            have H1 := Lib.hid (HN1.out (by trivial) w8 B8)
            clear HN1 HN2
            go_wp2_with fail
            refine H1.out.mono ?_
            rintro e w9 ⟨rfl, rfl⟩
            clear H1
            have HBF := Lib.hid B8
            clear B8
            go_wp2_with fail
            go_ret
            exact ⟨rfl, HBF.out⟩
      | false =>
        cases rb with
        | true =>
          cases qb with
          | true =>
            obtain rfl : ib = true := by rw [HI1.out]; rfl
            obtain rfl : sb = true := by rw [HI2.out]; rfl
            have e1 : ((iv.toNat : Int) == (iv.toNat : Int)) = true := by simp
            have e2 : ((sv.toNat : Int) == (sv.toNat : Int)) = true := by simp
            have H1 := Lib.hid (HCH.out (by trivial) w5 B5)
            go_wp2_with fail
            refine H1.out.mono ?_
            rintro e w6 ⟨rfl, b6⟩
            have B6 := B5.trans (b6.mono B5.size)
            have x6 := x5.below b6 x5.lt
            have y6 := y5.below b6 y5.lt
            clear H1 p0 p1 p2 r0 r1 r2 r3 x5 y5 B5 b6
            obtain ⟨p0, p1, p2⟩ := wh318 x6
            obtain ⟨r0, r1, r2, r3⟩ := wh4 y6
            have H1 := Lib.hid (HRS.out (by trivial) w6 B6)
            go_wp2_with fail
            refine H1.out.mono ?_
            rintro e w7 ⟨rfl, b7⟩
            have B7 := B6.trans (b7.mono B6.size)
            have x7 := x6.below b7 x6.lt
            have y7 := y6.below b7 y6.lt
            clear H1 p0 p1 p2 r0 r1 r2 r3 x6 y6 B6 b7
            obtain ⟨p0, p1, p2⟩ := wh318 x7
            obtain ⟨r0, r1, r2, r3⟩ := wh4 y7
            have H1 := Lib.hid (HRQ.out (by trivial) w7 B7)
            go_wp2_with fail
            refine H1.out.mono ?_
            rintro e w8 ⟨rfl, b8⟩
            have B8 := B7.trans (b8.mono B7.size)
            have x8 := x7.below b8 x7.lt
            have y8 := y7.below b8 y7.lt
            clear H1 p0 p1 p2 r0 r1 r2 r3 x7 y7 B7 b8
            obtain ⟨p0, p1, p2⟩ := wh318 x8
            obtain ⟨r0, r1, r2, r3⟩ := wh4 y8
            clear HCH HRS HRQ HRA
            have H1 := Lib.hid (HN1.out (by trivial) w8 B8)
            have H2 := Lib.hid (HN2.out (by trivial) w8 B8)
            clear HN1 HN2
            go_wp2_with fail
            refine H1.out.mono ?_
            rintro e w9 ⟨rfl, rfl⟩
            clear H1
            go_wp2_with fail
            refine H2.out.mono ?_
            rintro e w9 ⟨rfl, rfl⟩
            clear H2
            have HBF := Lib.hid B8
            clear B8
            go_wp2_with fail
            go_ret
            exact ⟨rfl, HBF.out⟩
          | false =>
            cases ab with
            | true =>
              obtain rfl : ib = true := by rw [HI1.out]; rfl
              obtain rfl : sb = true := by rw [HI2.out]; rfl
              have e1 : ((iv.toNat : Int) == (iv.toNat : Int)) = true := by simp
              have e2 : ((sv.toNat : Int) == (sv.toNat : Int)) = true := by simp
              have H1 := Lib.hid (HCH.out (by trivial) w5 B5)
              go_wp2_with fail
              refine H1.out.mono ?_
              rintro e w6 ⟨rfl, b6⟩
              have B6 := B5.trans (b6.mono B5.size)
              have x6 := x5.below b6 x5.lt
              have y6 := y5.below b6 y5.lt
              clear H1 p0 p1 p2 r0 r1 r2 r3 x5 y5 B5 b6
              obtain ⟨p0, p1, p2⟩ := wh318 x6
              obtain ⟨r0, r1, r2, r3⟩ := wh4 y6
              have H1 := Lib.hid (HRS.out (by trivial) w6 B6)
              go_wp2_with fail
              refine H1.out.mono ?_
              rintro e w7 ⟨rfl, b7⟩
              have B7 := B6.trans (b7.mono B6.size)
              have x7 := x6.below b7 x6.lt
              have y7 := y6.below b7 y6.lt
              clear H1 p0 p1 p2 r0 r1 r2 r3 x6 y6 B6 b7
              obtain ⟨p0, p1, p2⟩ := wh318 x7
              obtain ⟨r0, r1, r2, r3⟩ := wh4 y7
              have H1 := Lib.hid (HRQ.out (by trivial) w7 B7)
              go_wp2_with fail
              refine H1.out.mono ?_
              rintro e w8 ⟨rfl, b8⟩
              have B8 := B7.trans (b8.mono B7.size)
              have x8 := x7.below b8 x7.lt
              have y8 := y7.below b8 y7.lt
              clear H1 p0 p1 p2 r0 r1 r2 r3 x7 y7 B7 b8
              obtain ⟨p0, p1, p2⟩ := wh318 x8
              obtain ⟨r0, r1, r2, r3⟩ := wh4 y8
              have H1 := Lib.hid (HRA.out (by trivial) w8 B8)
              go_wp2_with fail
              refine H1.out.mono ?_
              rintro e w9 ⟨rfl, b9⟩
              have B9 := B8.trans (b9.mono B8.size)
              have x9 := x8.below b9 x8.lt
              have y9 := y8.below b9 y8.lt
              clear H1 p0 p1 p2 r0 r1 r2 r3 x8 y8 B8 b9
              obtain ⟨p0, p1, p2⟩ := wh318 x9
              obtain ⟨r0, r1, r2, r3⟩ := wh4 y9
              clear HCH HRS HRQ HRA
              have H1 := Lib.hid (HN1.out (by trivial) w9 B9)
              have H2 := Lib.hid (HN2.out (by trivial) w9 B9)
              clear HN1 HN2
              go_wp2_with fail
              refine H1.out.mono ?_
              rintro e w10 ⟨rfl, rfl⟩
              clear H1
              go_wp2_with fail
              refine H2.out.mono ?_
              rintro e w10 ⟨rfl, rfl⟩
              clear H2
              have HBF := Lib.hid B9
              clear B9
              go_wp2_with fail
              go_ret
              exact ⟨rfl, HBF.out⟩
            | false =>
              obtain rfl : ib = true := by rw [HI1.out]; rfl
              obtain rfl : sb = false := by rw [HI2.out]; rfl
              obtain rfl : sv = 0 := HI4.out (by trivial)
              have e1 : ((iv.toNat : Int) == (iv.toNat : Int)) = true := by simp
              have e3 : (((0 : UInt32).toNat : Int) == 0) = true := rfl
              have H1 := Lib.hid (HCH.out (by trivial) w5 B5)
              go_wp2_with fail
              refine H1.out.mono ?_
              rintro e w6 ⟨rfl, b6⟩
              have B6 := B5.trans (b6.mono B5.size)
              have x6 := x5.below b6 x5.lt
              have y6 := y5.below b6 y5.lt
              clear H1 p0 p1 p2 r0 r1 r2 r3 x5 y5 B5 b6
              obtain ⟨p0, p1, p2⟩ := wh318 x6
              obtain ⟨r0, r1, r2, r3⟩ := wh4 y6
              have H1 := Lib.hid (HRS.out (by trivial) w6 B6)
              go_wp2_with fail
              refine H1.out.mono ?_
              rintro e w7 ⟨rfl, b7⟩
              have B7 := B6.trans (b7.mono B6.size)
              have x7 := x6.below b7 x6.lt
              have y7 := y6.below b7 y6.lt
              clear H1 p0 p1 p2 r0 r1 r2 r3 x6 y6 B6 b7
              obtain ⟨p0, p1, p2⟩ := wh318 x7
              obtain ⟨r0, r1, r2, r3⟩ := wh4 y7
              have H1 := Lib.hid (HRQ.out (by trivial) w7 B7)
              go_wp2_with fail
              refine H1.out.mono ?_
              rintro e w8 ⟨rfl, b8⟩
              have B8 := B7.trans (b8.mono B7.size)
              have x8 := x7.below b8 x7.lt
              have y8 := y7.below b8 y7.lt
              clear H1 p0 p1 p2 r0 r1 r2 r3 x7 y7 B7 b8
              obtain ⟨p0, p1, p2⟩ := wh318 x8
              obtain ⟨r0, r1, r2, r3⟩ := wh4 y8
              have H1 := Lib.hid (HRA.out (by trivial) w8 B8)
              go_wp2_with fail
              refine H1.out.mono ?_
              rintro e w9 ⟨rfl, b9⟩
              have B9 := B8.trans (b9.mono B8.size)
              have x9 := x8.below b9 x8.lt
              have y9 := y8.below b9 y8.lt
              clear H1 p0 p1 p2 r0 r1 r2 r3 x8 y8 B8 b9
              obtain ⟨p0, p1, p2⟩ := wh318 x9
              obtain ⟨r0, r1, r2, r3⟩ := wh4 y9
              clear HCH HRS HRQ HRA
              have H1 := Lib.hid (HN1.out (by trivial) w9 B9)
              clear HN1 HN2
              go_wp2_with fail
              refine H1.out.mono ?_
              rintro e w10 ⟨rfl, rfl⟩
              clear H1
              have HBF := Lib.hid B9
              clear B9
              go_wp2_with fail
              go_ret
              exact ⟨rfl, HBF.out⟩
        | false =>
          cases qb with
          | true =>
            obtain rfl : ib = false := by rw [HI1.out]; rfl
            obtain rfl : iv = 0 := HI3.out (by trivial)
            obtain rfl : sb = true := by rw [HI2.out]; rfl
            have e1 : (((0 : UInt32).toNat : Int) == 0) = true := rfl
            have e2 : ((sv.toNat : Int) == (sv.toNat : Int)) = true := by simp
            have H1 := Lib.hid (HCH.out (by trivial) w5 B5)
            go_wp2_with fail
            refine H1.out.mono ?_
            rintro e w6 ⟨rfl, b6⟩
            have B6 := B5.trans (b6.mono B5.size)
            have x6 := x5.below b6 x5.lt
            have y6 := y5.below b6 y5.lt
            clear H1 p0 p1 p2 r0 r1 r2 r3 x5 y5 B5 b6
            obtain ⟨p0, p1, p2⟩ := wh318 x6
            obtain ⟨r0, r1, r2, r3⟩ := wh4 y6
            have H1 := Lib.hid (HRS.out (by trivial) w6 B6)
            go_wp2_with fail
            refine H1.out.mono ?_
            rintro e w7 ⟨rfl, b7⟩
            have B7 := B6.trans (b7.mono B6.size)
            have x7 := x6.below b7 x6.lt
            have y7 := y6.below b7 y6.lt
            clear H1 p0 p1 p2 r0 r1 r2 r3 x6 y6 B6 b7
            obtain ⟨p0, p1, p2⟩ := wh318 x7
            obtain ⟨r0, r1, r2, r3⟩ := wh4 y7
            have H1 := Lib.hid (HRQ.out (by trivial) w7 B7)
            go_wp2_with fail
            refine H1.out.mono ?_
            rintro e w8 ⟨rfl, b8⟩
            have B8 := B7.trans (b8.mono B7.size)
            have x8 := x7.below b8 x7.lt
            have y8 := y7.below b8 y7.lt
            clear H1 p0 p1 p2 r0 r1 r2 r3 x7 y7 B7 b8
            obtain ⟨p0, p1, p2⟩ := wh318 x8
            obtain ⟨r0, r1, r2, r3⟩ := wh4 y8
            clear HCH HRS HRQ HRA
            have H2 := Lib.hid (HN2.out (by trivial) w8 B8)
            clear HN1 HN2
            go_wp2_with fail
            refine H2.out.mono ?_
            rintro e w9 ⟨rfl, rfl⟩
            clear H2
            have HBF := Lib.hid B8
            clear B8
            go_wp2_with fail
            go_ret
            exact ⟨rfl, HBF.out⟩
          | false =>
            cases ab with
            | true =>
              obtain rfl : ib = false := by rw [HI1.out]; rfl
              obtain rfl : iv = 0 := HI3.out (by trivial)
              obtain rfl : sb = true := by rw [HI2.out]; rfl
              have e1 : (((0 : UInt32).toNat : Int) == 0) = true := rfl
              have e2 : ((sv.toNat : Int) == (sv.toNat : Int)) = true := by simp
              have H1 := Lib.hid (HCH.out (by trivial) w5 B5)
              go_wp2_with fail
              refine H1.out.mono ?_
              rintro e w6 ⟨rfl, b6⟩
              have B6 := B5.trans (b6.mono B5.size)
              have x6 := x5.below b6 x5.lt
              have y6 := y5.below b6 y5.lt
              clear H1 p0 p1 p2 r0 r1 r2 r3 x5 y5 B5 b6
              obtain ⟨p0, p1, p2⟩ := wh318 x6
              obtain ⟨r0, r1, r2, r3⟩ := wh4 y6
              have H1 := Lib.hid (HRS.out (by trivial) w6 B6)
              go_wp2_with fail
              refine H1.out.mono ?_
              rintro e w7 ⟨rfl, b7⟩
              have B7 := B6.trans (b7.mono B6.size)
              have x7 := x6.below b7 x6.lt
              have y7 := y6.below b7 y6.lt
              clear H1 p0 p1 p2 r0 r1 r2 r3 x6 y6 B6 b7
              obtain ⟨p0, p1, p2⟩ := wh318 x7
              obtain ⟨r0, r1, r2, r3⟩ := wh4 y7
              have H1 := Lib.hid (HRQ.out (by trivial) w7 B7)
              go_wp2_with fail
              refine H1.out.mono ?_
              rintro e w8 ⟨rfl, b8⟩
              have B8 := B7.trans (b8.mono B7.size)
              have x8 := x7.below b8 x7.lt
              have y8 := y7.below b8 y7.lt
              clear H1 p0 p1 p2 r0 r1 r2 r3 x7 y7 B7 b8
              obtain ⟨p0, p1, p2⟩ := wh318 x8
              obtain ⟨r0, r1, r2, r3⟩ := wh4 y8
              have H1 := Lib.hid (HRA.out (by trivial) w8 B8)
              go_wp2_with fail
              refine H1.out.mono ?_
              rintro e w9 ⟨rfl, b9⟩
              have B9 := B8.trans (b9.mono B8.size)
              have x9 := x8.below b9 x8.lt
              have y9 := y8.below b9 y8.lt
              clear H1 p0 p1 p2 r0 r1 r2 r3 x8 y8 B8 b9
              obtain ⟨p0, p1, p2⟩ := wh318 x9
              obtain ⟨r0, r1, r2, r3⟩ := wh4 y9
              clear HCH HRS HRQ HRA
              have H2 := Lib.hid (HN2.out (by trivial) w9 B9)
              clear HN1 HN2
              go_wp2_with fail
              refine H2.out.mono ?_
              rintro e w10 ⟨rfl, rfl⟩
              clear H2
              have HBF := Lib.hid B9
              clear B9
              go_wp2_with fail
              go_ret
              exact ⟨rfl, HBF.out⟩
            | false =>
              obtain rfl : ib = false := by rw [HI1.out]; rfl
              obtain rfl : iv = 0 := HI3.out (by trivial)
              obtain rfl : sb = false := by rw [HI2.out]; rfl
              obtain rfl : sv = 0 := HI4.out (by trivial)
              have e1 : (((0 : UInt32).toNat : Int) == 0) = true := rfl
              have e3 : (((0 : UInt32).toNat : Int) == 0) = true := rfl
              have H1 := Lib.hid (HCH.out (by trivial) w5 B5)
              go_wp2_with fail
              refine H1.out.mono ?_
              rintro e w6 ⟨rfl, b6⟩
              have B6 := B5.trans (b6.mono B5.size)
              have x6 := x5.below b6 x5.lt
              have y6 := y5.below b6 y5.lt
              clear H1 p0 p1 p2 r0 r1 r2 r3 x5 y5 B5 b6
              obtain ⟨p0, p1, p2⟩ := wh318 x6
              obtain ⟨r0, r1, r2, r3⟩ := wh4 y6
              have H1 := Lib.hid (HRS.out (by trivial) w6 B6)
              go_wp2_with fail
              refine H1.out.mono ?_
              rintro e w7 ⟨rfl, b7⟩
              have B7 := B6.trans (b7.mono B6.size)
              have x7 := x6.below b7 x6.lt
              have y7 := y6.below b7 y6.lt
              clear H1 p0 p1 p2 r0 r1 r2 r3 x6 y6 B6 b7
              obtain ⟨p0, p1, p2⟩ := wh318 x7
              obtain ⟨r0, r1, r2, r3⟩ := wh4 y7
              have H1 := Lib.hid (HRQ.out (by trivial) w7 B7)
              go_wp2_with fail
              refine H1.out.mono ?_
              rintro e w8 ⟨rfl, b8⟩
              have B8 := B7.trans (b8.mono B7.size)
              have x8 := x7.below b8 x7.lt
              have y8 := y7.below b8 y7.lt
              clear H1 p0 p1 p2 r0 r1 r2 r3 x7 y7 B7 b8
              obtain ⟨p0, p1, p2⟩ := wh318 x8
              obtain ⟨r0, r1, r2, r3⟩ := wh4 y8
              have H1 := Lib.hid (HRA.out (by trivial) w8 B8)
              go_wp2_with fail
              refine H1.out.mono ?_
              rintro e w9 ⟨rfl, b9⟩
              have B9 := B8.trans (b9.mono B8.size)
              have x9 := x8.below b9 x8.lt
              have y9 := y8.below b9 y8.lt
              clear H1 p0 p1 p2 r0 r1 r2 r3 x8 y8 B8 b9
              obtain ⟨p0, p1, p2⟩ := wh318 x9
              obtain ⟨r0, r1, r2, r3⟩ := wh4 y9
              clear HCH HRS HRQ HRA
              clear HN1 HN2
              have HBF := Lib.hid B9
              clear B9
              go_wp2_with fail
              go_ret
              exact ⟨rfl, HBF.out⟩
set_option maxRecDepth 100000 in
theorem law_AsconfReads {H : Type} {enc : TypeId × Value → H} {W : World} {base : Nat} {v0 v1 : Value} {d0 d1 : DataW H} {p0 p1 : List MemPlace}
    (o0 : Value.okWide Tryz.prog W .any base 51 v0) (h0 : DataW.Trod enc Tryz.prog W 0 (fun _ => true) true 51 v0 d0 p0) (s0 : Small Tryz.prog 51 d0)
    (o1 : Value.okWide Tryz.prog W .any base 62 v1) (h1 : DataW.Trod enc Tryz.prog W 0 (fun _ => true) true 62 v1 d1 p1) (s1 : Small Tryz.prog 62 d1) (hL : laidMetH Tryz.prog laid18 W) :
    Calls Tryz.prog 7 #[v0, v1] W fun e w' => e = .returned (.bool true) ∧ Below W.heap.size W w' := by
  obtain ⟨n, A, c, K, k, rfl, hn, bn⟩ := open_node o0 h0 s0
  obtain ⟨x, A', c', K', k', rfl, hx, bx⟩ := open_chunk o1 h1 s1
  exact reads_law18 n x bn bx A c K k A' c' K' k' W hn hx (by have := hx.kc; have := hx.km; unfold maxLen at this; omega) (handle_of18 hL) (tbl_of18 hL)
end Go.Proofs.YteknmgmdmjmnmaaGreatDoor


