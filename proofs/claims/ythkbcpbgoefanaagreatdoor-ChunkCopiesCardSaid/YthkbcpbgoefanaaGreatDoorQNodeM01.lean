/- NodeM0 + NodeM1 -/
import Derived.Test.YthkbcpbgoefanaaGreatDoorQNodeM

namespace Go.Proofs.YthkbcpbgoefanaaGreatDoor
open Go.RowKit

set_option maxRecDepth 100000 in
set_option maxHeartbeats 4000000 in
theorem read_known0 (f : Nat) (ih : ParseOK f) (c : Int) (fr : Fr) (d : Nat) (A : Option Addr) (cc : Nat) (w : World) (hd : d + (f + 1) = 5) (hh : Handle w) (hL : Lies w w.heap.size A (fr.v.map bv)) (hc : fr.v.length ≤ cc) (hm : cc ≤ maxLen) (hn : fr.v.length ≤ 10000000) (F : Form) (hl : look (tab c) fr.t = some F) (hk0 : F.ki = 0) :
    Calls Tryz.prog 144 #[.int .i64 c, .agg #[hv fr.t, .slice A fr.v.length cc], .int .i64 (d : Int)] w (ReadR w (rd (f + 1) c fr)) := by
  have hd4 : (d : Int) ≤ 4 := by omega
  have hO := of_any c fr.t
  simp only [ofV_eq] at hO
  rw [show (look (tab c) fr.t).getD zeroF = formOf c fr.t from rfl] at hO
  have hIn := inside_any (formOf c fr.t).ki
  have hH := fun (K : Option Addr) (k : Nat) (ks : List Nd) (W : World) (hK : Nodes W W.heap.size K ks) (hk : ks.length ≤ 10000000) => hasInside_any (formOf c fr.t) K k ks W hK hk
  have hLW := fun W (hW : Below w.heap.size w W) => (hL.below hW).more hW.size
  have HRD : Hid (rd (f + 1) c fr = if fr.v.length < frontOf c fr.t fr.v.length ∨ fitK c fr.t (frontOf c fr.t fr.v.length) = false then .bad 7 0
    else if cntB c fr.t (fr.v.take (frontOf c fr.t fr.v.length)) = false then .bad 8 4
    else match pa f (ins (formOf c fr.t).ki).1 (fr.v.drop (frontOf c fr.t fr.v.length)) with
      | .bad code at_ => .bad code (at_ + (4 + frontOf c fr.t fr.v.length))
      | .ok kids => if insB (formOf c fr.t).ki kids = false then .bad 7 0 else .ok (.mk fr.t (fr.v.take (frontOf c fr.t fr.v.length)) kids)) := rfl
  have HK := Lib.hid ih
  clear ih
  generalize hrr : rd (f + 1) c fr = r at *
  clear hrr
  have hfo : frontOf c fr.t fr.v.length = if (formOf c fr.t).ki = 0 then fr.v.length else (formOf c fr.t).lo.toNat := rfl
  have b0 : Below w.heap.size w ((w.alloc (.cells #[hv fr.t, .slice A fr.v.length cc] 96)).alloc (.cells #[.int .u16 0, .slice none 0 0, .slice none 0 0] 50)) := ((Below.refl _ _).alloc (Nat.le_refl _) _).alloc (by simp) _
  have hW0 := (Whole.new w 96 #[hv fr.t, .slice A fr.v.length cc]).alloc (.cells #[.int .u16 0, .slice none 0 0, .slice none 0 0] 50)
  have hW1 := Whole.new (w.alloc (.cells #[hv fr.t, .slice A fr.v.length cc] 96)) 50 #[.int .u16 0, .slice none 0 0, .slice none 0 0]
  simp only [World.size_alloc] at hW1
  have hT := tame_tab (look_mem hl)
  have hF0 := formOf_some hl
  have hFt := fun x W => fits_any F hT x W
  have hfk : ∀ x, fitK c fr.t x = fitsB F (x : Int) := fun x => by unfold fitK; rw [hl]
  rw [hl] at hO
  simp only [Option.isSome_some] at hO
  rw [hF0] at hO hIn hH HRD hfo
  have hfr : frontOf c fr.t fr.v.length = fr.v.length := by rw [hfo, if_pos hk0]
  rw [hfr, hfk] at HRD
  have hki : (F.ki != 0) = false := by rw [hk0]; rfl
  replace hFt := fun W => hFt (fr.v.length : Int) W
  clear hl hF0 hk0 hfo hfr hfk
  unfold Form.val at hO hFt
  simp only [Form.val] at hH
  cases hfb : fitsB F (fr.v.length : Int) with
  | false =>
    rw [hfb] at HRD
    simp only [hfb] at hFt
    have hr7 : r = .bad 7 0 := by rw [HRD.out, if_pos (.inr rfl)]
    have HR := Lib.hid hr7
    clear hr7 HRD hfb
    go_enter Tryz.func144, Tryz.ntmps144
    go_wp2_with fail
    refine (hO _).mono ?_
    rintro e w1 ⟨rfl, b1⟩
    have hb1 := b0.trans (b1.mono (by simp <;> omega))
    have hB1 : Box3 (w1.alloc (.cells #[.int .i64 F.cl, hv F.ty, .string F.nm, .int .i64 F.lo, .int .i64 F.hi, .int .i64 F.un, .int .i64 F.ki] 206)) w.heap.size w1.heap.size fr A cc F F.lo := ⟨(hW0.below b1 (by simp <;> omega)).alloc _, (hW1.below b1 (by simp)).alloc _, Whole.new _ _ _⟩
    have z1 := hB1.c1
    have z3 := hB1.r0
    have z4 := hB1.r1
    have z5 := hB1.r2
    have z6 := hB1.rs.frozen 0
    have z7 := hB1.rs.frozen 1
    have z8 := hB1.rs.frozen 2
    have z9 := hB1.k6
    have b1' := hb1.alloc hb1.size (.cells #[.int .i64 F.cl, hv F.ty, .string F.nm, .int .i64 F.lo, .int .i64 F.hi, .int .i64 F.un, .int .i64 F.ki] 206)
    go_wp2_with (first | (refine wpList_new_form rfl 206 _ _ rfl w1 _ _ rfl rfl rfl (by kernel_rfl) rfl ?_))
    refine (hFt _).mono ?_
    rintro e w2 ⟨rfl, b2⟩
    have hB2 := hB1.below b2
    have hb2 := b1'.trans (b2.mono b1'.size)
    clear z1 z3 z4 z5 z6 z7 z8 z9
    have y1 := hB2.c1
    have y3 := hB2.r0
    have y4 := hB2.r1
    have y5 := hB2.r2
    have y6 := hB2.rs.frozen 0
    have y7 := hB2.rs.frozen 1
    have y8 := hB2.rs.frozen 2
    go_wp2_with fail
    refine (New_any _ _ _).mono ?_
    rintro e w9 ⟨rfl, rfl⟩
    go_wp2_with fail
    (try simp only [Exit.inBlock, Exit.then])
    refine bodyPost_ret (results_row_tmp rfl _ _ (w.heap.size + 1) 50 _ _ rfl (hB2.set _ _ _) Tryz.underlying50 rfl (by kernel_rfl)) rfl ?_
    rw [HR.out]
    exact ⟨((hb2.setCell (by simp) _).setCell (by simp) _).setCell (by simp) _, rfl⟩
  | true =>
    rw [hfb] at HRD
    simp only [hfb] at hFt
    have hq1 : ¬ (fr.v.length < fr.v.length ∨ true = false) := by simp
    clear hfb
    obtain ⟨A1, c1, hs1, l1, m1, m2⟩ := slice_to (w := w) A cc fr.v fr.v.length hL hc hm (by omega)
    obtain ⟨A5, c5, hs5, l5, m5, m6⟩ := slice_from (w := w) A cc fr.v fr.v.length hL hc hm (by omega)
    have hDl : (fr.v.take (fr.v.length)).length = fr.v.length := by rw [List.length_take]; omega
    have hEl : (fr.v.drop (fr.v.length)).length ≤ 10000000 := by rw [List.length_drop]; omega
    generalize fr.v.take (fr.v.length) = D at *
    generalize fr.v.drop (fr.v.length) = E at *
    have hJ := fun W (hW : Below w.heap.size w W) => copy_join A1 c1 D W ((l1.below hW).more hW.size) m1 m2 (by omega)
    have hC := fun A2 c2 W (h : Lies W W.heap.size A2 (D.map bv)) h1 h2 => counted_any c fr.t A2 c2 D W h h1 h2 (by omega)
    have HDl := Lib.hid hDl
    clear hDl
    cases hcb : cntB c fr.t D with
    | false =>
      simp only [hcb] at hC
      have hr8 : r = .bad 8 4 := by rw [HRD.out, if_neg hq1, if_pos hcb]
      have HR := Lib.hid hr8
      clear hr8 hcb HRD hs5 l5
      go_enter Tryz.func144, Tryz.ntmps144
      go_wp2_with fail
      refine (hO _).mono ?_
      rintro e w1 ⟨rfl, b1⟩
      have hb1 := b0.trans (b1.mono (by simp <;> omega))
      have hB1 : Box3 (w1.alloc (.cells #[.int .i64 F.cl, hv F.ty, .string F.nm, .int .i64 F.lo, .int .i64 F.hi, .int .i64 F.un, .int .i64 F.ki] 206)) w.heap.size w1.heap.size fr A cc F F.lo := ⟨(hW0.below b1 (by simp <;> omega)).alloc _, (hW1.below b1 (by simp)).alloc _, Whole.new _ _ _⟩
      have z1 := hB1.c1
      have z3 := hB1.r0
      have z4 := hB1.r1
      have z5 := hB1.r2
      have z6 := hB1.rs.frozen 0
      have z7 := hB1.rs.frozen 1
      have z8 := hB1.rs.frozen 2
      have z9 := hB1.k6
      have b1' := hb1.alloc hb1.size (.cells #[.int .i64 F.cl, hv F.ty, .string F.nm, .int .i64 F.lo, .int .i64 F.hi, .int .i64 F.un, .int .i64 F.ki] 206)
      go_wp2_with (first | (refine wpList_new_form rfl 206 _ _ rfl w1 _ _ rfl rfl rfl (by kernel_rfl) rfl ?_))
      refine (hFt _).mono ?_
      rintro e w2 ⟨rfl, b2⟩
      have hB2 := hB1.below b2
      have hb2 := b1'.trans (b2.mono b1'.size)
      clear z1 z3 z4 z5 z6 z7 z8 z9
      have y1 := hB2.c1
      have y3 := hB2.r0
      have y4 := hB2.r1
      have y5 := hB2.r2
      have y6 := hB2.rs.frozen 0
      have y7 := hB2.rs.frozen 1
      have y8 := hB2.rs.frozen 2
      go_wp2_with (refine wpList_slice_is rfl 22 _ _ _ _ rfl (by rw [elem_u8]; exact Tryz.underlying22) _ (hs1 _) ?_)
      refine (hJ _ hb2).mono ?_
      rintro e w3 ⟨A2, c2, rfl, own3, b3⟩
      have b3' := hb2.trans (b3.mono (hb2).size)
      have hB3 := hB2.below b3
      clear y1 y3 y4 y5 y6 y7 y8
      have x0 := hB3.c0
      have x1 := hB3.c1
      have hIs3 := own_isB own3
      have hcap3 := own_cap own3
      have x3 := hB3.r0
      have x4 := hB3.r1
      have x5 := hB3.r2
      have x6 := hB3.rs.frozen 0
      have x7 := hB3.rs.frozen 1
      have x8 := hB3.rs.frozen 2
      go_wp2_with fail
      refine (hC A2 c2 w3 (Lies.own own3) hcap3.2.1 hcap3.2.2).mono ?_
      rintro e w4 ⟨rfl, b4⟩
      have b4' := b3'.trans (b4.mono b3'.size)
      have hB4 := hB3.below b4
      clear x0 x1 x3 x4 x5 x6 x7 x8
      have u1 := hB4.c1
      have u3 := hB4.r0
      have u4 := hB4.r1
      have u5 := hB4.r2
      have u6 := hB4.rs.frozen 0
      have u7 := hB4.rs.frozen 1
      have u8 := hB4.rs.frozen 2
      have uk := hB4.k6
      clear uk
      go_wp2_with fail
      refine (New_any _ _ _).mono ?_
      rintro e w9 ⟨rfl, rfl⟩
      go_wp2_with fail
      (try simp only [Exit.inBlock, Exit.then])
      refine bodyPost_ret (results_row_tmp rfl _ _ (w.heap.size + 1) 50 _ _ rfl (hB4.set _ _ _) Tryz.underlying50 rfl (by kernel_rfl)) rfl ?_
      rw [HR.out]
      exact ⟨((b4'.setCell (by simp) _).setCell (by simp) _).setCell (by simp) _, rfl⟩
    | true =>
      simp only [hcb] at hC
      have hcc := HRD.out
      rw [if_neg hq1, if_neg (by rw [hcb]; simp)] at hcc
      have HCC := Lib.hid hcc
      clear hcb HRD hcc
      have hP := fun W (hW : Below w.heap.size w W) => HK.out (ins F.ki).1 E (d + 1) A5 c5 W (by omega) (hh.below hW hh.lt) ((l5.below hW).more hW.size) m5 m6 hEl
      simp only [Int.natCast_add, Int.cast_ofNat_Int] at hP
      generalize (ins F.ki).1 = ci at *
      have hpat := fun code a (h : pa f ci E = .bad code a) => pa_at h
      cases hpa : pa f ci E with
      | bad code a =>
        have ha := hpat code a hpa
        rw [hpa] at hP
        have hrb : r = .bad code (a + (4 + fr.v.length)) := by rw [HCC.out, hpa]
        have HR := Lib.hid hrb
        clear hrb hpa HCC hpat
        go_enter Tryz.func144, Tryz.ntmps144
        go_wp2_with fail
        refine (hO _).mono ?_
        rintro e w1 ⟨rfl, b1⟩
        have hb1 := b0.trans (b1.mono (by simp <;> omega))
        have hB1 : Box3 (w1.alloc (.cells #[.int .i64 F.cl, hv F.ty, .string F.nm, .int .i64 F.lo, .int .i64 F.hi, .int .i64 F.un, .int .i64 F.ki] 206)) w.heap.size w1.heap.size fr A cc F F.lo := ⟨(hW0.below b1 (by simp <;> omega)).alloc _, (hW1.below b1 (by simp)).alloc _, Whole.new _ _ _⟩
        have z1 := hB1.c1
        have z3 := hB1.r0
        have z4 := hB1.r1
        have z5 := hB1.r2
        have z6 := hB1.rs.frozen 0
        have z7 := hB1.rs.frozen 1
        have z8 := hB1.rs.frozen 2
        have z9 := hB1.k6
        have b1' := hb1.alloc hb1.size (.cells #[.int .i64 F.cl, hv F.ty, .string F.nm, .int .i64 F.lo, .int .i64 F.hi, .int .i64 F.un, .int .i64 F.ki] 206)
        go_wp2_with (first | (refine wpList_new_form rfl 206 _ _ rfl w1 _ _ rfl rfl rfl (by kernel_rfl) rfl ?_))
        refine (hFt _).mono ?_
        rintro e w2 ⟨rfl, b2⟩
        have hB2 := hB1.below b2
        have hb2 := b1'.trans (b2.mono b1'.size)
        clear z1 z3 z4 z5 z6 z7 z8 z9
        have y1 := hB2.c1
        have y3 := hB2.r0
        have y4 := hB2.r1
        have y5 := hB2.r2
        have y6 := hB2.rs.frozen 0
        have y7 := hB2.rs.frozen 1
        have y8 := hB2.rs.frozen 2
        go_wp2_with (refine wpList_slice_is rfl 22 _ _ _ _ rfl (by rw [elem_u8]; exact Tryz.underlying22) _ (hs1 _) ?_)
        refine (hJ _ hb2).mono ?_
        rintro e w3 ⟨A2, c2, rfl, own3, b3⟩
        have b3' := hb2.trans (b3.mono (hb2).size)
        have hB3 := hB2.below b3
        clear y1 y3 y4 y5 y6 y7 y8
        have x0 := hB3.c0
        have x1 := hB3.c1
        have hIs3 := own_isB own3
        have hcap3 := own_cap own3
        have x3 := hB3.r0
        have x4 := hB3.r1
        have x5 := hB3.r2
        have x6 := hB3.rs.frozen 0
        have x7 := hB3.rs.frozen 1
        have x8 := hB3.rs.frozen 2
        go_wp2_with fail
        refine (hC A2 c2 w3 (Lies.own own3) hcap3.2.1 hcap3.2.2).mono ?_
        rintro e w4 ⟨rfl, b4⟩
        have b4' := b3'.trans (b4.mono b3'.size)
        have hB4 := hB3.below b4
        clear x0 x1 x3 x4 x5 x6 x7 x8
        have u1 := hB4.c1
        have u3 := hB4.r0
        have u4 := hB4.r1
        have u5 := hB4.r2
        have u6 := hB4.rs.frozen 0
        have u7 := hB4.rs.frozen 1
        have u8 := hB4.rs.frozen 2
        have uk := hB4.k6
        go_wp2_with fail
        refine (hIn _).mono ?_
        rintro e w5 ⟨rfl, rfl⟩
        clear uk
        go_wp2_with (refine wpList_slice_is rfl 22 _ _ _ _ rfl (by rw [elem_u8]; exact Tryz.underlying22) _ (hs5 _) ?_)
        refine (hP _ b4').mono ?_
        rintro e w6 ⟨b6, rfl⟩
        have b6' := b4'.trans (b6.mono b4'.size)
        have hB6 := hB4.below b6
        clear u1 u3 u4 u5 u6 u7 u8
        have t3 := hB6.r0
        have t4 := hB6.r1
        have t5 := hB6.r2
        have t6 := hB6.rs.frozen 0
        have t7 := hB6.rs.frozen 1
        have t8 := hB6.rs.frozen 2
        have hSh := Shift_fault (code : Int) a (4 + fr.v.length) w6 (hh.below b6' hh.lt) (by omega)
        simp only [Int.natCast_add, Int.cast_ofNat_Int] at hSh
        simp only [faultV] at hSh ⊢
        go_wp2_with fail
        refine hSh.mono ?_
        rintro e w7 ⟨rfl, b7⟩
        have b7' := b6'.trans (b7.mono b6'.size)
        have hB7 := hB6.below b7
        clear t3 t4 t5 t6 t7 t8
        have t3 := hB7.r0
        have t4 := hB7.r1
        have t5 := hB7.r2
        have t6 := hB7.rs.frozen 0
        have t7 := hB7.rs.frozen 1
        have t8 := hB7.rs.frozen 2
        go_wp2_with fail
        (try simp only [Exit.inBlock, Exit.then])
        refine bodyPost_ret (results_row_tmp rfl _ _ (w.heap.size + 1) 50 _ _ rfl (hB7.set _ _ _) Tryz.underlying50 rfl (by kernel_rfl)) rfl ?_
        rw [HR.out]
        exact ⟨((b7'.setCell (by simp) _).setCell (by simp) _).setCell (by simp) _, by simp [faultV]⟩
      | ok kids =>
        rw [hpa] at hP
        have hcc := HCC.out
        rw [hpa] at hcc
        have HCC2 := Lib.hid hcc
        clear hpa HCC hpat hcc
        cases hib : insB F.ki kids with
        | false =>
          have hr7 : r = .bad 7 0 := by rw [HCC2.out]; simp only [hib, if_true]
          have HR := Lib.hid hr7
          clear hr7 HCC2
          go_enter Tryz.func144, Tryz.ntmps144
          go_wp2_with fail
          refine (hO _).mono ?_
          rintro e w1 ⟨rfl, b1⟩
          have hb1 := b0.trans (b1.mono (by simp <;> omega))
          have hB1 : Box3 (w1.alloc (.cells #[.int .i64 F.cl, hv F.ty, .string F.nm, .int .i64 F.lo, .int .i64 F.hi, .int .i64 F.un, .int .i64 F.ki] 206)) w.heap.size w1.heap.size fr A cc F F.lo := ⟨(hW0.below b1 (by simp <;> omega)).alloc _, (hW1.below b1 (by simp)).alloc _, Whole.new _ _ _⟩
          have z1 := hB1.c1
          have z3 := hB1.r0
          have z4 := hB1.r1
          have z5 := hB1.r2
          have z6 := hB1.rs.frozen 0
          have z7 := hB1.rs.frozen 1
          have z8 := hB1.rs.frozen 2
          have z9 := hB1.k6
          have b1' := hb1.alloc hb1.size (.cells #[.int .i64 F.cl, hv F.ty, .string F.nm, .int .i64 F.lo, .int .i64 F.hi, .int .i64 F.un, .int .i64 F.ki] 206)
          go_wp2_with (first | (refine wpList_new_form rfl 206 _ _ rfl w1 _ _ rfl rfl rfl (by kernel_rfl) rfl ?_))
          refine (hFt _).mono ?_
          rintro e w2 ⟨rfl, b2⟩
          have hB2 := hB1.below b2
          have hb2 := b1'.trans (b2.mono b1'.size)
          clear z1 z3 z4 z5 z6 z7 z8 z9
          have y1 := hB2.c1
          have y3 := hB2.r0
          have y4 := hB2.r1
          have y5 := hB2.r2
          have y6 := hB2.rs.frozen 0
          have y7 := hB2.rs.frozen 1
          have y8 := hB2.rs.frozen 2
          go_wp2_with (refine wpList_slice_is rfl 22 _ _ _ _ rfl (by rw [elem_u8]; exact Tryz.underlying22) _ (hs1 _) ?_)
          refine (hJ _ hb2).mono ?_
          rintro e w3 ⟨A2, c2, rfl, own3, b3⟩
          have b3' := hb2.trans (b3.mono (hb2).size)
          have hB3 := hB2.below b3
          clear y1 y3 y4 y5 y6 y7 y8
          have x0 := hB3.c0
          have x1 := hB3.c1
          have hIs3 := own_isB own3
          have hcap3 := own_cap own3
          have x3 := hB3.r0
          have x4 := hB3.r1
          have x5 := hB3.r2
          have x6 := hB3.rs.frozen 0
          have x7 := hB3.rs.frozen 1
          have x8 := hB3.rs.frozen 2
          go_wp2_with fail
          refine (hC A2 c2 w3 (Lies.own own3) hcap3.2.1 hcap3.2.2).mono ?_
          rintro e w4 ⟨rfl, b4⟩
          have b4' := b3'.trans (b4.mono b3'.size)
          have hB4 := hB3.below b4
          clear x0 x1 x3 x4 x5 x6 x7 x8
          have u1 := hB4.c1
          have u3 := hB4.r0
          have u4 := hB4.r1
          have u5 := hB4.r2
          have u6 := hB4.rs.frozen 0
          have u7 := hB4.rs.frozen 1
          have u8 := hB4.rs.frozen 2
          have uk := hB4.k6
          go_wp2_with fail
          refine (hIn _).mono ?_
          rintro e w5 ⟨rfl, rfl⟩
          clear uk
          go_wp2_with (refine wpList_slice_is rfl 22 _ _ _ _ rfl (by rw [elem_u8]; exact Tryz.underlying22) _ (hs5 _) ?_)
          refine (hP _ b4').mono ?_
          rintro e w6 ⟨b6, A6, c6, rfl, hN6, m7, m8, m9⟩
          have b6' := b4'.trans (b6.mono b4'.size)
          have hB6 := hB4.below b6
          clear u1 u3 u4 u5 u6 u7 u8
          have t0 := hB6.k0
          have t1 := hB6.k1
          have t2 := hB6.k2
          have t3 := hB6.k3
          have t4 := hB6.k4
          have t5 := hB6.k5
          have t6 := hB6.k6
          have hHH := hH A6 c6 kids w6 (hN6.nodes fun b hb => hb.2) m9
          rw [hib] at hHH
          have HHH := Lib.hid hHH
          clear hHH hib
          go_wp2_with fail
          refine HHH.out.mono ?_
          rintro e w7 ⟨rfl, b7⟩
          have b7' := b6'.trans (b7.mono b6'.size)
          have hB7 := hB6.below b7
          clear t0 t1 t2 t3 t4 t5 t6
          have t0 := hB7.c0
          have t3 := hB7.r0
          have t4 := hB7.r1
          have t5 := hB7.r2
          have t6 := hB7.rs.frozen 0
          have t7 := hB7.rs.frozen 1
          have t8 := hB7.rs.frozen 2
          go_wp2_with fail
          refine (New_any _ _ _).mono ?_
          rintro e w9 ⟨rfl, rfl⟩
          go_wp2_with fail
          (try simp only [Exit.inBlock, Exit.then])
          refine bodyPost_ret (results_row_tmp rfl _ _ (w.heap.size + 1) 50 _ _ rfl (hB7.set _ _ _) Tryz.underlying50 rfl (by kernel_rfl)) rfl ?_
          rw [HR.out]
          exact ⟨((b7'.setCell (by simp) _).setCell (by simp) _).setCell (by simp) _, rfl⟩
        | true =>
          have hr7 : r = .ok (.mk fr.t D kids) := by rw [HCC2.out]; simp [hib]
          have HR := Lib.hid hr7
          clear hr7 HCC2
          go_enter Tryz.func144, Tryz.ntmps144
          go_wp2_with fail
          refine (hO _).mono ?_
          rintro e w1 ⟨rfl, b1⟩
          have hb1 := b0.trans (b1.mono (by simp <;> omega))
          have hB1 : Box3 (w1.alloc (.cells #[.int .i64 F.cl, hv F.ty, .string F.nm, .int .i64 F.lo, .int .i64 F.hi, .int .i64 F.un, .int .i64 F.ki] 206)) w.heap.size w1.heap.size fr A cc F F.lo := ⟨(hW0.below b1 (by simp <;> omega)).alloc _, (hW1.below b1 (by simp)).alloc _, Whole.new _ _ _⟩
          have z1 := hB1.c1
          have z3 := hB1.r0
          have z4 := hB1.r1
          have z5 := hB1.r2
          have z6 := hB1.rs.frozen 0
          have z7 := hB1.rs.frozen 1
          have z8 := hB1.rs.frozen 2
          have z9 := hB1.k6
          have b1' := hb1.alloc hb1.size (.cells #[.int .i64 F.cl, hv F.ty, .string F.nm, .int .i64 F.lo, .int .i64 F.hi, .int .i64 F.un, .int .i64 F.ki] 206)
          go_wp2_with (first | (refine wpList_new_form rfl 206 _ _ rfl w1 _ _ rfl rfl rfl (by kernel_rfl) rfl ?_))
          refine (hFt _).mono ?_
          rintro e w2 ⟨rfl, b2⟩
          have hB2 := hB1.below b2
          have hb2 := b1'.trans (b2.mono b1'.size)
          clear z1 z3 z4 z5 z6 z7 z8 z9
          have y1 := hB2.c1
          have y3 := hB2.r0
          have y4 := hB2.r1
          have y5 := hB2.r2
          have y6 := hB2.rs.frozen 0
          have y7 := hB2.rs.frozen 1
          have y8 := hB2.rs.frozen 2
          go_wp2_with (refine wpList_slice_is rfl 22 _ _ _ _ rfl (by rw [elem_u8]; exact Tryz.underlying22) _ (hs1 _) ?_)
          refine (hJ _ hb2).mono ?_
          rintro e w3 ⟨A2, c2, rfl, own3, b3⟩
          have b3' := hb2.trans (b3.mono (hb2).size)
          have hB3 := hB2.below b3
          clear y1 y3 y4 y5 y6 y7 y8
          have x0 := hB3.c0
          have x1 := hB3.c1
          have hIs3 := own_isB own3
          have hcap3 := own_cap own3
          have x3 := hB3.r0
          have x4 := hB3.r1
          have x5 := hB3.r2
          have x6 := hB3.rs.frozen 0
          have x7 := hB3.rs.frozen 1
          have x8 := hB3.rs.frozen 2
          go_wp2_with fail
          refine (hC A2 c2 w3 (Lies.own own3) hcap3.2.1 hcap3.2.2).mono ?_
          rintro e w4 ⟨rfl, b4⟩
          have b4' := b3'.trans (b4.mono b3'.size)
          have hB4 := hB3.below b4
          clear x0 x1 x3 x4 x5 x6 x7 x8
          have u1 := hB4.c1
          have u3 := hB4.r0
          have u4 := hB4.r1
          have u5 := hB4.r2
          have u6 := hB4.rs.frozen 0
          have u7 := hB4.rs.frozen 1
          have u8 := hB4.rs.frozen 2
          have uk := hB4.k6
          go_wp2_with fail
          refine (hIn _).mono ?_
          rintro e w5 ⟨rfl, rfl⟩
          clear uk
          go_wp2_with (refine wpList_slice_is rfl 22 _ _ _ _ rfl (by rw [elem_u8]; exact Tryz.underlying22) _ (hs5 _) ?_)
          refine (hP _ b4').mono ?_
          rintro e w6 ⟨b6, A6, c6, rfl, hN6, m7, m8, m9⟩
          have b6' := b4'.trans (b6.mono b4'.size)
          have hB6 := hB4.below b6
          clear u1 u3 u4 u5 u6 u7 u8
          have t0 := hB6.k0
          have t1 := hB6.k1
          have t2 := hB6.k2
          have t3 := hB6.k3
          have t4 := hB6.k4
          have t5 := hB6.k5
          have t6 := hB6.k6
          have hHH := hH A6 c6 kids w6 (hN6.nodes fun b hb => hb.2) m9
          rw [hib] at hHH
          have HHH := Lib.hid hHH
          clear hHH hib
          go_wp2_with fail
          refine HHH.out.mono ?_
          rintro e w7 ⟨rfl, b7⟩
          have b7' := b6'.trans (b7.mono b6'.size)
          have hB7 := hB6.below b7
          clear t0 t1 t2 t3 t4 t5 t6
          have t0 := hB7.c0
          have t3 := hB7.r0
          have t4 := hB7.r1
          have t5 := hB7.r2
          have t6 := hB7.rs.frozen 0
          have t7 := hB7.rs.frozen 1
          have t8 := hB7.rs.frozen 2
          go_wp2_with fail
          have hfar : ∀ p : Addr, p.block ≠ w.heap.size + 1 → (((w7.setCell ⟨w.heap.size + 1, 0, none⟩ (hv fr.t)).setCell ⟨w.heap.size + 1, 1, none⟩ (.slice A2 D.length c2)).setCell ⟨w.heap.size + 1, 2, none⟩ (.slice A6 kids.length c6)).cell? p = w7.cell? p := fun p hp => by
            rw [World.cell?_setCell_other _ _ _ _ (fun e => hp (by rw [← e])), World.cell?_setCell_other _ _ _ _ (fun e => hp (by rw [← e])), World.cell?_setCell_other _ _ _ _ (fun e => hp (by rw [← e]))]
          have hBf : Below w.heap.size w (((w7.setCell ⟨w.heap.size + 1, 0, none⟩ (hv fr.t)).setCell ⟨w.heap.size + 1, 1, none⟩ (.slice A2 D.length c2)).setCell ⟨w.heap.size + 1, 2, none⟩ (.slice A6 kids.length c6)) :=
            ((b7'.setCell (by simp) _).setCell (by simp) _).setCell (by simp) _
          have hszf : (((w7.setCell ⟨w.heap.size + 1, 0, none⟩ (hv fr.t)).setCell ⟨w.heap.size + 1, 1, none⟩ (.slice A2 D.length c2)).setCell ⟨w.heap.size + 1, 2, none⟩ (.slice A6 kids.length c6)).heap.size = w7.heap.size := by simp [World.setCell]
          (try simp only [Exit.inBlock, Exit.then])
          refine bodyPost_ret (results_row_tmp rfl _ _ (w.heap.size + 1) 50 _ _ rfl (hB7.set _ _ _) Tryz.underlying50 rfl (by kernel_rfl)) rfl ?_
          rw [HR.out]
          have hs4 := b4.size
          have hs6 := b6.size
          have hs7 := b7.size
          have hg1 : w.heap.size + 1 < (w2).heap.size := hB2.rs.lt
          have hl3 := own_liesS own3 (L := (w2).heap.size) (Nat.le_refl _)
          refine ⟨hBf, A2, c2, A6, c6, rfl, ⟨hl3.turn (fun p hp => ?_) (fun b hb => ?_), hcap3.2.1, hcap3.2.2, hN6.turn (fun p hp => ?_) (fun b hb => ?_), m7, m8⟩⟩
          · have h1 := hp.1
            exact (hfar p (by omega)).trans ((b7.cell (by have := hp.2; omega)).trans ((b6.cell (by have := hp.2; omega)).trans (b4.cell hp.2)))
          · have h1 := hb.1
            exact ⟨by omega, Nat.lt_of_lt_of_le (show b < w7.heap.size by have := hb.2; omega) (Nat.le_of_eq hszf.symm)⟩
          · have h1 := hp.1
            have h3 := b3.size
            exact (hfar p (by omega)).trans (b7.cell hp.2)
          · have h1 := hb.1
            have h3 := b3.size
            exact ⟨by omega, Nat.lt_of_lt_of_le (show b < w7.heap.size by have := hb.2; omega) (Nat.le_of_eq hszf.symm)⟩
end Go.Proofs.YthkbcpbgoefanaaGreatDoor


namespace Go.Proofs.YthkbcpbgoefanaaGreatDoor
open Go.RowKit

set_option maxRecDepth 100000 in
set_option maxHeartbeats 4000000 in
theorem read_known1 (f : Nat) (ih : ParseOK f) (c : Int) (fr : Fr) (d : Nat) (A : Option Addr) (cc : Nat) (w : World) (hd : d + (f + 1) = 5) (hh : Handle w) (hL : Lies w w.heap.size A (fr.v.map bv)) (hc : fr.v.length ≤ cc) (hm : cc ≤ maxLen) (hn : fr.v.length ≤ 10000000) (F : Form) (hl : look (tab c) fr.t = some F) (hk0 : F.ki ≠ 0) :
    Calls Tryz.prog 144 #[.int .i64 c, .agg #[hv fr.t, .slice A fr.v.length cc], .int .i64 (d : Int)] w (ReadR w (rd (f + 1) c fr)) := by
  have hd4 : (d : Int) ≤ 4 := by omega
  have hO := of_any c fr.t
  simp only [ofV_eq] at hO
  rw [show (look (tab c) fr.t).getD zeroF = formOf c fr.t from rfl] at hO
  have hIn := inside_any (formOf c fr.t).ki
  have hH := fun (K : Option Addr) (k : Nat) (ks : List Nd) (W : World) (hK : Nodes W W.heap.size K ks) (hk : ks.length ≤ 10000000) => hasInside_any (formOf c fr.t) K k ks W hK hk
  have hLW := fun W (hW : Below w.heap.size w W) => (hL.below hW).more hW.size
  have HRD : Hid (rd (f + 1) c fr = if fr.v.length < frontOf c fr.t fr.v.length ∨ fitK c fr.t (frontOf c fr.t fr.v.length) = false then .bad 7 0
    else if cntB c fr.t (fr.v.take (frontOf c fr.t fr.v.length)) = false then .bad 8 4
    else match pa f (ins (formOf c fr.t).ki).1 (fr.v.drop (frontOf c fr.t fr.v.length)) with
      | .bad code at_ => .bad code (at_ + (4 + frontOf c fr.t fr.v.length))
      | .ok kids => if insB (formOf c fr.t).ki kids = false then .bad 7 0 else .ok (.mk fr.t (fr.v.take (frontOf c fr.t fr.v.length)) kids)) := rfl
  have HK := Lib.hid ih
  clear ih
  generalize hrr : rd (f + 1) c fr = r at *
  clear hrr
  have hfo : frontOf c fr.t fr.v.length = if (formOf c fr.t).ki = 0 then fr.v.length else (formOf c fr.t).lo.toNat := rfl
  have b0 : Below w.heap.size w ((w.alloc (.cells #[hv fr.t, .slice A fr.v.length cc] 96)).alloc (.cells #[.int .u16 0, .slice none 0 0, .slice none 0 0] 50)) := ((Below.refl _ _).alloc (Nat.le_refl _) _).alloc (by simp) _
  have hW0 := (Whole.new w 96 #[hv fr.t, .slice A fr.v.length cc]).alloc (.cells #[.int .u16 0, .slice none 0 0, .slice none 0 0] 50)
  have hW1 := Whole.new (w.alloc (.cells #[hv fr.t, .slice A fr.v.length cc] 96)) 50 #[.int .u16 0, .slice none 0 0, .slice none 0 0]
  simp only [World.size_alloc] at hW1
  have hT := tame_tab (look_mem hl)
  have hF0 := formOf_some hl
  have hFt := fun x W => fits_any F hT x W
  have hfk : ∀ x, fitK c fr.t x = fitsB F (x : Int) := fun x => by unfold fitK; rw [hl]
  rw [hl] at hO
  simp only [Option.isSome_some] at hO
  rw [hF0] at hO hIn hH HRD hfo
  obtain ⟨m, hm0⟩ : ∃ m : Nat, F.lo = (m : Int) := ⟨F.lo.toNat, by have := hT.lo; omega⟩
  have hm16 : m ≤ 16 := by have := hT.lo; omega
  have hfr : frontOf c fr.t fr.v.length = m := by rw [hfo, if_neg hk0, hm0]; rfl
  rw [hfr, hfk] at HRD
  have hki : (F.ki != 0) = true := by simpa using hk0
  replace hFt := fun W => hFt (m : Int) W
  clear hl hF0 hk0 hfo hfr hfk hT
  unfold Form.val at hO hFt
  simp only [Form.val] at hH
  rw [hm0] at hO
  simp only [hm0] at hFt hH
  by_cases hlong : fr.v.length < m
  · have hr7 : r = .bad 7 0 := by rw [HRD.out, if_pos (.inl hlong)]
    have HR := Lib.hid hr7
    clear hr7 HRD
    have hlong' : (fr.v.length : Int) < (m : Int) := by omega
    go_enter Tryz.func144, Tryz.ntmps144
    go_wp2_with fail
    refine (hO _).mono ?_
    rintro e w1 ⟨rfl, b1⟩
    have hb1 := b0.trans (b1.mono (by simp <;> omega))
    have hB1 : Box3 (w1.alloc (.cells #[.int .i64 F.cl, hv F.ty, .string F.nm, .int .i64 ((m : Nat) : Int), .int .i64 F.hi, .int .i64 F.un, .int .i64 F.ki] 206)) w.heap.size w1.heap.size fr A cc F ((m : Nat) : Int) := ⟨(hW0.below b1 (by simp <;> omega)).alloc _, (hW1.below b1 (by simp)).alloc _, Whole.new _ _ _⟩
    have z1 := hB1.c1
    have z3 := hB1.r0
    have z4 := hB1.r1
    have z5 := hB1.r2
    have z6 := hB1.rs.frozen 0
    have z7 := hB1.rs.frozen 1
    have z8 := hB1.rs.frozen 2
    have z9 := hB1.k6
    have b1' := hb1.alloc hb1.size (.cells #[.int .i64 F.cl, hv F.ty, .string F.nm, .int .i64 ((m : Nat) : Int), .int .i64 F.hi, .int .i64 F.un, .int .i64 F.ki] 206)
    go_wp2_with (first | (refine wpList_new_form rfl 206 _ _ rfl w1 _ _ rfl rfl rfl (by kernel_rfl) rfl ?_))
    refine (New_any _ _ _).mono ?_
    rintro e w9 ⟨rfl, rfl⟩
    go_wp2_with fail
    (try simp only [Exit.inBlock, Exit.then])
    refine bodyPost_ret (results_row_tmp rfl _ _ (w.heap.size + 1) 50 _ _ rfl (hB1.set _ _ _) Tryz.underlying50 rfl (by kernel_rfl)) rfl ?_
    rw [HR.out]
    exact ⟨((b1'.setCell (by simp) _).setCell (by simp) _).setCell (by simp) _, rfl⟩
  have hlong' : ¬ ((fr.v.length : Int) < (m : Int)) := by omega
  cases hfb : fitsB F (m : Int) with
  | false =>
    rw [hfb] at HRD
    simp only [hfb] at hFt
    have hr7 : r = .bad 7 0 := by rw [HRD.out, if_pos (.inr rfl)]
    have HR := Lib.hid hr7
    clear hr7 HRD hfb
    go_enter Tryz.func144, Tryz.ntmps144
    go_wp2_with fail
    refine (hO _).mono ?_
    rintro e w1 ⟨rfl, b1⟩
    have hb1 := b0.trans (b1.mono (by simp <;> omega))
    have hB1 : Box3 (w1.alloc (.cells #[.int .i64 F.cl, hv F.ty, .string F.nm, .int .i64 ((m : Nat) : Int), .int .i64 F.hi, .int .i64 F.un, .int .i64 F.ki] 206)) w.heap.size w1.heap.size fr A cc F ((m : Nat) : Int) := ⟨(hW0.below b1 (by simp <;> omega)).alloc _, (hW1.below b1 (by simp)).alloc _, Whole.new _ _ _⟩
    have z1 := hB1.c1
    have z3 := hB1.r0
    have z4 := hB1.r1
    have z5 := hB1.r2
    have z6 := hB1.rs.frozen 0
    have z7 := hB1.rs.frozen 1
    have z8 := hB1.rs.frozen 2
    have z9 := hB1.k6
    have b1' := hb1.alloc hb1.size (.cells #[.int .i64 F.cl, hv F.ty, .string F.nm, .int .i64 ((m : Nat) : Int), .int .i64 F.hi, .int .i64 F.un, .int .i64 F.ki] 206)
    go_wp2_with (first | (refine wpList_new_form rfl 206 _ _ rfl w1 _ _ rfl rfl rfl (by kernel_rfl) rfl ?_))
    refine (hFt _).mono ?_
    rintro e w2 ⟨rfl, b2⟩
    have hB2 := hB1.below b2
    have hb2 := b1'.trans (b2.mono b1'.size)
    clear z1 z3 z4 z5 z6 z7 z8 z9
    have y1 := hB2.c1
    have y3 := hB2.r0
    have y4 := hB2.r1
    have y5 := hB2.r2
    have y6 := hB2.rs.frozen 0
    have y7 := hB2.rs.frozen 1
    have y8 := hB2.rs.frozen 2
    go_wp2_with fail
    refine (New_any _ _ _).mono ?_
    rintro e w9 ⟨rfl, rfl⟩
    go_wp2_with fail
    (try simp only [Exit.inBlock, Exit.then])
    refine bodyPost_ret (results_row_tmp rfl _ _ (w.heap.size + 1) 50 _ _ rfl (hB2.set _ _ _) Tryz.underlying50 rfl (by kernel_rfl)) rfl ?_
    rw [HR.out]
    exact ⟨((hb2.setCell (by simp) _).setCell (by simp) _).setCell (by simp) _, rfl⟩
  | true =>
    rw [hfb] at HRD
    simp only [hfb] at hFt
    have hq1 : ¬ (fr.v.length < m ∨ true = false) := by exact fun h => h.elim hlong (fun e => by cases e)
    clear hfb
    obtain ⟨A1, c1, hs1, l1, m1, m2⟩ := slice_to (w := w) A cc fr.v m hL hc hm (by omega)
    obtain ⟨A5, c5, hs5, l5, m5, m6⟩ := slice_from (w := w) A cc fr.v m hL hc hm (by omega)
    have hDl : (fr.v.take m).length = m := by rw [List.length_take]; omega
    have hEl : (fr.v.drop m).length ≤ 10000000 := by rw [List.length_drop]; omega
    generalize fr.v.take m = D at *
    generalize fr.v.drop m = E at *
    have hJ := fun W (hW : Below w.heap.size w W) => copy_join A1 c1 D W ((l1.below hW).more hW.size) m1 m2 (by omega)
    have hC := fun A2 c2 W (h : Lies W W.heap.size A2 (D.map bv)) h1 h2 => counted_any c fr.t A2 c2 D W h h1 h2 (by omega)
    have HDl := Lib.hid hDl
    clear hDl
    cases hcb : cntB c fr.t D with
    | false =>
      simp only [hcb] at hC
      have hr8 : r = .bad 8 4 := by rw [HRD.out, if_neg hq1, if_pos hcb]
      have HR := Lib.hid hr8
      clear hr8 hcb HRD hs5 l5
      go_enter Tryz.func144, Tryz.ntmps144
      go_wp2_with fail
      refine (hO _).mono ?_
      rintro e w1 ⟨rfl, b1⟩
      have hb1 := b0.trans (b1.mono (by simp <;> omega))
      have hB1 : Box3 (w1.alloc (.cells #[.int .i64 F.cl, hv F.ty, .string F.nm, .int .i64 ((m : Nat) : Int), .int .i64 F.hi, .int .i64 F.un, .int .i64 F.ki] 206)) w.heap.size w1.heap.size fr A cc F ((m : Nat) : Int) := ⟨(hW0.below b1 (by simp <;> omega)).alloc _, (hW1.below b1 (by simp)).alloc _, Whole.new _ _ _⟩
      have z1 := hB1.c1
      have z3 := hB1.r0
      have z4 := hB1.r1
      have z5 := hB1.r2
      have z6 := hB1.rs.frozen 0
      have z7 := hB1.rs.frozen 1
      have z8 := hB1.rs.frozen 2
      have z9 := hB1.k6
      have b1' := hb1.alloc hb1.size (.cells #[.int .i64 F.cl, hv F.ty, .string F.nm, .int .i64 ((m : Nat) : Int), .int .i64 F.hi, .int .i64 F.un, .int .i64 F.ki] 206)
      go_wp2_with (first | (refine wpList_new_form rfl 206 _ _ rfl w1 _ _ rfl rfl rfl (by kernel_rfl) rfl ?_))
      refine (hFt _).mono ?_
      rintro e w2 ⟨rfl, b2⟩
      have hB2 := hB1.below b2
      have hb2 := b1'.trans (b2.mono b1'.size)
      clear z1 z3 z4 z5 z6 z7 z8 z9
      have y1 := hB2.c1
      have y3 := hB2.r0
      have y4 := hB2.r1
      have y5 := hB2.r2
      have y6 := hB2.rs.frozen 0
      have y7 := hB2.rs.frozen 1
      have y8 := hB2.rs.frozen 2
      go_wp2_with (refine wpList_slice_is rfl 22 _ _ _ _ rfl (by rw [elem_u8]; exact Tryz.underlying22) _ (hs1 _) ?_)
      refine (hJ _ hb2).mono ?_
      rintro e w3 ⟨A2, c2, rfl, own3, b3⟩
      have b3' := hb2.trans (b3.mono (hb2).size)
      have hB3 := hB2.below b3
      clear y1 y3 y4 y5 y6 y7 y8
      have x0 := hB3.c0
      have x1 := hB3.c1
      have hIs3 := own_isB own3
      have hcap3 := own_cap own3
      have x3 := hB3.r0
      have x4 := hB3.r1
      have x5 := hB3.r2
      have x6 := hB3.rs.frozen 0
      have x7 := hB3.rs.frozen 1
      have x8 := hB3.rs.frozen 2
      go_wp2_with fail
      refine (hC A2 c2 w3 (Lies.own own3) hcap3.2.1 hcap3.2.2).mono ?_
      rintro e w4 ⟨rfl, b4⟩
      have b4' := b3'.trans (b4.mono b3'.size)
      have hB4 := hB3.below b4
      clear x0 x1 x3 x4 x5 x6 x7 x8
      have u1 := hB4.c1
      have u3 := hB4.r0
      have u4 := hB4.r1
      have u5 := hB4.r2
      have u6 := hB4.rs.frozen 0
      have u7 := hB4.rs.frozen 1
      have u8 := hB4.rs.frozen 2
      have uk := hB4.k6
      clear uk
      go_wp2_with fail
      refine (New_any _ _ _).mono ?_
      rintro e w9 ⟨rfl, rfl⟩
      go_wp2_with fail
      (try simp only [Exit.inBlock, Exit.then])
      refine bodyPost_ret (results_row_tmp rfl _ _ (w.heap.size + 1) 50 _ _ rfl (hB4.set _ _ _) Tryz.underlying50 rfl (by kernel_rfl)) rfl ?_
      rw [HR.out]
      exact ⟨((b4'.setCell (by simp) _).setCell (by simp) _).setCell (by simp) _, rfl⟩
    | true =>
      simp only [hcb] at hC
      have hcc := HRD.out
      rw [if_neg hq1, if_neg (by rw [hcb]; simp)] at hcc
      have HCC := Lib.hid hcc
      clear hcb HRD hcc
      have hP := fun W (hW : Below w.heap.size w W) => HK.out (ins F.ki).1 E (d + 1) A5 c5 W (by omega) (hh.below hW hh.lt) ((l5.below hW).more hW.size) m5 m6 hEl
      simp only [Int.natCast_add, Int.cast_ofNat_Int] at hP
      generalize (ins F.ki).1 = ci at *
      have hpat := fun code a (h : pa f ci E = .bad code a) => pa_at h
      cases hpa : pa f ci E with
      | bad code a =>
        have ha := hpat code a hpa
        rw [hpa] at hP
        have hrb : r = .bad code (a + (4 + m)) := by rw [HCC.out, hpa]
        have HR := Lib.hid hrb
        clear hrb hpa HCC hpat
        go_enter Tryz.func144, Tryz.ntmps144
        go_wp2_with fail
        refine (hO _).mono ?_
        rintro e w1 ⟨rfl, b1⟩
        have hb1 := b0.trans (b1.mono (by simp <;> omega))
        have hB1 : Box3 (w1.alloc (.cells #[.int .i64 F.cl, hv F.ty, .string F.nm, .int .i64 ((m : Nat) : Int), .int .i64 F.hi, .int .i64 F.un, .int .i64 F.ki] 206)) w.heap.size w1.heap.size fr A cc F ((m : Nat) : Int) := ⟨(hW0.below b1 (by simp <;> omega)).alloc _, (hW1.below b1 (by simp)).alloc _, Whole.new _ _ _⟩
        have z1 := hB1.c1
        have z3 := hB1.r0
        have z4 := hB1.r1
        have z5 := hB1.r2
        have z6 := hB1.rs.frozen 0
        have z7 := hB1.rs.frozen 1
        have z8 := hB1.rs.frozen 2
        have z9 := hB1.k6
        have b1' := hb1.alloc hb1.size (.cells #[.int .i64 F.cl, hv F.ty, .string F.nm, .int .i64 ((m : Nat) : Int), .int .i64 F.hi, .int .i64 F.un, .int .i64 F.ki] 206)
        go_wp2_with (first | (refine wpList_new_form rfl 206 _ _ rfl w1 _ _ rfl rfl rfl (by kernel_rfl) rfl ?_))
        refine (hFt _).mono ?_
        rintro e w2 ⟨rfl, b2⟩
        have hB2 := hB1.below b2
        have hb2 := b1'.trans (b2.mono b1'.size)
        clear z1 z3 z4 z5 z6 z7 z8 z9
        have y1 := hB2.c1
        have y3 := hB2.r0
        have y4 := hB2.r1
        have y5 := hB2.r2
        have y6 := hB2.rs.frozen 0
        have y7 := hB2.rs.frozen 1
        have y8 := hB2.rs.frozen 2
        go_wp2_with (refine wpList_slice_is rfl 22 _ _ _ _ rfl (by rw [elem_u8]; exact Tryz.underlying22) _ (hs1 _) ?_)
        refine (hJ _ hb2).mono ?_
        rintro e w3 ⟨A2, c2, rfl, own3, b3⟩
        have b3' := hb2.trans (b3.mono (hb2).size)
        have hB3 := hB2.below b3
        clear y1 y3 y4 y5 y6 y7 y8
        have x0 := hB3.c0
        have x1 := hB3.c1
        have hIs3 := own_isB own3
        have hcap3 := own_cap own3
        have x3 := hB3.r0
        have x4 := hB3.r1
        have x5 := hB3.r2
        have x6 := hB3.rs.frozen 0
        have x7 := hB3.rs.frozen 1
        have x8 := hB3.rs.frozen 2
        go_wp2_with fail
        refine (hC A2 c2 w3 (Lies.own own3) hcap3.2.1 hcap3.2.2).mono ?_
        rintro e w4 ⟨rfl, b4⟩
        have b4' := b3'.trans (b4.mono b3'.size)
        have hB4 := hB3.below b4
        clear x0 x1 x3 x4 x5 x6 x7 x8
        have u1 := hB4.c1
        have u3 := hB4.r0
        have u4 := hB4.r1
        have u5 := hB4.r2
        have u6 := hB4.rs.frozen 0
        have u7 := hB4.rs.frozen 1
        have u8 := hB4.rs.frozen 2
        have uk := hB4.k6
        go_wp2_with fail
        refine (hIn _).mono ?_
        rintro e w5 ⟨rfl, rfl⟩
        clear uk
        go_wp2_with (refine wpList_slice_is rfl 22 _ _ _ _ rfl (by rw [elem_u8]; exact Tryz.underlying22) _ (hs5 _) ?_)
        refine (hP _ b4').mono ?_
        rintro e w6 ⟨b6, rfl⟩
        have b6' := b4'.trans (b6.mono b4'.size)
        have hB6 := hB4.below b6
        clear u1 u3 u4 u5 u6 u7 u8
        have t3 := hB6.r0
        have t4 := hB6.r1
        have t5 := hB6.r2
        have t6 := hB6.rs.frozen 0
        have t7 := hB6.rs.frozen 1
        have t8 := hB6.rs.frozen 2
        have hSh := Shift_fault (code : Int) a (4 + m) w6 (hh.below b6' hh.lt) (by omega)
        simp only [Int.natCast_add, Int.cast_ofNat_Int] at hSh
        simp only [faultV] at hSh ⊢
        go_wp2_with fail
        refine hSh.mono ?_
        rintro e w7 ⟨rfl, b7⟩
        have b7' := b6'.trans (b7.mono b6'.size)
        have hB7 := hB6.below b7
        clear t3 t4 t5 t6 t7 t8
        have t3 := hB7.r0
        have t4 := hB7.r1
        have t5 := hB7.r2
        have t6 := hB7.rs.frozen 0
        have t7 := hB7.rs.frozen 1
        have t8 := hB7.rs.frozen 2
        go_wp2_with fail
        (try simp only [Exit.inBlock, Exit.then])
        refine bodyPost_ret (results_row_tmp rfl _ _ (w.heap.size + 1) 50 _ _ rfl (hB7.set _ _ _) Tryz.underlying50 rfl (by kernel_rfl)) rfl ?_
        rw [HR.out]
        exact ⟨((b7'.setCell (by simp) _).setCell (by simp) _).setCell (by simp) _, by simp [faultV]⟩
      | ok kids =>
        rw [hpa] at hP
        have hcc := HCC.out
        rw [hpa] at hcc
        have HCC2 := Lib.hid hcc
        clear hpa HCC hpat hcc
        cases hib : insB F.ki kids with
        | false =>
          have hr7 : r = .bad 7 0 := by rw [HCC2.out]; simp only [hib, if_true]
          have HR := Lib.hid hr7
          clear hr7 HCC2
          go_enter Tryz.func144, Tryz.ntmps144
          go_wp2_with fail
          refine (hO _).mono ?_
          rintro e w1 ⟨rfl, b1⟩
          have hb1 := b0.trans (b1.mono (by simp <;> omega))
          have hB1 : Box3 (w1.alloc (.cells #[.int .i64 F.cl, hv F.ty, .string F.nm, .int .i64 ((m : Nat) : Int), .int .i64 F.hi, .int .i64 F.un, .int .i64 F.ki] 206)) w.heap.size w1.heap.size fr A cc F ((m : Nat) : Int) := ⟨(hW0.below b1 (by simp <;> omega)).alloc _, (hW1.below b1 (by simp)).alloc _, Whole.new _ _ _⟩
          have z1 := hB1.c1
          have z3 := hB1.r0
          have z4 := hB1.r1
          have z5 := hB1.r2
          have z6 := hB1.rs.frozen 0
          have z7 := hB1.rs.frozen 1
          have z8 := hB1.rs.frozen 2
          have z9 := hB1.k6
          have b1' := hb1.alloc hb1.size (.cells #[.int .i64 F.cl, hv F.ty, .string F.nm, .int .i64 ((m : Nat) : Int), .int .i64 F.hi, .int .i64 F.un, .int .i64 F.ki] 206)
          go_wp2_with (first | (refine wpList_new_form rfl 206 _ _ rfl w1 _ _ rfl rfl rfl (by kernel_rfl) rfl ?_))
          refine (hFt _).mono ?_
          rintro e w2 ⟨rfl, b2⟩
          have hB2 := hB1.below b2
          have hb2 := b1'.trans (b2.mono b1'.size)
          clear z1 z3 z4 z5 z6 z7 z8 z9
          have y1 := hB2.c1
          have y3 := hB2.r0
          have y4 := hB2.r1
          have y5 := hB2.r2
          have y6 := hB2.rs.frozen 0
          have y7 := hB2.rs.frozen 1
          have y8 := hB2.rs.frozen 2
          go_wp2_with (refine wpList_slice_is rfl 22 _ _ _ _ rfl (by rw [elem_u8]; exact Tryz.underlying22) _ (hs1 _) ?_)
          refine (hJ _ hb2).mono ?_
          rintro e w3 ⟨A2, c2, rfl, own3, b3⟩
          have b3' := hb2.trans (b3.mono (hb2).size)
          have hB3 := hB2.below b3
          clear y1 y3 y4 y5 y6 y7 y8
          have x0 := hB3.c0
          have x1 := hB3.c1
          have hIs3 := own_isB own3
          have hcap3 := own_cap own3
          have x3 := hB3.r0
          have x4 := hB3.r1
          have x5 := hB3.r2
          have x6 := hB3.rs.frozen 0
          have x7 := hB3.rs.frozen 1
          have x8 := hB3.rs.frozen 2
          go_wp2_with fail
          refine (hC A2 c2 w3 (Lies.own own3) hcap3.2.1 hcap3.2.2).mono ?_
          rintro e w4 ⟨rfl, b4⟩
          have b4' := b3'.trans (b4.mono b3'.size)
          have hB4 := hB3.below b4
          clear x0 x1 x3 x4 x5 x6 x7 x8
          have u1 := hB4.c1
          have u3 := hB4.r0
          have u4 := hB4.r1
          have u5 := hB4.r2
          have u6 := hB4.rs.frozen 0
          have u7 := hB4.rs.frozen 1
          have u8 := hB4.rs.frozen 2
          have uk := hB4.k6
          go_wp2_with fail
          refine (hIn _).mono ?_
          rintro e w5 ⟨rfl, rfl⟩
          clear uk
          go_wp2_with (refine wpList_slice_is rfl 22 _ _ _ _ rfl (by rw [elem_u8]; exact Tryz.underlying22) _ (hs5 _) ?_)
          refine (hP _ b4').mono ?_
          rintro e w6 ⟨b6, A6, c6, rfl, hN6, m7, m8, m9⟩
          have b6' := b4'.trans (b6.mono b4'.size)
          have hB6 := hB4.below b6
          clear u1 u3 u4 u5 u6 u7 u8
          have t0 := hB6.k0
          have t1 := hB6.k1
          have t2 := hB6.k2
          have t3 := hB6.k3
          have t4 := hB6.k4
          have t5 := hB6.k5
          have t6 := hB6.k6
          have hHH := hH A6 c6 kids w6 (hN6.nodes fun b hb => hb.2) m9
          rw [hib] at hHH
          have HHH := Lib.hid hHH
          clear hHH hib
          go_wp2_with fail
          refine HHH.out.mono ?_
          rintro e w7 ⟨rfl, b7⟩
          have b7' := b6'.trans (b7.mono b6'.size)
          have hB7 := hB6.below b7
          clear t0 t1 t2 t3 t4 t5 t6
          have t0 := hB7.c0
          have t3 := hB7.r0
          have t4 := hB7.r1
          have t5 := hB7.r2
          have t6 := hB7.rs.frozen 0
          have t7 := hB7.rs.frozen 1
          have t8 := hB7.rs.frozen 2
          go_wp2_with fail
          refine (New_any _ _ _).mono ?_
          rintro e w9 ⟨rfl, rfl⟩
          go_wp2_with fail
          (try simp only [Exit.inBlock, Exit.then])
          refine bodyPost_ret (results_row_tmp rfl _ _ (w.heap.size + 1) 50 _ _ rfl (hB7.set _ _ _) Tryz.underlying50 rfl (by kernel_rfl)) rfl ?_
          rw [HR.out]
          exact ⟨((b7'.setCell (by simp) _).setCell (by simp) _).setCell (by simp) _, rfl⟩
        | true =>
          have hr7 : r = .ok (.mk fr.t D kids) := by rw [HCC2.out]; simp [hib]
          have HR := Lib.hid hr7
          clear hr7 HCC2
          go_enter Tryz.func144, Tryz.ntmps144
          go_wp2_with fail
          refine (hO _).mono ?_
          rintro e w1 ⟨rfl, b1⟩
          have hb1 := b0.trans (b1.mono (by simp <;> omega))
          have hB1 : Box3 (w1.alloc (.cells #[.int .i64 F.cl, hv F.ty, .string F.nm, .int .i64 ((m : Nat) : Int), .int .i64 F.hi, .int .i64 F.un, .int .i64 F.ki] 206)) w.heap.size w1.heap.size fr A cc F ((m : Nat) : Int) := ⟨(hW0.below b1 (by simp <;> omega)).alloc _, (hW1.below b1 (by simp)).alloc _, Whole.new _ _ _⟩
          have z1 := hB1.c1
          have z3 := hB1.r0
          have z4 := hB1.r1
          have z5 := hB1.r2
          have z6 := hB1.rs.frozen 0
          have z7 := hB1.rs.frozen 1
          have z8 := hB1.rs.frozen 2
          have z9 := hB1.k6
          have b1' := hb1.alloc hb1.size (.cells #[.int .i64 F.cl, hv F.ty, .string F.nm, .int .i64 ((m : Nat) : Int), .int .i64 F.hi, .int .i64 F.un, .int .i64 F.ki] 206)
          go_wp2_with (first | (refine wpList_new_form rfl 206 _ _ rfl w1 _ _ rfl rfl rfl (by kernel_rfl) rfl ?_))
          refine (hFt _).mono ?_
          rintro e w2 ⟨rfl, b2⟩
          have hB2 := hB1.below b2
          have hb2 := b1'.trans (b2.mono b1'.size)
          clear z1 z3 z4 z5 z6 z7 z8 z9
          have y1 := hB2.c1
          have y3 := hB2.r0
          have y4 := hB2.r1
          have y5 := hB2.r2
          have y6 := hB2.rs.frozen 0
          have y7 := hB2.rs.frozen 1
          have y8 := hB2.rs.frozen 2
          go_wp2_with (refine wpList_slice_is rfl 22 _ _ _ _ rfl (by rw [elem_u8]; exact Tryz.underlying22) _ (hs1 _) ?_)
          refine (hJ _ hb2).mono ?_
          rintro e w3 ⟨A2, c2, rfl, own3, b3⟩
          have b3' := hb2.trans (b3.mono (hb2).size)
          have hB3 := hB2.below b3
          clear y1 y3 y4 y5 y6 y7 y8
          have x0 := hB3.c0
          have x1 := hB3.c1
          have hIs3 := own_isB own3
          have hcap3 := own_cap own3
          have x3 := hB3.r0
          have x4 := hB3.r1
          have x5 := hB3.r2
          have x6 := hB3.rs.frozen 0
          have x7 := hB3.rs.frozen 1
          have x8 := hB3.rs.frozen 2
          go_wp2_with fail
          refine (hC A2 c2 w3 (Lies.own own3) hcap3.2.1 hcap3.2.2).mono ?_
          rintro e w4 ⟨rfl, b4⟩
          have b4' := b3'.trans (b4.mono b3'.size)
          have hB4 := hB3.below b4
          clear x0 x1 x3 x4 x5 x6 x7 x8
          have u1 := hB4.c1
          have u3 := hB4.r0
          have u4 := hB4.r1
          have u5 := hB4.r2
          have u6 := hB4.rs.frozen 0
          have u7 := hB4.rs.frozen 1
          have u8 := hB4.rs.frozen 2
          have uk := hB4.k6
          go_wp2_with fail
          refine (hIn _).mono ?_
          rintro e w5 ⟨rfl, rfl⟩
          clear uk
          go_wp2_with (refine wpList_slice_is rfl 22 _ _ _ _ rfl (by rw [elem_u8]; exact Tryz.underlying22) _ (hs5 _) ?_)
          refine (hP _ b4').mono ?_
          rintro e w6 ⟨b6, A6, c6, rfl, hN6, m7, m8, m9⟩
          have b6' := b4'.trans (b6.mono b4'.size)
          have hB6 := hB4.below b6
          clear u1 u3 u4 u5 u6 u7 u8
          have t0 := hB6.k0
          have t1 := hB6.k1
          have t2 := hB6.k2
          have t3 := hB6.k3
          have t4 := hB6.k4
          have t5 := hB6.k5
          have t6 := hB6.k6
          have hHH := hH A6 c6 kids w6 (hN6.nodes fun b hb => hb.2) m9
          rw [hib] at hHH
          have HHH := Lib.hid hHH
          clear hHH hib
          go_wp2_with fail
          refine HHH.out.mono ?_
          rintro e w7 ⟨rfl, b7⟩
          have b7' := b6'.trans (b7.mono b6'.size)
          have hB7 := hB6.below b7
          clear t0 t1 t2 t3 t4 t5 t6
          have t0 := hB7.c0
          have t3 := hB7.r0
          have t4 := hB7.r1
          have t5 := hB7.r2
          have t6 := hB7.rs.frozen 0
          have t7 := hB7.rs.frozen 1
          have t8 := hB7.rs.frozen 2
          go_wp2_with fail
          have hfar : ∀ p : Addr, p.block ≠ w.heap.size + 1 → (((w7.setCell ⟨w.heap.size + 1, 0, none⟩ (hv fr.t)).setCell ⟨w.heap.size + 1, 1, none⟩ (.slice A2 D.length c2)).setCell ⟨w.heap.size + 1, 2, none⟩ (.slice A6 kids.length c6)).cell? p = w7.cell? p := fun p hp => by
            rw [World.cell?_setCell_other _ _ _ _ (fun e => hp (by rw [← e])), World.cell?_setCell_other _ _ _ _ (fun e => hp (by rw [← e])), World.cell?_setCell_other _ _ _ _ (fun e => hp (by rw [← e]))]
          have hBf : Below w.heap.size w (((w7.setCell ⟨w.heap.size + 1, 0, none⟩ (hv fr.t)).setCell ⟨w.heap.size + 1, 1, none⟩ (.slice A2 D.length c2)).setCell ⟨w.heap.size + 1, 2, none⟩ (.slice A6 kids.length c6)) :=
            ((b7'.setCell (by simp) _).setCell (by simp) _).setCell (by simp) _
          have hszf : (((w7.setCell ⟨w.heap.size + 1, 0, none⟩ (hv fr.t)).setCell ⟨w.heap.size + 1, 1, none⟩ (.slice A2 D.length c2)).setCell ⟨w.heap.size + 1, 2, none⟩ (.slice A6 kids.length c6)).heap.size = w7.heap.size := by simp [World.setCell]
          (try simp only [Exit.inBlock, Exit.then])
          refine bodyPost_ret (results_row_tmp rfl _ _ (w.heap.size + 1) 50 _ _ rfl (hB7.set _ _ _) Tryz.underlying50 rfl (by kernel_rfl)) rfl ?_
          rw [HR.out]
          have hs4 := b4.size
          have hs6 := b6.size
          have hs7 := b7.size
          have hg1 : w.heap.size + 1 < (w2).heap.size := hB2.rs.lt
          have hl3 := own_liesS own3 (L := (w2).heap.size) (Nat.le_refl _)
          refine ⟨hBf, A2, c2, A6, c6, rfl, ⟨hl3.turn (fun p hp => ?_) (fun b hb => ?_), hcap3.2.1, hcap3.2.2, hN6.turn (fun p hp => ?_) (fun b hb => ?_), m7, m8⟩⟩
          · have h1 := hp.1
            exact (hfar p (by omega)).trans ((b7.cell (by have := hp.2; omega)).trans ((b6.cell (by have := hp.2; omega)).trans (b4.cell hp.2)))
          · have h1 := hb.1
            exact ⟨by omega, Nat.lt_of_lt_of_le (show b < w7.heap.size by have := hb.2; omega) (Nat.le_of_eq hszf.symm)⟩
          · have h1 := hp.1
            have h3 := b3.size
            exact (hfar p (by omega)).trans (b7.cell hp.2)
          · have h1 := hb.1
            have h3 := b3.size
            exact ⟨by omega, Nat.lt_of_lt_of_le (show b < w7.heap.size by have := hb.2; omega) (Nat.le_of_eq hszf.symm)⟩
end Go.Proofs.YthkbcpbgoefanaaGreatDoor


