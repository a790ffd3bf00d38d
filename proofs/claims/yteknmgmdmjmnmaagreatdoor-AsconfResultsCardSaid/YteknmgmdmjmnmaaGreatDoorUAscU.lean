/- Layer 18: the law AsconfResults (written by tools/gen_asc_u.py). It writes nothing that was there. -/
import Derived.Test.YteknmgmdmjmnmaaGreatDoorUAscT
import Derived.Test.YteknmgmdmjmnmaaGreatDoorUASM
import Derived.BigGuard
import Derived.Deep.CutRange




namespace Go.Proofs.YteknmgmdmjmnmaaGreatDoor
open Go.ChangeShapes Go.WideShapes Go.ChangeAt Go.RowKit

set_option linter.unusedSimpArgs false
set_option maxRecDepth 100000 in
set_option maxHeartbeats 16000000 in
theorem results_law18 (q a : Ck) (hbq : ∀ m ∈ q.ks, Bnd m) (hba : ∀ m ∈ a.ks, Bnd m) (A : Option Addr) (c : Nat) (K : Option Addr) (k : Nat) (A' : Option Addr) (c' : Nat) (K' : Option Addr) (k' : Nat) (w : World) (hq : Chunk w w.heap.size A c K k q) (ha : Chunk w w.heap.size A' c' K' k' a) (hql : q.ks.length ≤ 9223372036854775807) (hal : a.ks.length ≤ 9223372036854775807) (hh : Handle w) (hT : Tbl w) :
    Calls Tryz.prog 10 #[ckV q A c K k, ckV a A' c' K' k'] w fun e w' => e = .returned (.bool true) ∧ Below w.heap.size w w' := by
  have b0 : Below w.heap.size w ((w.alloc (.cells (ckCells q A c K k) 62)).alloc (.cells (ckCells a A' c' K' k') 62)) := ((Below.refl _ w).alloc (Nat.le_refl _) _).alloc (by simp) _
  have x0 := (Whole.new w 62 (ckCells q A c K k)).alloc (.cells (ckCells a A' c' K' k') 62)
  have y0 := Whole.new (w.alloc (.cells (ckCells q A c K k) 62)) 62 (ckCells a A' c' K' k')
  rw [World.size_alloc] at y0
  have HAW := Lib.hid (fun (V : World) (hb : Below w.heap.size w V) => awake18_any V (hh.below hb hh.lt) (hT.below hb))
  have HFQ := Lib.hid (fun (V : World) (hb : Below w.heap.size w V) => rfew12 q hql hbq A c K k V (hq.on hb))
  have HFA := Lib.hid (fun (V : World) (hb : Below w.heap.size w V) => rfew12 a hal hba A' c' K' k' V (ha.on hb))
  have HRE := Lib.hid (fun (hf : fewB q = true) (hg : fewB a = true) (V : World) (hb : Below w.heap.size w V) => results18_any q a (fewC_fine18 hf) (fewC_fine18 hg) A c K k A' c' K' k' V (hq.on hb) (ha.on hb) (hh.below hb hh.lt))
  have HRQ := Lib.hid (fun (hf : fewB q = true) (V : World) (hb : Below w.heap.size w V) => rreq18_any q (fewC_fine18 hf) A c K k V (hq.on hb))
  have HRA := Lib.hid (fun (hf : fewB a = true) (V : World) (hb : Below w.heap.size w V) => rack18_any a (fewC_fine18 hf) A' c' K' k' V (ha.on hb))
  have HN1 : Hid (reqB q = true → ∀ V, Below w.heap.size w V → Calls Tryz.prog 37 #[.slice A q.d.length c] V fun e w' => e = .returned (uv (numD q.d)) ∧ V = w') := Lib.hid (fun hi V hV => rnum18_any q.d (req_len hi) A c V.heap.size V (hq.on hV).data)
  have HN2 : Hid (ackB a = true → ∀ V, Below w.heap.size w V → Calls Tryz.prog 37 #[.slice A' a.d.length c'] V fun e w' => e = .returned (uv (numD a.d)) ∧ V = w') := Lib.hid (fun hi V hV => rnum18_any a.d (ack_len hi) A' c' V.heap.size V (ha.on hV).data)
  have HRR : Hid (fewB q = true → fewB a = true → reqB q = true → ackB a = true → ∀ V, Below w.heap.size w V → Calls Tryz.prog 43 #[ckV q A c K k, ckV a A' c' K' k'] V fun e w' => ∃ A2 c2, e = .returned (.slice A2 (q.ks.drop 1).length c2) ∧ w'.ownsRow V.heap.size 3 1 (.slice A2 (q.ks.drop 1).length c2) (q.ks.drop 1).length ((outL q a).map iv18) ∧ Below V.heap.size V w') := Lib.hid (fun hf hg h1 h2 V hV =>
    rresults18_any q a (fun n hn => (chg_parts (req_kid h1 n hn)).2.2) (fun n hn => (res_parts (ack_kid h2 n hn)).2.2) (fewC_fine18 hf).ks (fewC_fine18 hg).ks (by
      obtain ⟨_, x, l, e, _⟩ := chunk193 (req_parts h1).1 (req_parts h1).2.1
      rw [e]
      simp) A c K k A' c' K' k' V (hq.on hV) (ha.on hV))
  have HRS : Hid (resOk q a = (reqB q && ackB a && decide (numD q.d = numD a.d))) := Lib.hid rfl
  have HEQ : Hid (fewB q = true → ∀ (A1 A2 : Option Addr) (c1 c2 : Nat) (V : World), Lies V V.heap.size A1 ((outL q a).map iv18) → Lies V V.heap.size A2 ((outL q a).map iv18) → Calls Tryz.prog 42 #[.slice A1 (q.ks.drop 1).length c1, .slice A2 (q.ks.drop 1).length c2] V fun e w' => e = .returned (.bool true) ∧ Below V.heap.size V w') := Lib.hid (fun hf A1 A2 c1 c2 V h1 h2 => by
    have h3 := seqi18_self (outL q a) A1 A2 c1 c2 V h1 h2 (by have := (fewC_fine18 hf).ks; rw [outL_len, List.length_drop]; omega)
    rw [outL_len] at h3
    exact h3)
  clear hq ha hbq hba hql hal hh hT
  generalize fewB q = fq at *
  generalize fewB a = fa at *
  generalize resOk q a = ro at *
  generalize outL q a = OL at *
  generalize reqB q = rb at *
  generalize ackB a = ab at *
  generalize numD q.d = n1 at *
  generalize numD a.d = n2 at *
  generalize (q.ks.drop 1).length = dl at *
  obtain ⟨t, fl, d, ks⟩ := q
  obtain ⟨t', fl', d', ks'⟩ := a
  simp only [ckV, ckCells] at *
  generalize d.length = ld at *
  generalize ks.length = lks at *
  generalize d'.length = ld' at *
  generalize ks'.length = lks' at *
  go_enter Tryz.func10, Tryz.ntmps10
  go_upto_region 1 with fail
  generalize (w.alloc (.cells #[bv t, bv fl, .slice A ld c, .slice K lks k] 62)).alloc (.cells #[bv t', bv fl', .slice A' ld' c', .slice K' lks' k'] 62) = w0 at *
  have B0 := b0
  clear b0
  obtain ⟨p0, p1, p2, p3⟩ := wh4 x0
  obtain ⟨r0, r1, r2, r3⟩ := wh4 y0
  have H1 := Lib.hid (HAW.out w0 B0)
  go_wp2_with fail
  refine H1.out.mono ?_
  rintro e w1 ⟨rfl, b1⟩
  have B1 := B0.trans (b1.mono B0.size)
  have x1 := x0.below b1 x0.lt
  have y1 := y0.below b1 y0.lt
  clear H1 p0 p1 p2 p3 r0 r1 r2 r3 x0 y0 B0 b1
  obtain ⟨p0, p1, p2, p3⟩ := wh4 x1
  obtain ⟨r0, r1, r2, r3⟩ := wh4 y1
  have HF1 := Lib.hid (HFQ.out w1 B1)
  clear HFQ
  cases fq with
  | false =>
    go_wp2_with fail
    refine HF1.out.mono ?_
    rintro e w2 ⟨rfl, b2⟩
    have B2 := B1.trans (b2.mono B1.size)
    have HW := Lib.hid (HAW.out w2 B2)
    clear HF1
    go_wp2_with fail
    refine HW.out.mono ?_
    rintro e w3 ⟨rfl, b3⟩
    have HBF := Lib.hid (B2.trans (b3.mono B2.size))
    clear HW
    go_wp2_with fail
    go_ret
    exact ⟨rfl, HBF.out⟩
  | true =>
    go_wp2_with fail
    refine HF1.out.mono ?_
    rintro e w2 ⟨rfl, b2⟩
    have B2 := B1.trans (b2.mono B1.size)
    have x2 := x1.below b2 x1.lt
    have y2 := y1.below b2 y1.lt
    clear HF1 p0 p1 p2 p3 r0 r1 r2 r3 x1 y1 B1 b2
    obtain ⟨p0, p1, p2, p3⟩ := wh4 x2
    obtain ⟨r0, r1, r2, r3⟩ := wh4 y2
    have HF1 := Lib.hid (HFA.out w2 B2)
    clear HFA
    cases fa with
    | false =>
      go_wp2_with fail
      refine HF1.out.mono ?_
      rintro e w3 ⟨rfl, b3⟩
      have B3 := B2.trans (b3.mono B2.size)
      have HW := Lib.hid (HAW.out w3 B3)
      clear HF1
      go_wp2_with fail
      refine HW.out.mono ?_
      rintro e w4 ⟨rfl, b4⟩
      have HBF := Lib.hid (B3.trans (b4.mono B3.size))
      clear HW
      go_wp2_with fail
      go_ret
      exact ⟨rfl, HBF.out⟩
    | true =>
      go_wp2_with fail
      refine HF1.out.mono ?_
      rintro e w3 ⟨rfl, b3⟩
      have B3 := B2.trans (b3.mono B2.size)
      have x3 := x2.below b3 x2.lt
      have y3 := y2.below b3 y2.lt
      clear HF1 p0 p1 p2 p3 r0 r1 r2 r3 x2 y2 B2 b3
      obtain ⟨p0, p1, p2, p3⟩ := wh4 x3
      obtain ⟨r0, r1, r2, r3⟩ := wh4 y3
      go_upto_region 3 with fail
      have H1 := Lib.hid (HRE.out (by trivial) (by trivial) w3 B3)
      clear HRE HAW
      go_wp2_with fail
      refine H1.out.mono ?_
      intro e w4 hk
      obtain ⟨b4, hk2⟩ := hk
      have B4 := B3.trans (b4.mono B3.size)
      have x4 := x3.below b4 x3.lt
      have y4 := y3.below b4 y3.lt
      clear H1 p0 p1 p2 p3 r0 r1 r2 r3 x3 y3 B3 b4
      have HB4 := Lib.hid B4
      have KX : Hid (∀ V, Below w4.heap.size w4 V → Whole V w.heap.size 62 #[bv t, bv fl, .slice A ld c, .slice K lks k] ∧ Whole V (w.heap.size + 1) 62 #[bv t', bv fl', .slice A' ld' c', .slice K' lks' k']) := Lib.hid (fun V hV => ⟨x4.below hV x4.lt, y4.below hV y4.lt⟩)
      have KS : Hid (∀ V, Below w4.heap.size w4 V → (V.cell? ⟨w.heap.size, 0, none⟩ = some (bv t) ∧ V.cell? ⟨w.heap.size, 1, none⟩ = some (bv fl) ∧ V.cell? ⟨w.heap.size, 2, none⟩ = some (.slice A ld c) ∧ V.cell? ⟨w.heap.size, 3, none⟩ = some (.slice K lks k)) ∧ V.cell? ⟨w.heap.size + 1, 0, none⟩ = some (bv t') ∧ V.cell? ⟨w.heap.size + 1, 1, none⟩ = some (bv fl') ∧ V.cell? ⟨w.heap.size + 1, 2, none⟩ = some (.slice A' ld' c') ∧ V.cell? ⟨w.heap.size + 1, 3, none⟩ = some (.slice K' lks' k')) := Lib.hid (fun V hV => ⟨wh4 (KX.out V hV).1, wh4 (KX.out V hV).2⟩)
      clear x4 y4 B4
      rcases hk2 with ⟨rfl, A2, c2, rfl, o4⟩ | ⟨rfl, rfl⟩
      · have hro : (rb && ab && decide (n1 = n2)) = true := HRS.out.symm
        have HO4 := Lib.hid o4
        clear o4
        go_upto_region 4 with fail
        go_cut [42] from 26 to 42 (fun v wx => v = .bool (!(rb && ab && decide (n1 = n2))) ∧ Hid (Below w4.heap.size w4 wx))
        case first =>
          cases rb with
          | false =>
            refine wp_region_held_drew (S := (fun V => (V.cell? ⟨w.heap.size, 0, none⟩ = some (bv t) ∧ V.cell? ⟨w.heap.size, 1, none⟩ = some (bv fl) ∧ V.cell? ⟨w.heap.size, 2, none⟩ = some (.slice A ld c) ∧ V.cell? ⟨w.heap.size, 3, none⟩ = some (.slice K lks k)) ∧ V.cell? ⟨w.heap.size + 1, 0, none⟩ = some (bv t') ∧ V.cell? ⟨w.heap.size + 1, 1, none⟩ = some (bv fl') ∧ V.cell? ⟨w.heap.size + 1, 2, none⟩ = some (.slice A' ld' c') ∧ V.cell? ⟨w.heap.size + 1, 3, none⟩ = some (.slice K' lks' k'))) (by kernel_rfl) (KS.out _ (below_drew (Below.refl _ _))) (fun hHeld => ?_)
            refine take_at (i := 0) (v := ?_) (some 26) rfl (by kernel_rfl) (by kernel_rfl) (by kernel_rfl) (fun _ _ _ h => h) (by kernel_rfl) (Or.inl ⟨by kernel_rfl, ?_⟩) (by assumption) ?_
            rotate_left
            · (intro w hSw; (try dsimp only at hSw); go_simp <;> with_reducible rfl)
            simp only [Act.put, List.setIfInBounds_toArray, List.set_cons_zero, List.set_cons_succ]
            refine wpAnyH_ready (rs := [1]) (by kernel_rfl) (by simp) ?_
            refine AllReadyH.cons rfl (fun K hK => ?_) AllReadyH.nil
            go_simp
            (with_reducible refine (HRQ.out (by trivial) w4.drew (below_drew HB4.out)).mono ?_); rintro e w5 ⟨rfl, b5⟩
            go_wp2_with fail
            have B5 : Below w4.heap.size w4 w5 := (below_drew (Below.refl _ _)).trans b5
            clear b5
            clear hHeld
            refine hK.out _ _ (KS.out _ B5) (fun hHeld => ?_)
            clear hK K
            try simp only [Act.put, List.setIfInBounds_toArray, List.set_cons_zero, List.set_cons_succ]
            refine take_at (i := 2) (v := ?_) (some 28) rfl (by kernel_rfl) (by kernel_rfl) (by kernel_rfl) (fun _ _ _ h => h) (by kernel_rfl) (Or.inl ⟨by kernel_rfl, ?_⟩) (by assumption) ?_
            rotate_left
            · (intro w hSw; (try dsimp only at hSw); go_simp <;> with_reducible rfl)
            simp only [Act.put, List.setIfInBounds_toArray, List.set_cons_zero, List.set_cons_succ]
            refine take_at (i := 3) (v := ?_) (some 29) rfl (by kernel_rfl) (by kernel_rfl) (by kernel_rfl) (fun _ _ _ h => h) (by kernel_rfl) (Or.inl ⟨by kernel_rfl, ?_⟩) (by assumption) ?_
            rotate_left
            · (intro w hSw; (try dsimp only at hSw); go_simp <;> with_reducible rfl)
            simp only [Act.put, List.setIfInBounds_toArray, List.set_cons_zero, List.set_cons_succ]
            refine take_at (i := 4) (v := undef) (some 30) rfl (by kernel_rfl) (by kernel_rfl) (by kernel_rfl) (fun _ _ _ h => h) (by kernel_rfl) (Or.inr ⟨by kernel_rfl, rfl⟩) (by assumption) ?_
            simp only [Act.put, List.setIfInBounds_toArray, List.set_cons_zero, List.set_cons_succ]
            refine take_at (i := 5) (v := undef) (some 31) rfl (by kernel_rfl) (by kernel_rfl) (by kernel_rfl) (fun _ _ _ h => h) (by kernel_rfl) (Or.inr ⟨by kernel_rfl, rfl⟩) (by assumption) ?_
            simp only [Act.put, List.setIfInBounds_toArray, List.set_cons_zero, List.set_cons_succ]
            refine take_at (i := 6) (v := undef) (some 32) rfl (by kernel_rfl) (by kernel_rfl) (by kernel_rfl) (fun _ _ _ h => h) (by kernel_rfl) (Or.inr ⟨by kernel_rfl, rfl⟩) (by assumption) ?_
            simp only [Act.put, List.setIfInBounds_toArray, List.set_cons_zero, List.set_cons_succ]
            refine take_at (i := 7) (v := ?_) (some 33) rfl (by kernel_rfl) (by kernel_rfl) (by kernel_rfl) (fun _ _ _ h => h) (by kernel_rfl) (Or.inl ⟨by kernel_rfl, ?_⟩) (by assumption) ?_
            rotate_left
            · (intro w hSw; (try dsimp only at hSw); go_simp <;> with_reducible rfl)
            simp only [Act.put, List.setIfInBounds_toArray, List.set_cons_zero, List.set_cons_succ]
            refine take_at (i := 8) (v := ?_) (some 34) rfl (by kernel_rfl) (by kernel_rfl) (by kernel_rfl) (fun _ _ _ h => h) (by kernel_rfl) (Or.inl ⟨by kernel_rfl, ?_⟩) (by assumption) ?_
            rotate_left
            · (intro w hSw; (try dsimp only at hSw); go_simp <;> with_reducible rfl)
            simp only [Act.put, List.setIfInBounds_toArray, List.set_cons_zero, List.set_cons_succ]
            refine take_at (i := 9) (v := undef) (some 35) rfl (by kernel_rfl) (by kernel_rfl) (by kernel_rfl) (fun _ _ _ h => h) (by kernel_rfl) (Or.inr ⟨by kernel_rfl, rfl⟩) (by assumption) ?_
            simp only [Act.put, List.setIfInBounds_toArray, List.set_cons_zero, List.set_cons_succ]
            refine take_at (i := 10) (v := undef) (some 36) rfl (by kernel_rfl) (by kernel_rfl) (by kernel_rfl) (fun _ _ _ h => h) (by kernel_rfl) (Or.inr ⟨by kernel_rfl, rfl⟩) (by assumption) ?_
            simp only [Act.put, List.setIfInBounds_toArray, List.set_cons_zero, List.set_cons_succ]
            refine take_at (i := 11) (v := undef) (some 37) rfl (by kernel_rfl) (by kernel_rfl) (by kernel_rfl) (fun _ _ _ h => h) (by kernel_rfl) (Or.inr ⟨by kernel_rfl, rfl⟩) (by assumption) ?_
            simp only [Act.put, List.setIfInBounds_toArray, List.set_cons_zero, List.set_cons_succ]
            refine take_at (i := 12) (v := undef) (some 38) rfl (by kernel_rfl) (by kernel_rfl) (by kernel_rfl) (fun _ _ _ h => h) (by kernel_rfl) (Or.inr ⟨by kernel_rfl, rfl⟩) (by assumption) ?_
            simp only [Act.put, List.setIfInBounds_toArray, List.set_cons_zero, List.set_cons_succ]
            refine take_at (i := 13) (v := undef) (some 39) rfl (by kernel_rfl) (by kernel_rfl) (by kernel_rfl) (fun _ _ _ h => h) (by kernel_rfl) (Or.inr ⟨by kernel_rfl, rfl⟩) (by assumption) ?_
            simp only [Act.put, List.setIfInBounds_toArray, List.set_cons_zero, List.set_cons_succ]
            refine take_at (i := 14) (v := undef) (some 40) rfl (by kernel_rfl) (by kernel_rfl) (by kernel_rfl) (fun _ _ _ h => h) (by kernel_rfl) (Or.inr ⟨by kernel_rfl, rfl⟩) (by assumption) ?_
            simp only [Act.put, List.setIfInBounds_toArray, List.set_cons_zero, List.set_cons_succ]
            refine take_at (i := 15) (v := undef) (some 41) rfl (by kernel_rfl) (by kernel_rfl) (by kernel_rfl) (fun _ _ _ h => h) (by kernel_rfl) (Or.inr ⟨by kernel_rfl, rfl⟩) (by assumption) ?_
            simp only [Act.put, List.setIfInBounds_toArray, List.set_cons_zero, List.set_cons_succ]
            refine take_at (i := 16) (v := ?_) (some 42) rfl (by kernel_rfl) (by kernel_rfl) (by kernel_rfl) (fun _ _ _ h => h) (by kernel_rfl) (Or.inl ⟨by kernel_rfl, ?_⟩) (by assumption) ?_
            rotate_left
            · (intro w hSw; (try dsimp only at hSw); go_simp <;> with_reducible rfl)
            simp only [Act.put, List.setIfInBounds_toArray, List.set_cons_zero, List.set_cons_succ]
            refine wpAnyH_done (by kernel_rfl) ?_ _
            go_wp2_with fail
            go_meet
            exact ⟨rfl, Lib.hid B5⟩
          | true =>
            cases ab with
            | false =>
              refine wp_region_held_drew (S := (fun V => (V.cell? ⟨w.heap.size, 0, none⟩ = some (bv t) ∧ V.cell? ⟨w.heap.size, 1, none⟩ = some (bv fl) ∧ V.cell? ⟨w.heap.size, 2, none⟩ = some (.slice A ld c) ∧ V.cell? ⟨w.heap.size, 3, none⟩ = some (.slice K lks k)) ∧ V.cell? ⟨w.heap.size + 1, 0, none⟩ = some (bv t') ∧ V.cell? ⟨w.heap.size + 1, 1, none⟩ = some (bv fl') ∧ V.cell? ⟨w.heap.size + 1, 2, none⟩ = some (.slice A' ld' c') ∧ V.cell? ⟨w.heap.size + 1, 3, none⟩ = some (.slice K' lks' k'))) (by kernel_rfl) (KS.out _ (below_drew (Below.refl _ _))) (fun hHeld => ?_)
              refine take_at (i := 0) (v := ?_) (some 26) rfl (by kernel_rfl) (by kernel_rfl) (by kernel_rfl) (fun _ _ _ h => h) (by kernel_rfl) (Or.inl ⟨by kernel_rfl, ?_⟩) (by assumption) ?_
              rotate_left
              · (intro w hSw; (try dsimp only at hSw); go_simp <;> with_reducible rfl)
              simp only [Act.put, List.setIfInBounds_toArray, List.set_cons_zero, List.set_cons_succ]
              refine wpAnyH_ready (rs := [1]) (by kernel_rfl) (by simp) ?_
              refine AllReadyH.cons rfl (fun K hK => ?_) AllReadyH.nil
              go_simp
              (with_reducible refine (HRQ.out (by trivial) w4.drew (below_drew HB4.out)).mono ?_); rintro e w5 ⟨rfl, b5⟩
              go_wp2_with fail
              have B5 : Below w4.heap.size w4 w5 := (below_drew (Below.refl _ _)).trans b5
              clear b5
              clear hHeld
              refine hK.out _ _ (KS.out _ B5) (fun hHeld => ?_)
              clear hK K
              try simp only [Act.put, List.setIfInBounds_toArray, List.set_cons_zero, List.set_cons_succ]
              refine take_at (i := 2) (v := ?_) (some 28) rfl (by kernel_rfl) (by kernel_rfl) (by kernel_rfl) (fun _ _ _ h => h) (by kernel_rfl) (Or.inl ⟨by kernel_rfl, ?_⟩) (by assumption) ?_
              rotate_left
              · (intro w hSw; (try dsimp only at hSw); go_simp <;> with_reducible rfl)
              simp only [Act.put, List.setIfInBounds_toArray, List.set_cons_zero, List.set_cons_succ]
              refine take_at (i := 3) (v := ?_) (some 29) rfl (by kernel_rfl) (by kernel_rfl) (by kernel_rfl) (fun _ _ _ h => h) (by kernel_rfl) (Or.inl ⟨by kernel_rfl, ?_⟩) (by assumption) ?_
              rotate_left
              · (intro w hSw; (try dsimp only at hSw); go_simp <;> with_reducible rfl)
              simp only [Act.put, List.setIfInBounds_toArray, List.set_cons_zero, List.set_cons_succ]
              refine take_at (i := 4) (v := ?_) (some 30) rfl (by kernel_rfl) (by kernel_rfl) (by kernel_rfl) (fun _ _ _ h => h) (by kernel_rfl) (Or.inl ⟨by kernel_rfl, ?_⟩) (by assumption) ?_
              rotate_left
              · (intro w hSw; (try dsimp only at hSw); go_simp <;> with_reducible rfl)
              simp only [Act.put, List.setIfInBounds_toArray, List.set_cons_zero, List.set_cons_succ]
              refine wpAnyH_ready (rs := [5]) (by kernel_rfl) (by simp) ?_
              refine AllReadyH.cons rfl (fun K hK => ?_) AllReadyH.nil
              go_simp
              (with_reducible refine (HRA.out (by trivial) w5 (HB4.out.trans (B5.mono HB4.out.size))).mono ?_); rintro e w6 ⟨rfl, b6⟩
              go_wp2_with fail
              have B6 : Below w4.heap.size w4 w6 := B5.trans (b6.mono B5.size)
              clear b6
              clear hHeld
              refine hK.out _ _ (KS.out _ B6) (fun hHeld => ?_)
              clear hK K
              try simp only [Act.put, List.setIfInBounds_toArray, List.set_cons_zero, List.set_cons_succ]
              refine take_at (i := 6) (v := ?_) (some 32) rfl (by kernel_rfl) (by kernel_rfl) (by kernel_rfl) (fun _ _ _ h => h) (by kernel_rfl) (Or.inl ⟨by kernel_rfl, ?_⟩) (by assumption) ?_
              rotate_left
              · (intro w hSw; (try dsimp only at hSw); go_simp <;> with_reducible rfl)
              simp only [Act.put, List.setIfInBounds_toArray, List.set_cons_zero, List.set_cons_succ]
              refine take_at (i := 7) (v := ?_) (some 33) rfl (by kernel_rfl) (by kernel_rfl) (by kernel_rfl) (fun _ _ _ h => h) (by kernel_rfl) (Or.inl ⟨by kernel_rfl, ?_⟩) (by assumption) ?_
              rotate_left
              · (intro w hSw; (try dsimp only at hSw); go_simp <;> with_reducible rfl)
              simp only [Act.put, List.setIfInBounds_toArray, List.set_cons_zero, List.set_cons_succ]
              refine take_at (i := 8) (v := ?_) (some 34) rfl (by kernel_rfl) (by kernel_rfl) (by kernel_rfl) (fun _ _ _ h => h) (by kernel_rfl) (Or.inl ⟨by kernel_rfl, ?_⟩) (by assumption) ?_
              rotate_left
              · (intro w hSw; (try dsimp only at hSw); go_simp <;> with_reducible rfl)
              simp only [Act.put, List.setIfInBounds_toArray, List.set_cons_zero, List.set_cons_succ]
              refine take_at (i := 9) (v := undef) (some 35) rfl (by kernel_rfl) (by kernel_rfl) (by kernel_rfl) (fun _ _ _ h => h) (by kernel_rfl) (Or.inr ⟨by kernel_rfl, rfl⟩) (by assumption) ?_
              simp only [Act.put, List.setIfInBounds_toArray, List.set_cons_zero, List.set_cons_succ]
              refine take_at (i := 10) (v := undef) (some 36) rfl (by kernel_rfl) (by kernel_rfl) (by kernel_rfl) (fun _ _ _ h => h) (by kernel_rfl) (Or.inr ⟨by kernel_rfl, rfl⟩) (by assumption) ?_
              simp only [Act.put, List.setIfInBounds_toArray, List.set_cons_zero, List.set_cons_succ]
              refine take_at (i := 11) (v := undef) (some 37) rfl (by kernel_rfl) (by kernel_rfl) (by kernel_rfl) (fun _ _ _ h => h) (by kernel_rfl) (Or.inr ⟨by kernel_rfl, rfl⟩) (by assumption) ?_
              simp only [Act.put, List.setIfInBounds_toArray, List.set_cons_zero, List.set_cons_succ]
              refine take_at (i := 12) (v := undef) (some 38) rfl (by kernel_rfl) (by kernel_rfl) (by kernel_rfl) (fun _ _ _ h => h) (by kernel_rfl) (Or.inr ⟨by kernel_rfl, rfl⟩) (by assumption) ?_
              simp only [Act.put, List.setIfInBounds_toArray, List.set_cons_zero, List.set_cons_succ]
              refine take_at (i := 13) (v := undef) (some 39) rfl (by kernel_rfl) (by kernel_rfl) (by kernel_rfl) (fun _ _ _ h => h) (by kernel_rfl) (Or.inr ⟨by kernel_rfl, rfl⟩) (by assumption) ?_
              simp only [Act.put, List.setIfInBounds_toArray, List.set_cons_zero, List.set_cons_succ]
              refine take_at (i := 14) (v := undef) (some 40) rfl (by kernel_rfl) (by kernel_rfl) (by kernel_rfl) (fun _ _ _ h => h) (by kernel_rfl) (Or.inr ⟨by kernel_rfl, rfl⟩) (by assumption) ?_
              simp only [Act.put, List.setIfInBounds_toArray, List.set_cons_zero, List.set_cons_succ]
              refine take_at (i := 15) (v := undef) (some 41) rfl (by kernel_rfl) (by kernel_rfl) (by kernel_rfl) (fun _ _ _ h => h) (by kernel_rfl) (Or.inr ⟨by kernel_rfl, rfl⟩) (by assumption) ?_
              simp only [Act.put, List.setIfInBounds_toArray, List.set_cons_zero, List.set_cons_succ]
              refine take_at (i := 16) (v := ?_) (some 42) rfl (by kernel_rfl) (by kernel_rfl) (by kernel_rfl) (fun _ _ _ h => h) (by kernel_rfl) (Or.inl ⟨by kernel_rfl, ?_⟩) (by assumption) ?_
              rotate_left
              · (intro w hSw; (try dsimp only at hSw); go_simp <;> with_reducible rfl)
              simp only [Act.put, List.setIfInBounds_toArray, List.set_cons_zero, List.set_cons_succ]
              refine wpAnyH_done (by kernel_rfl) ?_ _
              go_wp2_with fail
              go_meet
              exact ⟨rfl, Lib.hid B6⟩
            | true =>
              have hneq : ((n1.toNat : Int) != (n2.toNat : Int)) = !(true && true && decide (n1 = n2)) := by
                by_cases h : n1 = n2
                · subst h; simp
                · have : ¬ (n1.toNat : Int) = (n2.toNat : Int) := fun e => h (UInt32.toNat_inj.1 (by omega))
                  simp [h, this]
              refine wp_region_held_drew (S := (fun V => (V.cell? ⟨w.heap.size, 0, none⟩ = some (bv t) ∧ V.cell? ⟨w.heap.size, 1, none⟩ = some (bv fl) ∧ V.cell? ⟨w.heap.size, 2, none⟩ = some (.slice A ld c) ∧ V.cell? ⟨w.heap.size, 3, none⟩ = some (.slice K lks k)) ∧ V.cell? ⟨w.heap.size + 1, 0, none⟩ = some (bv t') ∧ V.cell? ⟨w.heap.size + 1, 1, none⟩ = some (bv fl') ∧ V.cell? ⟨w.heap.size + 1, 2, none⟩ = some (.slice A' ld' c') ∧ V.cell? ⟨w.heap.size + 1, 3, none⟩ = some (.slice K' lks' k'))) (by kernel_rfl) (KS.out _ (below_drew (Below.refl _ _))) (fun hHeld => ?_)
              refine take_at (i := 0) (v := ?_) (some 26) rfl (by kernel_rfl) (by kernel_rfl) (by kernel_rfl) (fun _ _ _ h => h) (by kernel_rfl) (Or.inl ⟨by kernel_rfl, ?_⟩) (by assumption) ?_
              rotate_left
              · (intro w hSw; (try dsimp only at hSw); go_simp <;> with_reducible rfl)
              simp only [Act.put, List.setIfInBounds_toArray, List.set_cons_zero, List.set_cons_succ]
              refine wpAnyH_ready (rs := [1]) (by kernel_rfl) (by simp) ?_
              refine AllReadyH.cons rfl (fun K hK => ?_) AllReadyH.nil
              go_simp
              (with_reducible refine (HRQ.out (by trivial) w4.drew (below_drew HB4.out)).mono ?_); rintro e w5 ⟨rfl, b5⟩
              go_wp2_with fail
              have B5 : Below w4.heap.size w4 w5 := (below_drew (Below.refl _ _)).trans b5
              clear b5
              clear hHeld
              refine hK.out _ _ (KS.out _ B5) (fun hHeld => ?_)
              clear hK K
              try simp only [Act.put, List.setIfInBounds_toArray, List.set_cons_zero, List.set_cons_succ]
              refine take_at (i := 2) (v := ?_) (some 28) rfl (by kernel_rfl) (by kernel_rfl) (by kernel_rfl) (fun _ _ _ h => h) (by kernel_rfl) (Or.inl ⟨by kernel_rfl, ?_⟩) (by assumption) ?_
              rotate_left
              · (intro w hSw; (try dsimp only at hSw); go_simp <;> with_reducible rfl)
              simp only [Act.put, List.setIfInBounds_toArray, List.set_cons_zero, List.set_cons_succ]
              refine take_at (i := 3) (v := ?_) (some 29) rfl (by kernel_rfl) (by kernel_rfl) (by kernel_rfl) (fun _ _ _ h => h) (by kernel_rfl) (Or.inl ⟨by kernel_rfl, ?_⟩) (by assumption) ?_
              rotate_left
              · (intro w hSw; (try dsimp only at hSw); go_simp <;> with_reducible rfl)
              simp only [Act.put, List.setIfInBounds_toArray, List.set_cons_zero, List.set_cons_succ]
              refine take_at (i := 4) (v := ?_) (some 30) rfl (by kernel_rfl) (by kernel_rfl) (by kernel_rfl) (fun _ _ _ h => h) (by kernel_rfl) (Or.inl ⟨by kernel_rfl, ?_⟩) (by assumption) ?_
              rotate_left
              · (intro w hSw; (try dsimp only at hSw); go_simp <;> with_reducible rfl)
              simp only [Act.put, List.setIfInBounds_toArray, List.set_cons_zero, List.set_cons_succ]
              refine wpAnyH_ready (rs := [5]) (by kernel_rfl) (by simp) ?_
              refine AllReadyH.cons rfl (fun K hK => ?_) AllReadyH.nil
              go_simp
              (with_reducible refine (HRA.out (by trivial) w5 (HB4.out.trans (B5.mono HB4.out.size))).mono ?_); rintro e w6 ⟨rfl, b6⟩
              go_wp2_with fail
              have B6 : Below w4.heap.size w4 w6 := B5.trans (b6.mono B5.size)
              clear b6
              clear hHeld
              refine hK.out _ _ (KS.out _ B6) (fun hHeld => ?_)
              clear hK K
              try simp only [Act.put, List.setIfInBounds_toArray, List.set_cons_zero, List.set_cons_succ]
              refine take_at (i := 6) (v := ?_) (some 32) rfl (by kernel_rfl) (by kernel_rfl) (by kernel_rfl) (fun _ _ _ h => h) (by kernel_rfl) (Or.inl ⟨by kernel_rfl, ?_⟩) (by assumption) ?_
              rotate_left
              · (intro w hSw; (try dsimp only at hSw); go_simp <;> with_reducible rfl)
              simp only [Act.put, List.setIfInBounds_toArray, List.set_cons_zero, List.set_cons_succ]
              refine take_at (i := 7) (v := ?_) (some 33) rfl (by kernel_rfl) (by kernel_rfl) (by kernel_rfl) (fun _ _ _ h => h) (by kernel_rfl) (Or.inl ⟨by kernel_rfl, ?_⟩) (by assumption) ?_
              rotate_left
              · (intro w hSw; (try dsimp only at hSw); go_simp <;> with_reducible rfl)
              simp only [Act.put, List.setIfInBounds_toArray, List.set_cons_zero, List.set_cons_succ]
              refine take_at (i := 8) (v := ?_) (some 34) rfl (by kernel_rfl) (by kernel_rfl) (by kernel_rfl) (fun _ _ _ h => h) (by kernel_rfl) (Or.inl ⟨by kernel_rfl, ?_⟩) (by assumption) ?_
              rotate_left
              · (intro w hSw; (try dsimp only at hSw); go_simp <;> with_reducible rfl)
              simp only [Act.put, List.setIfInBounds_toArray, List.set_cons_zero, List.set_cons_succ]
              refine take_at (i := 9) (v := ?_) (some 35) rfl (by kernel_rfl) (by kernel_rfl) (by kernel_rfl) (fun _ _ _ h => h) (by kernel_rfl) (Or.inl ⟨by kernel_rfl, ?_⟩) (by assumption) ?_
              rotate_left
              · (intro w hSw; (try dsimp only at hSw); go_simp <;> with_reducible rfl)
              simp only [Act.put, List.setIfInBounds_toArray, List.set_cons_zero, List.set_cons_succ]
              refine take_at (i := 10) (v := ?_) (some 36) rfl (by kernel_rfl) (by kernel_rfl) (by kernel_rfl) (fun _ _ _ h => h) (by kernel_rfl) (Or.inl ⟨by kernel_rfl, ?_⟩) (by assumption) ?_
              rotate_left
              · (intro w hSw; (try dsimp only at hSw); go_simp <;> with_reducible rfl)
              simp only [Act.put, List.setIfInBounds_toArray, List.set_cons_zero, List.set_cons_succ]
              refine take_at (i := 12) (v := ?_) (some 38) rfl (by kernel_rfl) (by kernel_rfl) (by kernel_rfl) (fun _ _ _ h => h) (by kernel_rfl) (Or.inl ⟨by kernel_rfl, ?_⟩) (by assumption) ?_
              rotate_left
              · (intro w hSw; (try dsimp only at hSw); go_simp <;> with_reducible rfl)
              simp only [Act.put, List.setIfInBounds_toArray, List.set_cons_zero, List.set_cons_succ]
              refine take_at (i := 13) (v := ?_) (some 39) rfl (by kernel_rfl) (by kernel_rfl) (by kernel_rfl) (fun _ _ _ h => h) (by kernel_rfl) (Or.inl ⟨by kernel_rfl, ?_⟩) (by assumption) ?_
              rotate_left
              · (intro w hSw; (try dsimp only at hSw); go_simp <;> with_reducible rfl)
              simp only [Act.put, List.setIfInBounds_toArray, List.set_cons_zero, List.set_cons_succ]
              refine wpAnyH_ready (rs := [11]) (by kernel_rfl) (by simp) ?_
              refine AllReadyH.cons rfl (fun K hK => ?_) AllReadyH.nil
              go_simp
              (with_reducible refine (HN1.out (by trivial) w6 (HB4.out.trans (B6.mono HB4.out.size))).mono ?_); rintro e w7 ⟨rfl, rfl⟩
              go_wp2_with fail
              clear hHeld
              refine hK.out _ _ (KS.out _ B6) (fun hHeld => ?_)
              clear hK K
              try simp only [Act.put, List.setIfInBounds_toArray, List.set_cons_zero, List.set_cons_succ]
              refine wpAnyH_ready (rs := [14]) (by kernel_rfl) (by simp) ?_
              refine AllReadyH.cons rfl (fun K hK => ?_) AllReadyH.nil
              go_simp
              (with_reducible refine (HN2.out (by trivial) w6 (HB4.out.trans (B6.mono HB4.out.size))).mono ?_); rintro e w7 ⟨rfl, rfl⟩
              go_wp2_with fail
              clear hHeld
              refine hK.out _ _ (KS.out _ B6) (fun hHeld => ?_)
              clear hK K
              try simp only [Act.put, List.setIfInBounds_toArray, List.set_cons_zero, List.set_cons_succ]
              refine take_at (i := 15) (v := ?_) (some 41) rfl (by kernel_rfl) (by kernel_rfl) (by kernel_rfl) (fun _ _ _ h => h) (by kernel_rfl) (Or.inl ⟨by kernel_rfl, ?_⟩) (by assumption) ?_
              rotate_left
              · (intro w hSw; (try dsimp only at hSw); go_simp <;> with_reducible rfl)
              simp only [Act.put, List.setIfInBounds_toArray, List.set_cons_zero, List.set_cons_succ]
              refine take_at (i := 16) (v := ?_) (some 42) rfl (by kernel_rfl) (by kernel_rfl) (by kernel_rfl) (fun _ _ _ h => h) (by kernel_rfl) (Or.inl ⟨by kernel_rfl, ?_⟩) (by assumption) ?_
              rotate_left
              · (intro w hSw; (try dsimp only at hSw); go_simp <;> with_reducible rfl)
              simp only [Act.put, List.setIfInBounds_toArray, List.set_cons_zero, List.set_cons_succ]
              refine wpAnyH_done (by kernel_rfl) ?_ _
              go_wp2_with fail
              go_meet
              exact ⟨by first | rfl | (rw [hneq]) | (rw [← hneq]), Lib.hid B6⟩
        case rest =>
          obtain ⟨rfl, hBx⟩ := hcut
          rw [hro]
          simp only [Bool.and_eq_true, decide_eq_true_eq] at hro
          obtain ⟨⟨rfl, rfl⟩, rfl⟩ := hro
          obtain ⟨x6, y6⟩ := KX.out wc hBx.out
          have HB6 := Lib.hid (HB4.out.trans (hBx.out.mono HB4.out.size))
          have HO6 := Lib.hid (own_below' HO4.out hBx.out)
          have HR := Lib.hid (HRR.out (by trivial) (by trivial) (by trivial) (by trivial) wc HB6.out)
          clear KS KX HRQ HRA HN1 HN2 HRR HO4 hBx HRS
          obtain ⟨p0, p1, p2, p3⟩ := wh4 x6
          obtain ⟨r0, r1, r2, r3⟩ := wh4 y6
          go_wp2_with fail
          refine HR.out.mono ?_
          rintro e w7 ⟨A7, c7, rfl, o7, b7⟩
          have HB7 := Lib.hid (HB6.out.trans (b7.mono HB6.out.size))
          have HE := Lib.hid (HEQ.out (by trivial) A2 A7 c2 c7 w7 (Lies.own (own_below' HO6.out b7)) (Lies.own o7))
          clear HR p0 p1 p2 p3 r0 r1 r2 r3 x6 y6 o7 b7
          go_wp2_with fail
          refine HE.out.mono ?_
          rintro e w8 ⟨rfl, b8⟩
          clear HE
          go_wp2_with fail
          go_ret
          exact ⟨rfl, HB7.out.trans (b8.mono HB7.out.size)⟩
      · have hro : (rb && ab && decide (n1 = n2)) = false := HRS.out.symm
        go_upto_region 4 with fail
        go_cut [42] from 26 to 42 (fun v wx => v = .bool (!(rb && ab && decide (n1 = n2))) ∧ Hid (Below w4.heap.size w4 wx))
        case first =>
          cases rb with
          | false =>
            refine wp_region_held_drew (S := (fun V => (V.cell? ⟨w.heap.size, 0, none⟩ = some (bv t) ∧ V.cell? ⟨w.heap.size, 1, none⟩ = some (bv fl) ∧ V.cell? ⟨w.heap.size, 2, none⟩ = some (.slice A ld c) ∧ V.cell? ⟨w.heap.size, 3, none⟩ = some (.slice K lks k)) ∧ V.cell? ⟨w.heap.size + 1, 0, none⟩ = some (bv t') ∧ V.cell? ⟨w.heap.size + 1, 1, none⟩ = some (bv fl') ∧ V.cell? ⟨w.heap.size + 1, 2, none⟩ = some (.slice A' ld' c') ∧ V.cell? ⟨w.heap.size + 1, 3, none⟩ = some (.slice K' lks' k'))) (by kernel_rfl) (KS.out _ (below_drew (Below.refl _ _))) (fun hHeld => ?_)
            refine take_at (i := 0) (v := ?_) (some 26) rfl (by kernel_rfl) (by kernel_rfl) (by kernel_rfl) (fun _ _ _ h => h) (by kernel_rfl) (Or.inl ⟨by kernel_rfl, ?_⟩) (by assumption) ?_
            rotate_left
            · (intro w hSw; (try dsimp only at hSw); go_simp <;> with_reducible rfl)
            simp only [Act.put, List.setIfInBounds_toArray, List.set_cons_zero, List.set_cons_succ]
            refine wpAnyH_ready (rs := [1]) (by kernel_rfl) (by simp) ?_
            refine AllReadyH.cons rfl (fun K hK => ?_) AllReadyH.nil
            go_simp
            (with_reducible refine (HRQ.out (by trivial) w4.drew (below_drew HB4.out)).mono ?_); rintro e w5 ⟨rfl, b5⟩
            go_wp2_with fail
            have B5 : Below w4.heap.size w4 w5 := (below_drew (Below.refl _ _)).trans b5
            clear b5
            clear hHeld
            refine hK.out _ _ (KS.out _ B5) (fun hHeld => ?_)
            clear hK K
            try simp only [Act.put, List.setIfInBounds_toArray, List.set_cons_zero, List.set_cons_succ]
            refine take_at (i := 2) (v := ?_) (some 28) rfl (by kernel_rfl) (by kernel_rfl) (by kernel_rfl) (fun _ _ _ h => h) (by kernel_rfl) (Or.inl ⟨by kernel_rfl, ?_⟩) (by assumption) ?_
            rotate_left
            · (intro w hSw; (try dsimp only at hSw); go_simp <;> with_reducible rfl)
            simp only [Act.put, List.setIfInBounds_toArray, List.set_cons_zero, List.set_cons_succ]
            refine take_at (i := 3) (v := ?_) (some 29) rfl (by kernel_rfl) (by kernel_rfl) (by kernel_rfl) (fun _ _ _ h => h) (by kernel_rfl) (Or.inl ⟨by kernel_rfl, ?_⟩) (by assumption) ?_
            rotate_left
            · (intro w hSw; (try dsimp only at hSw); go_simp <;> with_reducible rfl)
            simp only [Act.put, List.setIfInBounds_toArray, List.set_cons_zero, List.set_cons_succ]
            refine take_at (i := 4) (v := undef) (some 30) rfl (by kernel_rfl) (by kernel_rfl) (by kernel_rfl) (fun _ _ _ h => h) (by kernel_rfl) (Or.inr ⟨by kernel_rfl, rfl⟩) (by assumption) ?_
            simp only [Act.put, List.setIfInBounds_toArray, List.set_cons_zero, List.set_cons_succ]
            refine take_at (i := 5) (v := undef) (some 31) rfl (by kernel_rfl) (by kernel_rfl) (by kernel_rfl) (fun _ _ _ h => h) (by kernel_rfl) (Or.inr ⟨by kernel_rfl, rfl⟩) (by assumption) ?_
            simp only [Act.put, List.setIfInBounds_toArray, List.set_cons_zero, List.set_cons_succ]
            refine take_at (i := 6) (v := undef) (some 32) rfl (by kernel_rfl) (by kernel_rfl) (by kernel_rfl) (fun _ _ _ h => h) (by kernel_rfl) (Or.inr ⟨by kernel_rfl, rfl⟩) (by assumption) ?_
            simp only [Act.put, List.setIfInBounds_toArray, List.set_cons_zero, List.set_cons_succ]
            refine take_at (i := 7) (v := ?_) (some 33) rfl (by kernel_rfl) (by kernel_rfl) (by kernel_rfl) (fun _ _ _ h => h) (by kernel_rfl) (Or.inl ⟨by kernel_rfl, ?_⟩) (by assumption) ?_
            rotate_left
            · (intro w hSw; (try dsimp only at hSw); go_simp <;> with_reducible rfl)
            simp only [Act.put, List.setIfInBounds_toArray, List.set_cons_zero, List.set_cons_succ]
            refine take_at (i := 8) (v := ?_) (some 34) rfl (by kernel_rfl) (by kernel_rfl) (by kernel_rfl) (fun _ _ _ h => h) (by kernel_rfl) (Or.inl ⟨by kernel_rfl, ?_⟩) (by assumption) ?_
            rotate_left
            · (intro w hSw; (try dsimp only at hSw); go_simp <;> with_reducible rfl)
            simp only [Act.put, List.setIfInBounds_toArray, List.set_cons_zero, List.set_cons_succ]
            refine take_at (i := 9) (v := undef) (some 35) rfl (by kernel_rfl) (by kernel_rfl) (by kernel_rfl) (fun _ _ _ h => h) (by kernel_rfl) (Or.inr ⟨by kernel_rfl, rfl⟩) (by assumption) ?_
            simp only [Act.put, List.setIfInBounds_toArray, List.set_cons_zero, List.set_cons_succ]
            refine take_at (i := 10) (v := undef) (some 36) rfl (by kernel_rfl) (by kernel_rfl) (by kernel_rfl) (fun _ _ _ h => h) (by kernel_rfl) (Or.inr ⟨by kernel_rfl, rfl⟩) (by assumption) ?_
            simp only [Act.put, List.setIfInBounds_toArray, List.set_cons_zero, List.set_cons_succ]
            refine take_at (i := 11) (v := undef) (some 37) rfl (by kernel_rfl) (by kernel_rfl) (by kernel_rfl) (fun _ _ _ h => h) (by kernel_rfl) (Or.inr ⟨by kernel_rfl, rfl⟩) (by assumption) ?_
            simp only [Act.put, List.setIfInBounds_toArray, List.set_cons_zero, List.set_cons_succ]
            refine take_at (i := 12) (v := undef) (some 38) rfl (by kernel_rfl) (by kernel_rfl) (by kernel_rfl) (fun _ _ _ h => h) (by kernel_rfl) (Or.inr ⟨by kernel_rfl, rfl⟩) (by assumption) ?_
            simp only [Act.put, List.setIfInBounds_toArray, List.set_cons_zero, List.set_cons_succ]
            refine take_at (i := 13) (v := undef) (some 39) rfl (by kernel_rfl) (by kernel_rfl) (by kernel_rfl) (fun _ _ _ h => h) (by kernel_rfl) (Or.inr ⟨by kernel_rfl, rfl⟩) (by assumption) ?_
            simp only [Act.put, List.setIfInBounds_toArray, List.set_cons_zero, List.set_cons_succ]
            refine take_at (i := 14) (v := undef) (some 40) rfl (by kernel_rfl) (by kernel_rfl) (by kernel_rfl) (fun _ _ _ h => h) (by kernel_rfl) (Or.inr ⟨by kernel_rfl, rfl⟩) (by assumption) ?_
            simp only [Act.put, List.setIfInBounds_toArray, List.set_cons_zero, List.set_cons_succ]
            refine take_at (i := 15) (v := undef) (some 41) rfl (by kernel_rfl) (by kernel_rfl) (by kernel_rfl) (fun _ _ _ h => h) (by kernel_rfl) (Or.inr ⟨by kernel_rfl, rfl⟩) (by assumption) ?_
            simp only [Act.put, List.setIfInBounds_toArray, List.set_cons_zero, List.set_cons_succ]
            refine take_at (i := 16) (v := ?_) (some 42) rfl (by kernel_rfl) (by kernel_rfl) (by kernel_rfl) (fun _ _ _ h => h) (by kernel_rfl) (Or.inl ⟨by kernel_rfl, ?_⟩) (by assumption) ?_
            rotate_left
            · (intro w hSw; (try dsimp only at hSw); go_simp <;> with_reducible rfl)
            simp only [Act.put, List.setIfInBounds_toArray, List.set_cons_zero, List.set_cons_succ]
            refine wpAnyH_done (by kernel_rfl) ?_ _
            go_wp2_with fail
            go_meet
            exact ⟨rfl, Lib.hid B5⟩
          | true =>
            cases ab with
            | false =>
              refine wp_region_held_drew (S := (fun V => (V.cell? ⟨w.heap.size, 0, none⟩ = some (bv t) ∧ V.cell? ⟨w.heap.size, 1, none⟩ = some (bv fl) ∧ V.cell? ⟨w.heap.size, 2, none⟩ = some (.slice A ld c) ∧ V.cell? ⟨w.heap.size, 3, none⟩ = some (.slice K lks k)) ∧ V.cell? ⟨w.heap.size + 1, 0, none⟩ = some (bv t') ∧ V.cell? ⟨w.heap.size + 1, 1, none⟩ = some (bv fl') ∧ V.cell? ⟨w.heap.size + 1, 2, none⟩ = some (.slice A' ld' c') ∧ V.cell? ⟨w.heap.size + 1, 3, none⟩ = some (.slice K' lks' k'))) (by kernel_rfl) (KS.out _ (below_drew (Below.refl _ _))) (fun hHeld => ?_)
              refine take_at (i := 0) (v := ?_) (some 26) rfl (by kernel_rfl) (by kernel_rfl) (by kernel_rfl) (fun _ _ _ h => h) (by kernel_rfl) (Or.inl ⟨by kernel_rfl, ?_⟩) (by assumption) ?_
              rotate_left
              · (intro w hSw; (try dsimp only at hSw); go_simp <;> with_reducible rfl)
              simp only [Act.put, List.setIfInBounds_toArray, List.set_cons_zero, List.set_cons_succ]
              refine wpAnyH_ready (rs := [1]) (by kernel_rfl) (by simp) ?_
              refine AllReadyH.cons rfl (fun K hK => ?_) AllReadyH.nil
              go_simp
              (with_reducible refine (HRQ.out (by trivial) w4.drew (below_drew HB4.out)).mono ?_); rintro e w5 ⟨rfl, b5⟩
              go_wp2_with fail
              have B5 : Below w4.heap.size w4 w5 := (below_drew (Below.refl _ _)).trans b5
              clear b5
              clear hHeld
              refine hK.out _ _ (KS.out _ B5) (fun hHeld => ?_)
              clear hK K
              try simp only [Act.put, List.setIfInBounds_toArray, List.set_cons_zero, List.set_cons_succ]
              refine take_at (i := 2) (v := ?_) (some 28) rfl (by kernel_rfl) (by kernel_rfl) (by kernel_rfl) (fun _ _ _ h => h) (by kernel_rfl) (Or.inl ⟨by kernel_rfl, ?_⟩) (by assumption) ?_
              rotate_left
              · (intro w hSw; (try dsimp only at hSw); go_simp <;> with_reducible rfl)
              simp only [Act.put, List.setIfInBounds_toArray, List.set_cons_zero, List.set_cons_succ]
              refine take_at (i := 3) (v := ?_) (some 29) rfl (by kernel_rfl) (by kernel_rfl) (by kernel_rfl) (fun _ _ _ h => h) (by kernel_rfl) (Or.inl ⟨by kernel_rfl, ?_⟩) (by assumption) ?_
              rotate_left
              · (intro w hSw; (try dsimp only at hSw); go_simp <;> with_reducible rfl)
              simp only [Act.put, List.setIfInBounds_toArray, List.set_cons_zero, List.set_cons_succ]
              refine take_at (i := 4) (v := ?_) (some 30) rfl (by kernel_rfl) (by kernel_rfl) (by kernel_rfl) (fun _ _ _ h => h) (by kernel_rfl) (Or.inl ⟨by kernel_rfl, ?_⟩) (by assumption) ?_
              rotate_left
              · (intro w hSw; (try dsimp only at hSw); go_simp <;> with_reducible rfl)
              simp only [Act.put, List.setIfInBounds_toArray, List.set_cons_zero, List.set_cons_succ]
              refine wpAnyH_ready (rs := [5]) (by kernel_rfl) (by simp) ?_
              refine AllReadyH.cons rfl (fun K hK => ?_) AllReadyH.nil
              go_simp
              (with_reducible refine (HRA.out (by trivial) w5 (HB4.out.trans (B5.mono HB4.out.size))).mono ?_); rintro e w6 ⟨rfl, b6⟩
              go_wp2_with fail
              have B6 : Below w4.heap.size w4 w6 := B5.trans (b6.mono B5.size)
              clear b6
              clear hHeld
              refine hK.out _ _ (KS.out _ B6) (fun hHeld => ?_)
              clear hK K
              try simp only [Act.put, List.setIfInBounds_toArray, List.set_cons_zero, List.set_cons_succ]
              refine take_at (i := 6) (v := ?_) (some 32) rfl (by kernel_rfl) (by kernel_rfl) (by kernel_rfl) (fun _ _ _ h => h) (by kernel_rfl) (Or.inl ⟨by kernel_rfl, ?_⟩) (by assumption) ?_
              rotate_left
              · (intro w hSw; (try dsimp only at hSw); go_simp <;> with_reducible rfl)
              simp only [Act.put, List.setIfInBounds_toArray, List.set_cons_zero, List.set_cons_succ]
              refine take_at (i := 7) (v := ?_) (some 33) rfl (by kernel_rfl) (by kernel_rfl) (by kernel_rfl) (fun _ _ _ h => h) (by kernel_rfl) (Or.inl ⟨by kernel_rfl, ?_⟩) (by assumption) ?_
              rotate_left
              · (intro w hSw; (try dsimp only at hSw); go_simp <;> with_reducible rfl)
              simp only [Act.put, List.setIfInBounds_toArray, List.set_cons_zero, List.set_cons_succ]
              refine take_at (i := 8) (v := ?_) (some 34) rfl (by kernel_rfl) (by kernel_rfl) (by kernel_rfl) (fun _ _ _ h => h) (by kernel_rfl) (Or.inl ⟨by kernel_rfl, ?_⟩) (by assumption) ?_
              rotate_left
              · (intro w hSw; (try dsimp only at hSw); go_simp <;> with_reducible rfl)
              simp only [Act.put, List.setIfInBounds_toArray, List.set_cons_zero, List.set_cons_succ]
              refine take_at (i := 9) (v := undef) (some 35) rfl (by kernel_rfl) (by kernel_rfl) (by kernel_rfl) (fun _ _ _ h => h) (by kernel_rfl) (Or.inr ⟨by kernel_rfl, rfl⟩) (by assumption) ?_
              simp only [Act.put, List.setIfInBounds_toArray, List.set_cons_zero, List.set_cons_succ]
              refine take_at (i := 10) (v := undef) (some 36) rfl (by kernel_rfl) (by kernel_rfl) (by kernel_rfl) (fun _ _ _ h => h) (by kernel_rfl) (Or.inr ⟨by kernel_rfl, rfl⟩) (by assumption) ?_
              simp only [Act.put, List.setIfInBounds_toArray, List.set_cons_zero, List.set_cons_succ]
              refine take_at (i := 11) (v := undef) (some 37) rfl (by kernel_rfl) (by kernel_rfl) (by kernel_rfl) (fun _ _ _ h => h) (by kernel_rfl) (Or.inr ⟨by kernel_rfl, rfl⟩) (by assumption) ?_
              simp only [Act.put, List.setIfInBounds_toArray, List.set_cons_zero, List.set_cons_succ]
              refine take_at (i := 12) (v := undef) (some 38) rfl (by kernel_rfl) (by kernel_rfl) (by kernel_rfl) (fun _ _ _ h => h) (by kernel_rfl) (Or.inr ⟨by kernel_rfl, rfl⟩) (by assumption) ?_
              simp only [Act.put, List.setIfInBounds_toArray, List.set_cons_zero, List.set_cons_succ]
              refine take_at (i := 13) (v := undef) (some 39) rfl (by kernel_rfl) (by kernel_rfl) (by kernel_rfl) (fun _ _ _ h => h) (by kernel_rfl) (Or.inr ⟨by kernel_rfl, rfl⟩) (by assumption) ?_
              simp only [Act.put, List.setIfInBounds_toArray, List.set_cons_zero, List.set_cons_succ]
              refine take_at (i := 14) (v := undef) (some 40) rfl (by kernel_rfl) (by kernel_rfl) (by kernel_rfl) (fun _ _ _ h => h) (by kernel_rfl) (Or.inr ⟨by kernel_rfl, rfl⟩) (by assumption) ?_
              simp only [Act.put, List.setIfInBounds_toArray, List.set_cons_zero, List.set_cons_succ]
              refine take_at (i := 15) (v := undef) (some 41) rfl (by kernel_rfl) (by kernel_rfl) (by kernel_rfl) (fun _ _ _ h => h) (by kernel_rfl) (Or.inr ⟨by kernel_rfl, rfl⟩) (by assumption) ?_
              simp only [Act.put, List.setIfInBounds_toArray, List.set_cons_zero, List.set_cons_succ]
              refine take_at (i := 16) (v := ?_) (some 42) rfl (by kernel_rfl) (by kernel_rfl) (by kernel_rfl) (fun _ _ _ h => h) (by kernel_rfl) (Or.inl ⟨by kernel_rfl, ?_⟩) (by assumption) ?_
              rotate_left
              · (intro w hSw; (try dsimp only at hSw); go_simp <;> with_reducible rfl)
              simp only [Act.put, List.setIfInBounds_toArray, List.set_cons_zero, List.set_cons_succ]
              refine wpAnyH_done (by kernel_rfl) ?_ _
              go_wp2_with fail
              go_meet
              exact ⟨rfl, Lib.hid B6⟩
            | true =>
              have hneq : ((n1.toNat : Int) != (n2.toNat : Int)) = !(true && true && decide (n1 = n2)) := by
                by_cases h : n1 = n2
                · subst h; simp
                · have : ¬ (n1.toNat : Int) = (n2.toNat : Int) := fun e => h (UInt32.toNat_inj.1 (by omega))
                  simp [h, this]
              refine wp_region_held_drew (S := (fun V => (V.cell? ⟨w.heap.size, 0, none⟩ = some (bv t) ∧ V.cell? ⟨w.heap.size, 1, none⟩ = some (bv fl) ∧ V.cell? ⟨w.heap.size, 2, none⟩ = some (.slice A ld c) ∧ V.cell? ⟨w.heap.size, 3, none⟩ = some (.slice K lks k)) ∧ V.cell? ⟨w.heap.size + 1, 0, none⟩ = some (bv t') ∧ V.cell? ⟨w.heap.size + 1, 1, none⟩ = some (bv fl') ∧ V.cell? ⟨w.heap.size + 1, 2, none⟩ = some (.slice A' ld' c') ∧ V.cell? ⟨w.heap.size + 1, 3, none⟩ = some (.slice K' lks' k'))) (by kernel_rfl) (KS.out _ (below_drew (Below.refl _ _))) (fun hHeld => ?_)
              refine take_at (i := 0) (v := ?_) (some 26) rfl (by kernel_rfl) (by kernel_rfl) (by kernel_rfl) (fun _ _ _ h => h) (by kernel_rfl) (Or.inl ⟨by kernel_rfl, ?_⟩) (by assumption) ?_
              rotate_left
              · (intro w hSw; (try dsimp only at hSw); go_simp <;> with_reducible rfl)
              simp only [Act.put, List.setIfInBounds_toArray, List.set_cons_zero, List.set_cons_succ]
              refine wpAnyH_ready (rs := [1]) (by kernel_rfl) (by simp) ?_
              refine AllReadyH.cons rfl (fun K hK => ?_) AllReadyH.nil
              go_simp
              (with_reducible refine (HRQ.out (by trivial) w4.drew (below_drew HB4.out)).mono ?_); rintro e w5 ⟨rfl, b5⟩
              go_wp2_with fail
              have B5 : Below w4.heap.size w4 w5 := (below_drew (Below.refl _ _)).trans b5
              clear b5
              clear hHeld
              refine hK.out _ _ (KS.out _ B5) (fun hHeld => ?_)
              clear hK K
              try simp only [Act.put, List.setIfInBounds_toArray, List.set_cons_zero, List.set_cons_succ]
              refine take_at (i := 2) (v := ?_) (some 28) rfl (by kernel_rfl) (by kernel_rfl) (by kernel_rfl) (fun _ _ _ h => h) (by kernel_rfl) (Or.inl ⟨by kernel_rfl, ?_⟩) (by assumption) ?_
              rotate_left
              · (intro w hSw; (try dsimp only at hSw); go_simp <;> with_reducible rfl)
              simp only [Act.put, List.setIfInBounds_toArray, List.set_cons_zero, List.set_cons_succ]
              refine take_at (i := 3) (v := ?_) (some 29) rfl (by kernel_rfl) (by kernel_rfl) (by kernel_rfl) (fun _ _ _ h => h) (by kernel_rfl) (Or.inl ⟨by kernel_rfl, ?_⟩) (by assumption) ?_
              rotate_left
              · (intro w hSw; (try dsimp only at hSw); go_simp <;> with_reducible rfl)
              simp only [Act.put, List.setIfInBounds_toArray, List.set_cons_zero, List.set_cons_succ]
              refine take_at (i := 4) (v := ?_) (some 30) rfl (by kernel_rfl) (by kernel_rfl) (by kernel_rfl) (fun _ _ _ h => h) (by kernel_rfl) (Or.inl ⟨by kernel_rfl, ?_⟩) (by assumption) ?_
              rotate_left
              · (intro w hSw; (try dsimp only at hSw); go_simp <;> with_reducible rfl)
              simp only [Act.put, List.setIfInBounds_toArray, List.set_cons_zero, List.set_cons_succ]
              refine wpAnyH_ready (rs := [5]) (by kernel_rfl) (by simp) ?_
              refine AllReadyH.cons rfl (fun K hK => ?_) AllReadyH.nil
              go_simp
              (with_reducible refine (HRA.out (by trivial) w5 (HB4.out.trans (B5.mono HB4.out.size))).mono ?_); rintro e w6 ⟨rfl, b6⟩
              go_wp2_with fail
              have B6 : Below w4.heap.size w4 w6 := B5.trans (b6.mono B5.size)
              clear b6
              clear hHeld
              refine hK.out _ _ (KS.out _ B6) (fun hHeld => ?_)
              clear hK K
              try simp only [Act.put, List.setIfInBounds_toArray, List.set_cons_zero, List.set_cons_succ]
              refine take_at (i := 6) (v := ?_) (some 32) rfl (by kernel_rfl) (by kernel_rfl) (by kernel_rfl) (fun _ _ _ h => h) (by kernel_rfl) (Or.inl ⟨by kernel_rfl, ?_⟩) (by assumption) ?_
              rotate_left
              · (intro w hSw; (try dsimp only at hSw); go_simp <;> with_reducible rfl)
              simp only [Act.put, List.setIfInBounds_toArray, List.set_cons_zero, List.set_cons_succ]
              refine take_at (i := 7) (v := ?_) (some 33) rfl (by kernel_rfl) (by kernel_rfl) (by kernel_rfl) (fun _ _ _ h => h) (by kernel_rfl) (Or.inl ⟨by kernel_rfl, ?_⟩) (by assumption) ?_
              rotate_left
              · (intro w hSw; (try dsimp only at hSw); go_simp <;> with_reducible rfl)
              simp only [Act.put, List.setIfInBounds_toArray, List.set_cons_zero, List.set_cons_succ]
              refine take_at (i := 8) (v := ?_) (some 34) rfl (by kernel_rfl) (by kernel_rfl) (by kernel_rfl) (fun _ _ _ h => h) (by kernel_rfl) (Or.inl ⟨by kernel_rfl, ?_⟩) (by assumption) ?_
              rotate_left
              · (intro w hSw; (try dsimp only at hSw); go_simp <;> with_reducible rfl)
              simp only [Act.put, List.setIfInBounds_toArray, List.set_cons_zero, List.set_cons_succ]
              refine take_at (i := 9) (v := ?_) (some 35) rfl (by kernel_rfl) (by kernel_rfl) (by kernel_rfl) (fun _ _ _ h => h) (by kernel_rfl) (Or.inl ⟨by kernel_rfl, ?_⟩) (by assumption) ?_
              rotate_left
              · (intro w hSw; (try dsimp only at hSw); go_simp <;> with_reducible rfl)
              simp only [Act.put, List.setIfInBounds_toArray, List.set_cons_zero, List.set_cons_succ]
              refine take_at (i := 10) (v := ?_) (some 36) rfl (by kernel_rfl) (by kernel_rfl) (by kernel_rfl) (fun _ _ _ h => h) (by kernel_rfl) (Or.inl ⟨by kernel_rfl, ?_⟩) (by assumption) ?_
              rotate_left
              · (intro w hSw; (try dsimp only at hSw); go_simp <;> with_reducible rfl)
              simp only [Act.put, List.setIfInBounds_toArray, List.set_cons_zero, List.set_cons_succ]
              refine take_at (i := 12) (v := ?_) (some 38) rfl (by kernel_rfl) (by kernel_rfl) (by kernel_rfl) (fun _ _ _ h => h) (by kernel_rfl) (Or.inl ⟨by kernel_rfl, ?_⟩) (by assumption) ?_
              rotate_left
              · (intro w hSw; (try dsimp only at hSw); go_simp <;> with_reducible rfl)
              simp only [Act.put, List.setIfInBounds_toArray, List.set_cons_zero, List.set_cons_succ]
              refine take_at (i := 13) (v := ?_) (some 39) rfl (by kernel_rfl) (by kernel_rfl) (by kernel_rfl) (fun _ _ _ h => h) (by kernel_rfl) (Or.inl ⟨by kernel_rfl, ?_⟩) (by assumption) ?_
              rotate_left
              · (intro w hSw; (try dsimp only at hSw); go_simp <;> with_reducible rfl)
              simp only [Act.put, List.setIfInBounds_toArray, List.set_cons_zero, List.set_cons_succ]
              refine wpAnyH_ready (rs := [11]) (by kernel_rfl) (by simp) ?_
              refine AllReadyH.cons rfl (fun K hK => ?_) AllReadyH.nil
              go_simp
              (with_reducible refine (HN1.out (by trivial) w6 (HB4.out.trans (B6.mono HB4.out.size))).mono ?_); rintro e w7 ⟨rfl, rfl⟩
              go_wp2_with fail
              clear hHeld
              refine hK.out _ _ (KS.out _ B6) (fun hHeld => ?_)
              clear hK K
              try simp only [Act.put, List.setIfInBounds_toArray, List.set_cons_zero, List.set_cons_succ]
              refine wpAnyH_ready (rs := [14]) (by kernel_rfl) (by simp) ?_
              refine AllReadyH.cons rfl (fun K hK => ?_) AllReadyH.nil
              go_simp
              (with_reducible refine (HN2.out (by trivial) w6 (HB4.out.trans (B6.mono HB4.out.size))).mono ?_); rintro e w7 ⟨rfl, rfl⟩
              go_wp2_with fail
              clear hHeld
              refine hK.out _ _ (KS.out _ B6) (fun hHeld => ?_)
              clear hK K
              try simp only [Act.put, List.setIfInBounds_toArray, List.set_cons_zero, List.set_cons_succ]
              refine take_at (i := 15) (v := ?_) (some 41) rfl (by kernel_rfl) (by kernel_rfl) (by kernel_rfl) (fun _ _ _ h => h) (by kernel_rfl) (Or.inl ⟨by kernel_rfl, ?_⟩) (by assumption) ?_
              rotate_left
              · (intro w hSw; (try dsimp only at hSw); go_simp <;> with_reducible rfl)
              simp only [Act.put, List.setIfInBounds_toArray, List.set_cons_zero, List.set_cons_succ]
              refine take_at (i := 16) (v := ?_) (some 42) rfl (by kernel_rfl) (by kernel_rfl) (by kernel_rfl) (fun _ _ _ h => h) (by kernel_rfl) (Or.inl ⟨by kernel_rfl, ?_⟩) (by assumption) ?_
              rotate_left
              · (intro w hSw; (try dsimp only at hSw); go_simp <;> with_reducible rfl)
              simp only [Act.put, List.setIfInBounds_toArray, List.set_cons_zero, List.set_cons_succ]
              refine wpAnyH_done (by kernel_rfl) ?_ _
              go_wp2_with fail
              go_meet
              exact ⟨by first | rfl | (rw [hneq]) | (rw [← hneq]), Lib.hid B6⟩
        case rest =>
          obtain ⟨rfl, hBx⟩ := hcut
          rw [hro]
          have HB6 := Lib.hid (HB4.out.trans (hBx.out.mono HB4.out.size))
          clear KS KX HRQ HRA HN1 HN2 HRR hBx HRS
          go_wp2_with fail
          go_ret
          exact ⟨rfl, HB6.out⟩
set_option maxRecDepth 100000 in
theorem law_AsconfResults {H : Type} {enc : TypeId × Value → H} {W : World} {base : Nat} {v0 v1 : Value} {d0 d1 : DataW H} {p0 p1 : List MemPlace}
    (o0 : Value.okWide Tryz.prog W .any base 62 v0) (h0 : DataW.Trod enc Tryz.prog W 0 (fun _ => true) true 62 v0 d0 p0) (s0 : Small Tryz.prog 62 d0)
    (o1 : Value.okWide Tryz.prog W .any base 62 v1) (h1 : DataW.Trod enc Tryz.prog W 0 (fun _ => true) true 62 v1 d1 p1) (s1 : Small Tryz.prog 62 d1) (hL : laidMetH Tryz.prog laid18 W) :
    Calls Tryz.prog 10 #[v0, v1] W fun e w' => e = .returned (.bool true) ∧ Below W.heap.size W w' := by
  obtain ⟨q, A, c, K, k, rfl, hq, bq⟩ := open_chunk o0 h0 s0
  obtain ⟨a, A', c', K', k', rfl, ha, ba⟩ := open_chunk o1 h1 s1
  exact results_law18 q a bq ba A c K k A' c' K' k' W hq ha (by have := hq.kc; have := hq.km; unfold maxLen at this; omega) (by have := ha.kc; have := ha.km; unfold maxLen at this; omega) (handle_of18 hL) (tbl_of18 hL)
end Go.Proofs.YteknmgmdmjmnmaaGreatDoor


