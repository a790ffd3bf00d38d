/- Layer 6, the reference: Split, for whatever bytes, with its offsets. It writes nothing that was there. -/
import Derived.Test.YthkbcpbgoefanaaGreatDoorQTC
import Derived.Test.YthkbcpbgoefanaaGreatDoorQRefNS
import Derived.Deep.RegionLaw
import Derived.Deep.AppendLies






namespace Go.Proofs.YthkbcpbgoefanaaGreatDoor
open Go.RowKit

theorem rfrinfo : (Tryz.prog.info? 168).map (fun i => (i.zero, i.size, i.bytes)) = some (some (.agg #[.int .u16 0, .slice none 0 0]), 2, 32) := by kernel_rfl
theorem lies_own2 {w : World} {base e size n c : Nat} {A : Option Addr} {xs : List Value} (h : w.ownsRow base e size (.slice A n c) n xs) : Lies w w.heap.size A xs := fun hne => by
  rcases h.2 with ⟨h1, h2⟩ | ⟨g, cap, cur, h1, h2, h3, _⟩
  · refine absurd (List.eq_nil_of_length_eq_zero ?_) hne
    rw [h.1, h2]; simp
  · simp only [Value.slice.injEq] at h1
    obtain ⟨rfl, _, _⟩ := h1
    exact ⟨_, rfl, (Array.getElem?_eq_some_iff.1 h3).1, h.cells (g := g) rfl⟩
theorem own_cap2 {w : World} {base e size n c : Nat} {A : Option Addr} {xs : List Value} (h : w.ownsRow base e size (.slice A n c) n xs) : n ≤ c ∧ c ≤ maxLen := by
  rcases h.2 with ⟨h1, h2⟩ | ⟨g, cap, cur, h1, _, _, h3, h4, _⟩
  · simp only [Value.slice.injEq] at h1
    omega
  · simp only [Value.slice.injEq] at h1
    omega

theorem gap_four {k n : Nat} (h : k % 4 = 0) : gap (k + n) = gap n := by unfold gap; omega
theorem nx_iff {b : List UInt8} {e : Nat} : Go.Proofs.YthkbcpbgoefanaaGreatDoor.nx b e = if up e < b.length ∧ zeroB ((b.drop e).take (gap e)) = true then some (up e) else .none := by
  unfold Go.Proofs.YthkbcpbgoefanaaGreatDoor.nx Good
  by_cases h : up e < b.length ∧ zeroB ((b.drop e).take (gap e)) = true
  · rw [if_pos h, if_pos]
    exact ⟨⟨by omega, by rw [Int.toNat_natCast]; omega, by rw [Int.toNat_natCast]; exact h.2⟩, by omega⟩
  · rw [if_neg h, if_neg]
    rintro ⟨⟨_, h1, h2⟩, h3⟩
    rw [Int.toNat_natCast] at h1 h2
    exact h ⟨by omega, h2⟩
theorem whole_row_ne {W : World} {g : Nat} {t e : TypeId} {cs : Array Value} (h : Whole W g t cs) (hte : t ≠ e) {base size n : Nat} {v : Value} {xs : List Value} (hr : W.ownsRow base e size v n xs) : v.ownBlock ≠ some g := by
  rcases hr.2 with ⟨rfl, _⟩ | ⟨q, cap, cur, rfl, _, hq, _⟩
  · simp [Value.ownBlock]
  · intro he
    simp only [Value.ownBlock, Option.some.injEq] at he
    subst he
    unfold Whole at h
    rw [h] at hq
    simp only [Option.some.injEq, Obj.cells.injEq] at hq
    exact hte hq.2.1
/-- the cells of the frames that have come: their values lie in the bytes, below B -/
def Each (w : World) (B : Nat) (pre : List (Nat × Fr)) (us : List Value) : Prop := ∀ (i : Nat) (p : Nat × Fr), pre[i]? = some p → ∃ v, us[i * 2]? = some (hv p.2.t) ∧ us[i * 2 + 1]? = some v ∧ IsB w B v p.2.v ∧ ∃ ad n c, v = .slice (some ad) n c
theorem Each.snoc {w : World} {B : Nat} {pre : List (Nat × Fr)} {us : List Value} (h : Each w B pre us) (hl : us.length = pre.length * 2) (p : Nat × Fr) {v : Value} (hv' : IsB w B v p.2.v ∧ ∃ ad n c, v = .slice (some ad) n c) : Each w B (pre ++ [p]) (us ++ [hv p.2.t, v]) := by
  intro i q hq
  rcases Nat.lt_or_ge i pre.length with hi | hi
  · rw [List.getElem?_append_left hi] at hq
    obtain ⟨u, h1, h2, h3⟩ := h i q hq
    exact ⟨u, by rw [List.getElem?_append_left (by omega)]; exact h1, by rw [List.getElem?_append_left (by omega)]; exact h2, h3⟩
  · rw [List.getElem?_append_right hi] at hq
    have h0 : i - pre.length = 0 := by
      have := (List.getElem?_eq_some_iff.1 hq).1
      simp at this
      omega
    rw [h0] at hq
    simp only [List.getElem?_cons_zero, Option.some.injEq] at hq
    subst hq
    have e : i = pre.length := by omega
    subst e
    exact ⟨v, by rw [List.getElem?_append_right (by omega), hl, Nat.sub_self]; rfl, by rw [List.getElem?_append_right (by omega), hl, show pre.length * 2 + 1 - pre.length * 2 = 1 by omega]; rfl, hv'⟩
theorem IsB.bel {w W : World} {B : Nat} {v : Value} {l : List UInt8} (h : IsB w B v l) (hb : Below B w W) : IsB W B v l := by
  obtain ⟨A', c', h2, h3, h4⟩ := h
  exact ⟨A', c', h2, h3.below hb, h4⟩
theorem Each.bel {w W : World} {B : Nat} {pre : List (Nat × Fr)} {us : List Value} (h : Each w B pre us) (hb : Below B w W) : Each W B pre us := fun i p hp => by
  obtain ⟨v, h1, h2, h3⟩ := h i p hp
  exact ⟨v, h1, h2, h3.1.bel hb, h3.2⟩
/-- how the reference's Split ends, its offsets too -/
def SGives (w : World) (B : Nat) (b : List UInt8) (e : Ending) (w' : World) : Prop := Below w.heap.size w w' ∧
  ((∃ A1 c1 A2 c2 us, spl b = .ok ((yla b 0).map Prod.snd) ∧ e = .returned (.agg #[.slice A1 (yla b 0).length c1, .slice A2 (yla b 0).length c2, .int .i64 0, .int .i64 0]) ∧ Lies w' w'.heap.size A1 us ∧ us.length = (yla b 0).length * 2 ∧ Each w' B (yla b 0) us ∧
      Lies w' w'.heap.size A2 ((yla b 0).map fun p => Value.int .i64 (p.1 : Int)) ∧ (yla b 0).length ≤ c2 ∧ c2 ≤ maxLen) ∨
   (∃ code k A1 n1 c1 A2 n2 c2, spl b = .bad code k ∧ e = .returned (.agg #[.slice A1 n1 c1, .slice A2 n2 c2, .int .i64 (code : Int), .int .i64 (k : Int)])))
theorem isinfo : (Tryz.prog.info? 3).map (fun i => (i.zero, i.size, i.bytes)) = some (some (.int .i64 0), 1, 8) := by kernel_rfl
theorem rows_ne {W : World} {b1 b2 s1 s2 m1 m2 : Nat} {e1 e2 : TypeId} {v1 v2 : Value} {x1 x2 : List Value} (h1 : W.ownsRow b1 e1 s1 v1 m1 x1) (h2 : W.ownsRow b2 e2 s2 v2 m2 x2) (h : e1 ≠ e2) : v1.ownBlock = none ∨ v1.ownBlock ≠ v2.ownBlock := by
  rcases h1.2 with ⟨rfl, _⟩ | ⟨g, cap, cur, rfl, _, hg, _⟩
  · exact .inl rfl
  · refine .inr fun e => ?_
    rcases h2.2 with ⟨rfl, _⟩ | ⟨g', cap', cur', rfl, _, hg', _⟩
    · cases e
    · simp only [Value.ownBlock, Option.some.injEq] at e
      subst e
      rw [hg] at hg'
      simp only [Option.some.injEq, Obj.cells.injEq] at hg'
      exact h hg'.2.1
theorem grownBy_setCell1 (W : World) (b o : Nat) (v : Value) : W.grownBy (W.setCell ⟨b, o, none⟩ v) (some b) :=
  ⟨rfl, rfl, rfl, (KeepsWalks.setCell W _ v).size, fun k _ hk => Below.heap_setCell _ _ _ k (fun e => hk (by rw [e]))⟩
structure RInv (B : Nat) (b : List UInt8) (w wr : World) (k : Nat) (pre : List (Nat × Fr)) (us : List Value) (A1 : Option Addr) (c1 : Nat) (A2 : Option Addr) (c2 : Nat) (offs : List Value) : Prop where
  box : Whole wr (w.heap.size + 1) 166 #[.slice A1 pre.length c1, .slice A2 pre.length c2, .int .i64 0, .int .i64 0]
  res : Whole wr w.heap.size 166 #[.slice none 0 0, .slice none 0 0, .int .i64 0, .int .i64 0]
  r1 : wr.ownsRow w.heap.size 168 2 (.slice A1 pre.length c1) pre.length us
  r2 : wr.ownsRow w.heap.size 3 1 (.slice A2 pre.length c2) pre.length offs
  low : Below w.heap.size w wr
  each : Each w B pre us
  len : us.length = pre.length * 2
  le : pre.length ≤ k
  off : offs = pre.map fun p => Value.int .i64 (p.1 : Int)

set_option maxRecDepth 100000 in
set_option maxHeartbeats 8000000 in
theorem rsplit_any (B : Nat) (A : Option Addr) (c : Nat) (b : List UInt8) (w : World) (hB : B ≤ w.heap.size) (h : Lies w B A (b.map bv)) (hc : b.length ≤ c) (hm : c ≤ maxLen) (hs : b.length ≤ 100000) :
    Calls Tryz.prog 118 #[.slice A b.length c] w (SGives w B b) := by
  obtain ⟨i1, hi, hz0, hz1, hz2⟩ := info_parts rfrinfo
  go_enter Tryz.func118, Tryz.ntmps118
  go_wp2_with fail
  have hB0 : Below w.heap.size w ((w.alloc (.cells #[.slice none 0 0, .slice none 0 0, .int .i64 0, .int .i64 0] 166)).alloc (.cells #[.slice none 0 0, .slice none 0 0, .int .i64 0, .int .i64 0] 166)) := ((Below.refl _ w).alloc (Nat.le_refl _) _).alloc (by simp) _
  have hI0 : RInv B b w ((w.alloc (.cells #[.slice none 0 0, .slice none 0 0, .int .i64 0, .int .i64 0] 166)).alloc (.cells #[.slice none 0 0, .slice none 0 0, .int .i64 0, .int .i64 0] 166)) 0 [] [] none 0 none 0 [] :=
    ⟨by have := Whole.new (w.alloc (.cells #[.slice none 0 0, .slice none 0 0, .int .i64 0, .int .i64 0] 166)) 166 #[.slice none 0 0, .slice none 0 0, .int .i64 0, .int .i64 0]; rw [World.size_alloc] at this; exact this,
     (Whole.new w 166 #[.slice none 0 0, .slice none 0 0, .int .i64 0, .int .i64 0]).alloc _, World.ownsRow_nil _ _ _ _, World.ownsRow_nil _ _ _ _, hB0, fun i p hp => by simp at hp, rfl, Nat.le_refl _, rfl⟩
  go_loopw [4] (fun at_ wr => ∃ (k : Nat) (pre : List (Nat × Fr)) (us : List Value) (A1 : Option Addr) (c1 : Nat) (A2 : Option Addr) (c2 : Nat) (offs : List Value), at_ = .int .i64 k ∧ RInv B b w wr k pre us A1 c1 A2 c2 offs ∧
      Hid ((k < b.length ∧ Live b pre k) ∨ (k = b.length ∧ spl b = .ok (pre.map Prod.snd) ∧ pre = yla b 0))) (fun at_ _ => b.length - (intOf at_).toNat)
  case atStart =>
    refine ⟨0, [], [], none, 0, none, 0, [], rfl, hI0, ?_⟩
    rcases Nat.eq_zero_or_pos b.length with h0 | h0
    · obtain rfl : b = [] := List.eq_nil_of_length_eq_zero h0
      refine .inr ⟨rfl, ?_, (yla_none (by simp [fa])).symm⟩
      unfold spl
      rw [yla_none (by simp [fa])]
      rfl
    · exact .inl ⟨h0, live_start (fun e => by rw [e] at h0; simp at h0)⟩
  case round =>
    obtain ⟨k, pre, us, A1, c1, A2, c2, offs, rfl, hI, hst⟩ := hrel
    have hlow := hI.low
    have hple := hI.le
    have m0 := hI.box.cell 0
    have m1 := hI.box.cell 1
    have m2 := hI.box.cell 2
    have m3 := hI.box.cell 3
    have n0 := hI.res.cell 0
    have n1 := hI.res.cell 1
    have n2 := hI.res.cell 2
    have n3 := hI.res.cell 3
    have f0 := hI.box.frozen 0
    have f1 := hI.box.frozen 1
    have f2 := hI.box.frozen 2
    have f3 := hI.box.frozen 3
    have g0 := hI.res.frozen 0
    have g1 := hI.res.frozen 1
    have g2 := hI.res.frozen 2
    have g3 := hI.res.frozen 3
    simp only [List.getElem?_toArray, List.getElem?_cons_zero, List.getElem?_cons_succ] at m0 m1 m2 m3 n0 n1 n2 n3
    by_cases hlt : k < b.length
    · have hLive : Hid (Live b pre k) := by
        rcases hst.out with h1 | h1
        · exact h1.2
        · omega
      clear hst
      cases hf : fa b k with
      | none =>
        have hS := Lib.hid (hLive.out.none hf)
        have hsd : Hid (b.length < k + 4 ∨ (k + 4 ≤ b.length ∧ (numOf ((b.drop (k + 2)).take 2) < 4 ∨ b.length < k + numOf ((b.drop (k + 2)).take 2)))) := by
          unfold fa at hf
          split at hf
          · exact .inl (by assumption)
          · split at hf
            · exact .inr ⟨by omega, by assumption⟩
            · cases hf
        clear hf
        rcases hsd.out with h4 | ⟨h4, hbad⟩
        · have h4' : (b.length : Int) < (k : Int) + 4 := by omega
          go_wp2_with fail
          (try simp only [Exit.inBlock, Exit.then])
          refine bodyPost_ret (results_cell_row rfl _ _ w.heap.size 166 #[.slice A1 pre.length c1, .slice A2 pre.length c2, .int .i64 4, .int .i64 (k : Int)] (0, 0) _ rfl ((((((hI.res.far (p := ⟨w.heap.size + 1, 2, none⟩) (by simp) _).far (p := ⟨w.heap.size + 1, 3, none⟩) (by simp) _).set_ 0 _).set_ 1 _).set_ 2 _).set_ 3 _) Tryz.underlying166 rfl (by kernel_rfl)) rfl ?_
          exact ⟨(((((hlow.setCell (Nat.le_succ _) _).setCell (Nat.le_succ _) _).setCell (Nat.le_refl _) _).setCell (Nat.le_refl _) _).setCell (Nat.le_refl _) _).setCell (Nat.le_refl _) _, .inr ⟨_, _, A1, pre.length, c1, A2, pre.length, c2, hS.out, rfl⟩⟩
        · have h4' : (k : Int) + 4 ≤ (b.length : Int) := by omega
          have hN1 := rnumber_yes A c B b k 2 wr (h.below (hlow.mono hB)) (by omega) rfl (by omega)
          have hN2 := rnumber_yes A c B b (k + 2) 2 wr (h.below (hlow.mono hB)) (by omega) rfl (by omega)
          have hy := numOf_two (l := (b.drop (k + 2)).take 2) (by rw [List.length_take]; omega)
          have hck : ((k + 2 : Nat) : Int) = (k : Int) + 2 := by omega
          rw [hck] at hN2
          generalize numOf ((b.drop (k + 2)).take 2) = y at *
          generalize numOf ((b.drop k).take 2) = x at *
          by_cases hy4 : y < 4
          · have hy4' : (y : Int) < 4 := by omega
            go_wp2_with fail
            refine hN1.mono ?_
            rintro e w1 ⟨rfl, rfl⟩
            go_wp2_with fail
            refine hN2.mono ?_
            rintro e w1 ⟨rfl, rfl⟩
            go_wp2_with fail
            (try simp only [Exit.inBlock, Exit.then])
            refine bodyPost_ret (results_cell_row rfl _ _ w.heap.size 166 #[.slice A1 pre.length c1, .slice A2 pre.length c2, .int .i64 4, .int .i64 (k : Int)] (0, 0) _ rfl ((((((hI.res.far (p := ⟨w.heap.size + 1, 2, none⟩) (by simp) _).far (p := ⟨w.heap.size + 1, 3, none⟩) (by simp) _).set_ 0 _).set_ 1 _).set_ 2 _).set_ 3 _) Tryz.underlying166 rfl (by kernel_rfl)) rfl ?_
            exact ⟨(((((hlow.setCell (Nat.le_succ _) _).setCell (Nat.le_succ _) _).setCell (Nat.le_refl _) _).setCell (Nat.le_refl _) _).setCell (Nat.le_refl _) _).setCell (Nat.le_refl _) _, .inr ⟨_, _, A1, pre.length, c1, A2, pre.length, c2, hS.out, rfl⟩⟩
          · have hy4' : (4 : Int) ≤ (y : Int) := by omega
            have hy5 : (b.length : Int) < (k : Int) + (y : Int) := by omega
            go_wp2_with fail
            refine hN1.mono ?_
            rintro e w1 ⟨rfl, rfl⟩
            go_wp2_with fail
            refine hN2.mono ?_
            rintro e w1 ⟨rfl, rfl⟩
            go_wp2_with fail
            (try simp only [Exit.inBlock, Exit.then])
            refine bodyPost_ret (results_cell_row rfl _ _ w.heap.size 166 #[.slice A1 pre.length c1, .slice A2 pre.length c2, .int .i64 4, .int .i64 (k : Int)] (0, 0) _ rfl ((((((hI.res.far (p := ⟨w.heap.size + 1, 2, none⟩) (by simp) _).far (p := ⟨w.heap.size + 1, 3, none⟩) (by simp) _).set_ 0 _).set_ 1 _).set_ 2 _).set_ 3 _) Tryz.underlying166 rfl (by kernel_rfl)) rfl ?_
            exact ⟨(((((hlow.setCell (Nat.le_succ _) _).setCell (Nat.le_succ _) _).setCell (Nat.le_refl _) _).setCell (Nat.le_refl _) _).setCell (Nat.le_refl _) _).setCell (Nat.le_refl _) _, .inr ⟨_, _, A1, pre.length, c1, A2, pre.length, c2, hS.out, rfl⟩⟩
      | some f =>
        have hfl := fa_len hf
        have hfb := fa_back hf
        have hfk := hf
        unfold fa at hfk
        split at hfk
        · cases hfk
        rename_i h4
        split at hfk
        · cases hfk
        rename_i hyy
        simp only [Option.some.injEq] at hfk
        have hft : f.t = u16of (numOf ((b.drop k).take 2)) := by rw [← hfk]
        have hfv : f.v = (b.drop (k + 4)).take (numOf ((b.drop (k + 2)).take 2) - 4) := by rw [← hfk]
        have hvl : f.v.length = numOf ((b.drop (k + 2)).take 2) - 4 := by rw [hfv, List.length_take, List.length_drop]; omega
        clear hfk
        have h4' : (k : Int) + 4 ≤ (b.length : Int) := by omega
        have hN1 := rnumber_yes A c B b k 2 wr (h.below (hlow.mono hB)) (by omega) rfl (by omega)
        have hN2 := rnumber_yes A c B b (k + 2) 2 wr (h.below (hlow.mono hB)) (by omega) rfl (by omega)
        have hy := numOf_two (l := (b.drop (k + 2)).take 2) (by rw [List.length_take]; omega)
        have hx := numOf_two (l := (b.drop k).take 2) (by rw [List.length_take]; omega)
        have hck : ((k + 2 : Nat) : Int) = (k : Int) + 2 := by omega
        rw [hck] at hN2
        generalize numOf ((b.drop (k + 2)).take 2) = y at *
        generalize numOf ((b.drop k).take 2) = x at *
        have hfL : frL f = y := by unfold frL; omega
        rw [hfL] at hfl
        have hy4' : (4 : Int) ≤ (y : Int) := by omega
        have hy5 : (k : Int) + (y : Int) ≤ (b.length : Int) := by omega
        have hgap : gap (k + y) = gap y := gap_four hLive.out.four
        have hgl := gap_lt y
        obtain ⟨en, hen⟩ : ∃ en, en = k + y := ⟨_, rfl⟩
        obtain ⟨st, hst⟩ : ∃ st, st = k + 4 := ⟨_, rfl⟩
        have hE : (k : Int) + (y : Int) = (en : Int) := by omega
        have hS4 : (k : Int) + 4 = (st : Int) := by omega
        have hse : (st : Int) ≤ (en : Int) := by omega
        have hsb : (st : Int) ≤ (b.length : Int) := by omega
        have heb : (en : Int) ≤ (b.length : Int) := by omega
        have hec : (en : Int) ≤ (c : Int) := by omega
        have hvn : f.v.length = en - st := by omega
        have hwS : IntKind.i64.wrap (st : Int) = (st : Int) := by rw [IntKind.wrap_i64]; omega
        have hwE : IntKind.i64.wrap (en : Int) = (en : Int) := by rw [IntKind.wrap_i64]; omega
        have HEn := Lib.hid hen
        have HSt := Lib.hid hst
        clear hen hst
        -- the value, as a slice of the bytes
        obtain ⟨ad, rfl, hbad, hcell⟩ := h (fun e => by have := congrArg List.length e; simp at this; subst this; simp at hlt)
        have hVL : Lies w B (if c = st then some ad else some (ad.add st)) (f.v.map bv) := by
          rw [HSt.out]
          have h1 := (h.drop (k := k + 4) (c := c) (by simpa using hc)).take (y - 4)
          rw [← List.map_drop, ← List.map_take, ← hfv] at h1
          exact h1
        obtain ⟨VA, hVA⟩ : ∃ VA, (if c = st then some ad else some (ad.add st)) = VA := ⟨_, rfl⟩
        rw [hVA] at hVL
        by_cases hend : en = b.length
        · have hlast : ¬ ((en : Int) < (b.length : Int)) := by omega
          have hDn : Hid (spl b = .ok ((pre ++ [(k, f)]).map Prod.snd) ∧ pre ++ [(k, f)] = yla b 0) := ⟨hLive.out.done hf (by rw [hfL, ← HEn.out]; exact hend), (hLive.out.last hf (by rw [hfL, ← HEn.out, hend]; exact nx_end b)).symm⟩
          subst hend
          go_wp2_with fail
          refine hN1.mono ?_
          rintro e w1 ⟨rfl, rfl⟩
          go_wp2_with fail
          refine hN2.mono ?_
          rintro e w1 ⟨rfl, rfl⟩
          go_wp2_with fail
          have hnew : ∀ j u, [Value.int .u16 (IntKind.u16.wrap (x : Int)), Value.slice VA (b.length - st) (c - st)][j]? = some u → (wr.alloc (.cells #[.int .u16 (IntKind.u16.wrap (x : Int)), .slice VA (b.length - st) (c - st)] 168)).drew.cell? ((⟨wr.heap.size, 0, none⟩ : Addr).add j) = some u := fun j u hu => by
            rw [add_row]
            refine ((Whole.new wr 168 _).drew.cell j).trans ?_
            simpa using hu
          have hbA := hI.box.alloc (.cells #[.int .u16 (IntKind.u16.wrap (x : Int)), .slice VA (b.length - st) (c - st)] 168)
          have mA := hbA.cell 0
          have fA := hbA.frozen 0
          have mAd := hbA.drew.cell 0
          have fAd := hbA.drew.frozen 0
          simp only [List.getElem?_toArray, List.getElem?_cons_zero] at mA mAd
          clear hbA
          have hr1ne := whole_row_ne hI.box (by decide) hI.r1
          have hr2ne := whole_row_ne hI.box (by decide) hI.r2
          have hr1ne' := whole_row_ne hI.res (by decide) hI.r1
          have hr2ne' := whole_row_ne hI.res (by decide) hI.r2
          have hrr := rows_ne hI.r2 hI.r1 (by decide)
          have hlz := hlow.size
          go_region_law (refine step_append_lies _ rfl (.tmp 86) (.tmp 95) 163 rfl w.heap.size 168 i1 _ 2 32 Tryz.underlying163 hi hz0 hz1 hz2 rfl (by omega) _ _ _ rfl ((hI.r1.alloc _).drew) _ 1 1 [.int .u16 (IntKind.u16.wrap (x : Int)), .slice VA (b.length - st) (c - st)] rfl rfl hnew (by intro u hu; simp at hu; rcases hu with rfl | rfl <;> rfl) (by omega) (by unfold maxLen; omega) (by omega) (by simp; omega) _ rfl ?_; intro g cap w2 own2 grow2 hblk hglt; have hbx2 : Whole w2 (w.heap.size + 1) 166 #[.slice A1 pre.length c1, .slice A2 pre.length c2, .int .i64 0, .int .i64 0] := ((hI.box.alloc _).drew).grown grow2 (fun e => hr1ne e.symm); have p0 := hbx2.cell 0; have p1 := hbx2.cell 1; have q0 := hbx2.frozen 0; have q1 := hbx2.frozen 1; simp only [List.getElem?_toArray, List.getElem?_cons_zero, List.getElem?_cons_succ] at p0 p1)
          all_goals
            have hrs2 : Whole w2 w.heap.size 166 #[.slice none 0 0, .slice none 0 0, .int .i64 0, .int .i64 0] := ((hI.res.alloc _).drew).grown grow2 (fun e => hr1ne' e.symm)
            have hr22 : w2.ownsRow w.heap.size 3 1 (.slice A2 pre.length c2) pre.length offs := ((hI.r2.alloc _).drew).kept grow2 hrr
            have hlow2 : Below w.heap.size w w2 := (below_drew (hlow.alloc hlz _)).grown grow2 (by simp; omega) (fun j e => (hI.r1.lt j e).1)
            have hz2' := hlow2.size
            have hbx3 := hbx2.set_ 0 (.slice (some ⟨g, 0, none⟩) (pre.length + 1) cap)
            have hrs3 := hrs2.far (p := ⟨w.heap.size + 1, 0, none⟩) (by simp) (.slice (some ⟨g, 0, none⟩) (pre.length + 1) cap)
            have hr13 := own2.kept (grownBy_setCell' w2 (w.heap.size + 1) (.slice (some ⟨g, 0, none⟩) (pre.length + 1) cap)) (.inr (whole_row_ne hbx2 (by decide) own2))
            have hr23 := hr22.kept (grownBy_setCell' w2 (w.heap.size + 1) (.slice (some ⟨g, 0, none⟩) (pre.length + 1) cap)) (.inr (whole_row_ne hbx2 (by decide) hr22))
            have hlow3 := hlow2.setCell (p := ⟨w.heap.size + 1, 0, none⟩) (Nat.le_succ _) (.slice (some ⟨g, 0, none⟩) (pre.length + 1) cap)
            have hz3 := hlow3.size
            have hbx3' : Whole (w2.setCell ⟨w.heap.size + 1, 0, none⟩ (.slice (some ⟨g, 0, none⟩) (pre.length + 1) cap)) (w.heap.size + 1) 166 #[.slice (some ⟨g, 0, none⟩) (pre.length + 1) cap, .slice A2 pre.length c2, .int .i64 0, .int .i64 0] := hbx3
            clear hbx3 own2 grow2 p0 p1 q0 q1 hbx2 hrs2 hr22
            have z1 := hbx3'.cell 1
            have y1 := hbx3'.frozen 1
            simp only [List.getElem?_toArray, List.getElem?_cons_zero, List.getElem?_cons_succ] at z1
            have hnw : Lies ((w2.setCell ⟨w.heap.size + 1, 0, none⟩ (.slice (some ⟨g, 0, none⟩) (pre.length + 1) cap)).alloc (.cells #[.int .i64 (k : Int)] 3)) (w2.heap.size + 1) (some ⟨w2.heap.size, 0, none⟩) [.int .i64 (k : Int)] := by
              have h0 : (w2.setCell ⟨w.heap.size + 1, 0, none⟩ (.slice (some ⟨g, 0, none⟩) (pre.length + 1) cap)).heap.size = w2.heap.size := by simp
              have h1 := Lies.new1 (w2.setCell ⟨w.heap.size + 1, 0, none⟩ (.slice (some ⟨g, 0, none⟩) (pre.length + 1) cap)) (.int .i64 (k : Int)) 3
              rw [h0] at h1
              exact h1
            go_wp2_with (at_builtin; (refine wpList_append_lies _ rfl (.tmp 99) (.tmp 101) 164 rfl w.heap.size 3 _ 8 Tryz.underlying164 isinfo rfl _ _ _ rfl (hr23.alloc _) _ _ 1 1 [.int .i64 (k : Int)] rfl rfl hnw (by intro u hu; rw [List.mem_singleton.1 hu]; rfl) (by omega) (by unfold maxLen; omega) (by simp only [World.size_alloc]; omega) ?_; intro A4 c4 w4 own4 grow4 _; have hbx4 : Whole w4 (w.heap.size + 1) 166 #[.slice (some ⟨g, 0, none⟩) (pre.length + 1) cap, .slice A2 pre.length c2, .int .i64 0, .int .i64 0] := (hbx3'.alloc _).grown grow4 (fun e => whole_row_ne hbx3' (by decide) hr23 e.symm); have x1 := hbx4.cell 1; have v1 := hbx4.frozen 1; simp only [List.getElem?_toArray, List.getElem?_cons_zero, List.getElem?_cons_succ] at x1))
            have hres4 := (hrs3.alloc (.cells #[.int .i64 (k : Int)] 3)).grown grow4 (fun e => whole_row_ne hrs3 (by decide) hr23 e.symm)
            have hr14 := (hr13.alloc (.cells #[.int .i64 (k : Int)] 3)).kept grow4 (rows_ne hr13 hr23 (by decide))
            have hlow4 : Below w.heap.size w w4 := (hlow3.alloc hz3 _).grown grow4 (by simp only [World.size_alloc]; omega) (fun j e => (hr23.lt j e).1)
            have hI5 : RInv B b w (w4.setCell ⟨w.heap.size + 1, 1, none⟩ (.slice A4 (pre.length + 1) c4)) b.length (pre ++ [(k, f)]) (us ++ [hv f.t, .slice VA (b.length - st) (c - st)]) (some ⟨g, 0, none⟩) cap A4 c4 (offs ++ [.int .i64 (k : Int)]) := by
              have eL : (pre ++ [(k, f)]).length = pre.length + 1 := by simp
              refine ⟨?_, hres4.far (by simp) _, ?_, ?_, hlow4.setCell (Nat.le_succ _) _, ?_, by rw [List.length_append, hI.len, eL]; simp; omega, by rw [eL]; omega, by rw [List.map_append, ← hI.off]; rfl⟩
              · rw [eL]
                exact hbx4.set_ 1 _
              · rw [eL]
                have h8 := hr14.kept (grownBy_setCell1 w4 (w.heap.size + 1) 1 (.slice A4 (pre.length + 1) c4)) (.inr (whole_row_ne hbx4 (by decide) hr14))
                rw [u16_wrap hx, ← hft] at h8
                exact h8
              · rw [eL]
                exact own4.kept (grownBy_setCell1 w4 (w.heap.size + 1) 1 (.slice A4 (pre.length + 1) c4)) (.inr (whole_row_ne hbx4 (by decide) own4))
              · have h9 := hI.each.snoc hI.len (k, f) (v := .slice VA (b.length - st) (c - st)) ⟨⟨VA, c - st, by rw [← hvn], hVL, by show f.v.length ≤ c - st; omega, Nat.le_trans (Nat.sub_le _ _) hm⟩, by rw [← hVA]; split <;> exact ⟨_, _, _, rfl⟩⟩
                exact h9
            have HI5 := Lib.hid hI5
            clear hI5 own4 grow4 hbx4 hres4 hr14 hr13 hr23 hbx3' hrs3 hnew
            go_wp2_with fail
            go_roundw
            case rel => exact ⟨b.length, _, _, _, _, _, _, _, rfl, HI5.out, .inr ⟨rfl, hDn.out⟩⟩
            case measure => simp [intOf]; omega
        · have hlast : (en : Int) < (b.length : Int) := by omega
          have hcen : ¬ c = en := by omega
          have hene : k + frL f ≠ b.length := by rw [hfL, ← HEn.out]; exact hend
          have hGp := rgap_any y (by omega) wr
          have hge : gap en = gap y := by rw [HEn.out]; exact hgap
          have hnx := nx_iff (b := b) (e := en)
          obtain ⟨kk, hkk⟩ : ∃ kk, kk = up en := ⟨_, rfl⟩
          rw [← hkk] at hnx
          have hkg : kk = en + gap en := by rw [hkk]; rfl
          have hK : (en : Int) + (gap y : Int) = (kk : Int) := by omega
          have hK3 : (en : Int) ≤ (kk : Int) := by omega
          have hKw : IntKind.i64.wrap (kk : Int) = (kk : Int) := by rw [IntKind.wrap_i64]; omega
          have hK4 : kk ≤ en + 3 := by omega
          clear hkk
          by_cases hkb : kk < b.length
          · have hkb' : (kk : Int) < (b.length : Int) := by omega
            have hkc : (kk : Int) ≤ (c : Int) := by omega
            have hkn : kk - en = gap en := by omega
            have hZr : ∀ A' l' c', A' = some (ad.add en) → l' = kk - en → Calls Tryz.prog 145 #[.slice A' l' c'] wr fun e w' => e = .returned (.bool (zeroB ((b.drop en).take (gap en)))) ∧ wr = w' := by
              rintro A' l' c' rfl rfl
              have h1 := (h.below (hlow.mono hB)).drop (k := en) (c := c) (by simpa using hc)
              rw [if_neg hcen] at h1
              have h2 := h1.take (kk - en)
              rw [← List.map_drop, ← List.map_take, hkn] at h2
              have h3 := rzero_any _ c' _ _ wr h2 (by rw [List.length_take, List.length_drop]; unfold maxLen; omega)
              rw [List.length_take, List.length_drop, Nat.min_eq_left (by omega), ← hkn] at h3
              rw [← hkn]
              exact h3
            by_cases hzz : zeroB ((b.drop en).take (gap en)) = true
            · rw [if_pos ⟨hkb, hzz⟩] at hnx
              have hMr := Lib.hid (hLive.out.more hf (by rw [hfL, ← HEn.out]; exact hnx))
              rw [hzz] at hZr
              clear hnx hkg hge hzz hkn
              go_wp2_with fail
              refine hN1.mono ?_
              rintro e w1 ⟨rfl, rfl⟩
              go_wp2_with fail
              refine hN2.mono ?_
              rintro e w1 ⟨rfl, rfl⟩
              go_wp2_with fail
              refine hGp.mono ?_
              rintro e w1 ⟨rfl, rfl⟩
              go_wp2_with fail
              refine (hZr _ _ _ (by first | rfl | rw [if_neg hcen] | (simp [hcen])) (by omega)).mono ?_
              rintro e w1 ⟨rfl, rfl⟩
              go_wp2_with fail
              have hnew : ∀ j u, [Value.int .u16 (IntKind.u16.wrap (x : Int)), Value.slice VA (en - st) (c - st)][j]? = some u → (wr.alloc (.cells #[.int .u16 (IntKind.u16.wrap (x : Int)), .slice VA (en - st) (c - st)] 168)).drew.cell? ((⟨wr.heap.size, 0, none⟩ : Addr).add j) = some u := fun j u hu => by
                rw [add_row]
                refine ((Whole.new wr 168 _).drew.cell j).trans ?_
                simpa using hu
              have hbA := hI.box.alloc (.cells #[.int .u16 (IntKind.u16.wrap (x : Int)), .slice VA (en - st) (c - st)] 168)
              have mA := hbA.cell 0
              have fA := hbA.frozen 0
              have mAd := hbA.drew.cell 0
              have fAd := hbA.drew.frozen 0
              simp only [List.getElem?_toArray, List.getElem?_cons_zero] at mA mAd
              clear hbA
              have hr1ne := whole_row_ne hI.box (by decide) hI.r1
              have hr2ne := whole_row_ne hI.box (by decide) hI.r2
              have hr1ne' := whole_row_ne hI.res (by decide) hI.r1
              have hr2ne' := whole_row_ne hI.res (by decide) hI.r2
              have hrr := rows_ne hI.r2 hI.r1 (by decide)
              have hlz := hlow.size
              go_region_law (refine step_append_lies _ rfl (.tmp 86) (.tmp 95) 163 rfl w.heap.size 168 i1 _ 2 32 Tryz.underlying163 hi hz0 hz1 hz2 rfl (by omega) _ _ _ rfl ((hI.r1.alloc _).drew) _ 1 1 [.int .u16 (IntKind.u16.wrap (x : Int)), .slice VA (en - st) (c - st)] rfl rfl hnew (by intro u hu; simp at hu; rcases hu with rfl | rfl <;> rfl) (by omega) (by unfold maxLen; omega) (by omega) (by simp; omega) _ rfl ?_; intro g cap w2 own2 grow2 hblk hglt; have hbx2 : Whole w2 (w.heap.size + 1) 166 #[.slice A1 pre.length c1, .slice A2 pre.length c2, .int .i64 0, .int .i64 0] := ((hI.box.alloc _).drew).grown grow2 (fun e => hr1ne e.symm); have p0 := hbx2.cell 0; have p1 := hbx2.cell 1; have q0 := hbx2.frozen 0; have q1 := hbx2.frozen 1; simp only [List.getElem?_toArray, List.getElem?_cons_zero, List.getElem?_cons_succ] at p0 p1)
              all_goals
                have hrs2 : Whole w2 w.heap.size 166 #[.slice none 0 0, .slice none 0 0, .int .i64 0, .int .i64 0] := ((hI.res.alloc _).drew).grown grow2 (fun e => hr1ne' e.symm)
                have hr22 : w2.ownsRow w.heap.size 3 1 (.slice A2 pre.length c2) pre.length offs := ((hI.r2.alloc _).drew).kept grow2 hrr
                have hlow2 : Below w.heap.size w w2 := (below_drew (hlow.alloc hlz _)).grown grow2 (by simp; omega) (fun j e => (hI.r1.lt j e).1)
                have hz2' := hlow2.size
                have hbx3 := hbx2.set_ 0 (.slice (some ⟨g, 0, none⟩) (pre.length + 1) cap)
                have hrs3 := hrs2.far (p := ⟨w.heap.size + 1, 0, none⟩) (by simp) (.slice (some ⟨g, 0, none⟩) (pre.length + 1) cap)
                have hr13 := own2.kept (grownBy_setCell' w2 (w.heap.size + 1) (.slice (some ⟨g, 0, none⟩) (pre.length + 1) cap)) (.inr (whole_row_ne hbx2 (by decide) own2))
                have hr23 := hr22.kept (grownBy_setCell' w2 (w.heap.size + 1) (.slice (some ⟨g, 0, none⟩) (pre.length + 1) cap)) (.inr (whole_row_ne hbx2 (by decide) hr22))
                have hlow3 := hlow2.setCell (p := ⟨w.heap.size + 1, 0, none⟩) (Nat.le_succ _) (.slice (some ⟨g, 0, none⟩) (pre.length + 1) cap)
                have hz3 := hlow3.size
                have hbx3' : Whole (w2.setCell ⟨w.heap.size + 1, 0, none⟩ (.slice (some ⟨g, 0, none⟩) (pre.length + 1) cap)) (w.heap.size + 1) 166 #[.slice (some ⟨g, 0, none⟩) (pre.length + 1) cap, .slice A2 pre.length c2, .int .i64 0, .int .i64 0] := hbx3
                clear hbx3 own2 grow2 p0 p1 q0 q1 hbx2 hrs2 hr22
                have z1 := hbx3'.cell 1
                have y1 := hbx3'.frozen 1
                simp only [List.getElem?_toArray, List.getElem?_cons_zero, List.getElem?_cons_succ] at z1
                have hnw : Lies ((w2.setCell ⟨w.heap.size + 1, 0, none⟩ (.slice (some ⟨g, 0, none⟩) (pre.length + 1) cap)).alloc (.cells #[.int .i64 (k : Int)] 3)) (w2.heap.size + 1) (some ⟨w2.heap.size, 0, none⟩) [.int .i64 (k : Int)] := by
                  have h0 : (w2.setCell ⟨w.heap.size + 1, 0, none⟩ (.slice (some ⟨g, 0, none⟩) (pre.length + 1) cap)).heap.size = w2.heap.size := by simp
                  have h1 := Lies.new1 (w2.setCell ⟨w.heap.size + 1, 0, none⟩ (.slice (some ⟨g, 0, none⟩) (pre.length + 1) cap)) (.int .i64 (k : Int)) 3
                  rw [h0] at h1
                  exact h1
                go_wp2_with (at_builtin; (refine wpList_append_lies _ rfl (.tmp 99) (.tmp 101) 164 rfl w.heap.size 3 _ 8 Tryz.underlying164 isinfo rfl _ _ _ rfl (hr23.alloc _) _ _ 1 1 [.int .i64 (k : Int)] rfl rfl hnw (by intro u hu; rw [List.mem_singleton.1 hu]; rfl) (by omega) (by unfold maxLen; omega) (by simp only [World.size_alloc]; omega) ?_; intro A4 c4 w4 own4 grow4 _; have hbx4 : Whole w4 (w.heap.size + 1) 166 #[.slice (some ⟨g, 0, none⟩) (pre.length + 1) cap, .slice A2 pre.length c2, .int .i64 0, .int .i64 0] := (hbx3'.alloc _).grown grow4 (fun e => whole_row_ne hbx3' (by decide) hr23 e.symm); have x1 := hbx4.cell 1; have v1 := hbx4.frozen 1; simp only [List.getElem?_toArray, List.getElem?_cons_zero, List.getElem?_cons_succ] at x1))
                have hres4 := (hrs3.alloc (.cells #[.int .i64 (k : Int)] 3)).grown grow4 (fun e => whole_row_ne hrs3 (by decide) hr23 e.symm)
                have hr14 := (hr13.alloc (.cells #[.int .i64 (k : Int)] 3)).kept grow4 (rows_ne hr13 hr23 (by decide))
                have hlow4 : Below w.heap.size w w4 := (hlow3.alloc hz3 _).grown grow4 (by simp only [World.size_alloc]; omega) (fun j e => (hr23.lt j e).1)
                have hI5 : RInv B b w (w4.setCell ⟨w.heap.size + 1, 1, none⟩ (.slice A4 (pre.length + 1) c4)) kk (pre ++ [(k, f)]) (us ++ [hv f.t, .slice VA (en - st) (c - st)]) (some ⟨g, 0, none⟩) cap A4 c4 (offs ++ [.int .i64 (k : Int)]) := by
                  have eL : (pre ++ [(k, f)]).length = pre.length + 1 := by simp
                  refine ⟨?_, hres4.far (by simp) _, ?_, ?_, hlow4.setCell (Nat.le_succ _) _, ?_, by rw [List.length_append, hI.len, eL]; simp; omega, by rw [eL]; omega, by rw [List.map_append, ← hI.off]; rfl⟩
                  · rw [eL]
                    exact hbx4.set_ 1 _
                  · rw [eL]
                    have h8 := hr14.kept (grownBy_setCell1 w4 (w.heap.size + 1) 1 (.slice A4 (pre.length + 1) c4)) (.inr (whole_row_ne hbx4 (by decide) hr14))
                    rw [u16_wrap hx, ← hft] at h8
                    exact h8
                  · rw [eL]
                    exact own4.kept (grownBy_setCell1 w4 (w.heap.size + 1) 1 (.slice A4 (pre.length + 1) c4)) (.inr (whole_row_ne hbx4 (by decide) own4))
                  · have h9 := hI.each.snoc hI.len (k, f) (v := .slice VA (en - st) (c - st)) ⟨⟨VA, c - st, by rw [← hvn], hVL, by show f.v.length ≤ c - st; omega, Nat.le_trans (Nat.sub_le _ _) hm⟩, by rw [← hVA]; split <;> exact ⟨_, _, _, rfl⟩⟩
                    exact h9
                have HI5 := Lib.hid hI5
                clear hI5 own4 grow4 hbx4 hres4 hr14 hr13 hr23 hbx3' hrs3 hnew
                go_wp2_with fail
                go_roundw
                case rel => exact ⟨kk, _, _, _, _, _, _, _, rfl, HI5.out, .inl ⟨by omega, hMr.out⟩⟩
                case measure => simp [intOf]; omega
            · rw [if_neg (fun hq => hzz hq.2)] at hnx
              have hS := hLive.out.pad hf (by rw [hfL, ← HEn.out]; exact hnx) hene
              rw [hfL, ← HEn.out] at hS
              replace hS := Lib.hid hS
              rw [Bool.not_eq_true] at hzz
              rw [hzz] at hZr
              clear hnx hkg hge hzz hkn
              go_wp2_with fail
              refine hN1.mono ?_
              rintro e w1 ⟨rfl, rfl⟩
              go_wp2_with fail
              refine hN2.mono ?_
              rintro e w1 ⟨rfl, rfl⟩
              go_wp2_with fail
              refine hGp.mono ?_
              rintro e w1 ⟨rfl, rfl⟩
              go_wp2_with fail
              refine (hZr _ _ _ (by first | rfl | rw [if_neg hcen] | (simp [hcen])) (by omega)).mono ?_
              rintro e w1 ⟨rfl, rfl⟩
              go_wp2_with fail
              (try simp only [Exit.inBlock, Exit.then])
              refine bodyPost_ret (results_cell_row rfl _ _ w.heap.size 166 #[.slice A1 pre.length c1, .slice A2 pre.length c2, .int .i64 5, .int .i64 (en : Int)] (0, 0) _ rfl ((((((hI.res.far (p := ⟨w.heap.size + 1, 2, none⟩) (by simp) _).far (p := ⟨w.heap.size + 1, 3, none⟩) (by simp) _).set_ 0 _).set_ 1 _).set_ 2 _).set_ 3 _) Tryz.underlying166 rfl (by kernel_rfl)) rfl ?_
              exact ⟨(((((hlow.setCell (Nat.le_succ _) _).setCell (Nat.le_succ _) _).setCell (Nat.le_refl _) _).setCell (Nat.le_refl _) _).setCell (Nat.le_refl _) _).setCell (Nat.le_refl _) _, .inr ⟨_, _, A1, pre.length, c1, A2, pre.length, c2, hS.out, rfl⟩⟩
          · rw [if_neg (fun hq => hkb hq.1)] at hnx
            have hS := hLive.out.pad hf (by rw [hfL, ← HEn.out]; exact hnx) hene
            rw [hfL, ← HEn.out] at hS
            replace hS := Lib.hid hS
            have hkb' : (b.length : Int) ≤ (kk : Int) := by omega
            clear hnx hkg hge
            go_wp2_with fail
            refine hN1.mono ?_
            rintro e w1 ⟨rfl, rfl⟩
            go_wp2_with fail
            refine hN2.mono ?_
            rintro e w1 ⟨rfl, rfl⟩
            go_wp2_with fail
            refine hGp.mono ?_
            rintro e w1 ⟨rfl, rfl⟩
            go_wp2_with fail
            (try simp only [Exit.inBlock, Exit.then])
            refine bodyPost_ret (results_cell_row rfl _ _ w.heap.size 166 #[.slice A1 pre.length c1, .slice A2 pre.length c2, .int .i64 5, .int .i64 (en : Int)] (0, 0) _ rfl ((((((hI.res.far (p := ⟨w.heap.size + 1, 2, none⟩) (by simp) _).far (p := ⟨w.heap.size + 1, 3, none⟩) (by simp) _).set_ 0 _).set_ 1 _).set_ 2 _).set_ 3 _) Tryz.underlying166 rfl (by kernel_rfl)) rfl ?_
            exact ⟨(((((hlow.setCell (Nat.le_succ _) _).setCell (Nat.le_succ _) _).setCell (Nat.le_refl _) _).setCell (Nat.le_refl _) _).setCell (Nat.le_refl _) _).setCell (Nat.le_refl _) _, .inr ⟨_, _, A1, pre.length, c1, A2, pre.length, c2, hS.out, rfl⟩⟩
    · have hS : Hid (k = b.length ∧ spl b = .ok (pre.map Prod.snd) ∧ pre = yla b 0) := by
        rcases hst.out with h1 | h1
        · exact absurd h1.1 hlt
        · exact Lib.hid h1
      clear hst
      have hlt' : (b.length : Int) ≤ (k : Int) := by omega
      go_wp2_with fail
      refine bodyPost_ret (results_cell_row rfl _ _ w.heap.size 166 #[.slice A1 pre.length c1, .slice A2 pre.length c2, .int .i64 0, .int .i64 0] (0, 0) _ rfl ((((hI.res.set_ 0 _).set_ 1 _).set_ 2 _).set_ 3 _) Tryz.underlying166 rfl (by kernel_rfl)) rfl ?_
      have hne := whole_row_ne hI.res (by decide) hI.r1
      have hne2 := whole_row_ne hI.res (by decide) hI.r2
      have hlowE := (((hlow.setCell (p := ⟨w.heap.size, 0, none⟩) (Nat.le_refl _) (.slice A1 pre.length c1)).setCell (p := ⟨w.heap.size, 1, none⟩) (Nat.le_refl _) (.slice A2 pre.length c2)).setCell (p := ⟨w.heap.size, 2, none⟩) (Nat.le_refl _) (.int .i64 0)).setCell (p := ⟨w.heap.size, 3, none⟩) (Nat.le_refl _) (.int .i64 0)
      have hF := lies_own2 ((((hI.r1.kept (grownBy_setCell1 _ w.heap.size 0 (.slice A1 pre.length c1)) (.inr hne)).kept (grownBy_setCell1 _ w.heap.size 1 (.slice A2 pre.length c2)) (.inr hne)).kept (grownBy_setCell1 _ w.heap.size 2 (.int .i64 0)) (.inr hne)).kept (grownBy_setCell1 _ w.heap.size 3 (.int .i64 0)) (.inr hne))
      have hO := (((hI.r2.kept (grownBy_setCell1 _ w.heap.size 0 (.slice A1 pre.length c1)) (.inr hne2)).kept (grownBy_setCell1 _ w.heap.size 1 (.slice A2 pre.length c2)) (.inr hne2)).kept (grownBy_setCell1 _ w.heap.size 2 (.int .i64 0)) (.inr hne2)).kept (grownBy_setCell1 _ w.heap.size 3 (.int .i64 0)) (.inr hne2)
      have hcap := own_cap2 hO
      have hLo := lies_own2 hO
      rw [hI.off] at hLo
      obtain ⟨_, hS2, hS3⟩ := hS.out
      unfold SGives
      rw [← hS3]
      exact ⟨hlowE, .inl ⟨A1, c1, A2, c2, us, by rw [hS2], rfl, hF, hI.len, hI.each.bel (hlowE.mono hB), hLo, hcap.1, hcap.2⟩⟩
end Go.Proofs.YthkbcpbgoefanaaGreatDoor


