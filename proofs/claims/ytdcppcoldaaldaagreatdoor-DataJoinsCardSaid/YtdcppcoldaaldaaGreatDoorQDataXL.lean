/- Layer 13: the law DataJoins. It writes nothing that was there. -/
import Derived.Test.YtdcppcoldaaldaaGreatDoorQDataXJ
import Derived.Test.YtdcppcoldaaldaaGreatDoorQXA
import Derived.Test.YtdcppcoldaaldaaGreatDoorQDT
import Derived.Test.YtdcppcoldaaldaaGreatDoorQDataD
import Derived.Test.YtdcppcoldaaldaaGreatDoorQNS
import Derived.BigGuard






namespace Go.Proofs.YtdcppcoldaaldaaGreatDoor
open Go.RowKit

set_option linter.unusedSimpArgs false
theorem pinfoD : (Tryz.prog.info? 34).map (fun i => (i.zero, i.size, i.bytes)) = some (some (.agg #[.bool false, .int .u32 0, .int .u16 0, .int .u32 0, .int .u32 0, .bool false, .bool false, .bool false, .bool false, .slice none 0 0]), 10, 48) := by kernel_rfl
theorem tot_few (ms : List Pm) (h : ∀ m ∈ ms, m.p.us.length ≤ 1000) : tot (ms.map fun m => m.p.us) ≤ ms.length * 1000 := by
  induction ms with
  | nil => simp [tot]
  | cons m ms ih =>
    have h1 := ih fun x hx => h x (List.mem_cons_of_mem _ hx)
    have h2 := h m (List.mem_cons_self ..)
    unfold tot at h1 ⊢
    simp only [List.map_cons, List.flatten_cons, List.length_append, List.length_cons]
    omega
theorem pts_own {W : World} {base : Nat} {A : Option Addr} {c k : Nat} {ms : List Pm} {t : TypeId} (h : W.ownsRow base t 10 (.slice A k c) k (pmFlat ms)) (hk : ms.length = k) (he : ∀ m ∈ ms, PtL W W.heap.size m.A m.c m.p) : Pts W W.heap.size A c ms := by
  have hcap := own_capW h
  refine ⟨fun hne => ?_, he, by rw [hk]; exact hcap.1, hcap.2⟩
  rcases h.2 with ⟨_, h2⟩ | ⟨g, cap, cur, h1, _, h3, _⟩
  · refine absurd (List.eq_nil_of_length_eq_zero ?_) hne
    rw [pmFlat_len, hk, h2]
  · simp only [Value.slice.injEq] at h1
    obtain ⟨rfl, _, _⟩ := h1
    exact ⟨_, rfl, (Array.getElem?_eq_some_iff.1 h3).1, h.cells (g := g) rfl⟩
theorem own_belowT {w w' : World} {base e size n : Nat} {v : Value} {xs : List Value} (h : w.ownsRow base e size v n xs) (hb : Below w.heap.size w w') : w'.ownsRow base e size v n xs := by
  have hlt := h.lt
  refine ⟨h.1, ?_⟩
  rcases h.2 with h2 | ⟨g, cap, cur, rfl, h3, h4, h5⟩
  · exact .inl h2
  · exact .inr ⟨g, cap, cur, rfl, h3, (hb.block g (hlt g rfl).2).trans h4, h5⟩
set_option maxRecDepth 100000 in
set_option maxHeartbeats 16000000 in
theorem djo_law (ms : List Pm) (A : Option Addr) (c : Nat) (w : World) (h : Pts w w.heap.size A c ms) (hh : Handle w) :
    Calls Tryz.prog 4 #[.slice A ms.length c] w fun e w' => e = .returned (.bool true) ∧ Below w.heap.size w w' := by
  have HH := Lib.hid hh
  have HP := Lib.hid h
  have hdc := h.dc
  have hdm := h.dm
  clear h
  go_enter Tryz.func4, Tryz.ntmps4
  by_cases hgt : (30 : Int) < (ms.length : Int)
  · go_wp2_with fail
    refine (awake13_any w hh).mono ?_
    rintro e w1 ⟨rfl, b1⟩
    have hh1 := hh.below b1 hh.lt
    go_wp2_with fail
    refine (awake13_any w1 hh1).mono ?_
    rintro e w2 ⟨rfl, b2⟩
    go_wp2_with fail
    go_ret
    exact ⟨rfl, b1.trans (b2.mono b1.size)⟩
  · go_wp2_with fail
    refine (awake13_any w hh).mono ?_
    rintro e wa ⟨rfl, b1⟩
    clear hh
    have HPa := Lib.hid (HP.out.on b1)
    go_upto_region 5 with fail
    go_loopw [3, 4] (fun own i wr => ∃ (k : Nat) (Ao : Option Addr) (co : Nat), k ≤ ms.length ∧ i = .int .i64 (k : Int) ∧ own = .slice Ao k co ∧ wr.ownsRow wa.heap.size 34 10 (.slice Ao k co) k (pmFlat (ms.take k)) ∧ Below wa.heap.size wa wr ∧ ∀ m ∈ ms.take k, m.p.us.length ≤ 1000) (fun _ i _ => ms.length - (intOf i).toNat)
    case atStart => exact ⟨0, none, 0, Nat.zero_le _, rfl, rfl, World.ownsRow_nil _ _ _ _, Below.refl _ _, fun m hm => by simp at hm⟩
    case round =>
      obtain ⟨k, Ao, co, hk, rfl, rfl, hown, hbel, hfew⟩ := hrel
      by_cases hlt : k < ms.length
      · obtain ⟨m, hm⟩ : ∃ m, ms[k]? = some m := ⟨_, List.getElem?_eq_getElem hlt⟩
        have hi1 : (k : Int) < (ms.length : Int) := by omega
        have hPr := HPa.out.on hbel
        have hm9 := hPr.each m (List.mem_of_getElem? hm)
        obtain ⟨ad, rfl, hadb, a0, a1, a2, a3, a4, a5, a6, a7, a8, a9⟩ := hPr.cells hm
        have hF := few13_any m.p m.A m.c wr
        have HO := Lib.hid hown
        have HF := Lib.hid hfew
        have HM := Lib.hid hm
        have HB := Lib.hid hbel
        have HC : Hid (∀ V, Below wr.heap.size wr V → ∃ ad', some ad = some ad' ∧ ad'.block < wr.heap.size ∧ V.cell? (ad'.add (k * 10)) = some (.bool m.p.inter) ∧ V.cell? ⟨(ad'.add (k * 10)).block, (ad'.add (k * 10)).off + 1, none⟩ = some (uv m.p.tsn) ∧ V.cell? ⟨(ad'.add (k * 10)).block, (ad'.add (k * 10)).off + 2, none⟩ = some (hv m.p.st) ∧ V.cell? ⟨(ad'.add (k * 10)).block, (ad'.add (k * 10)).off + 3, none⟩ = some (uv m.p.sq) ∧ V.cell? ⟨(ad'.add (k * 10)).block, (ad'.add (k * 10)).off + 4, none⟩ = some (uv m.p.pr) ∧ V.cell? ⟨(ad'.add (k * 10)).block, (ad'.add (k * 10)).off + 5, none⟩ = some (.bool m.p.bg) ∧ V.cell? ⟨(ad'.add (k * 10)).block, (ad'.add (k * 10)).off + 6, none⟩ = some (.bool m.p.en) ∧ V.cell? ⟨(ad'.add (k * 10)).block, (ad'.add (k * 10)).off + 7, none⟩ = some (.bool m.p.un) ∧ V.cell? ⟨(ad'.add (k * 10)).block, (ad'.add (k * 10)).off + 8, none⟩ = some (.bool m.p.nw) ∧ V.cell? ⟨(ad'.add (k * 10)).block, (ad'.add (k * 10)).off + 9, none⟩ = some (.slice m.A m.p.us.length m.c)) := Lib.hid (fun V hV => (hPr.below hV).cells hm)
        clear hown hfew hm hbel hPr
        cases hfw : few13B m.p with
        | false =>
          rw [hfw] at hF
          clear hfw
          go_wp2_with fail
          refine hF.mono ?_
          rintro e w2 ⟨rfl, b2⟩
          go_wp2_with fail
          go_ret
          exact ⟨rfl, b1.trans ((HB.out.mono b1.size).trans (b2.mono (Nat.le_trans b1.size HB.out.size)))⟩
        | true =>
          rw [hfw] at hF
          have hus : m.p.us.length ≤ 1000 := by unfold few13B at hfw; simpa using hfw
          have HUS := Lib.hid hus
          clear hfw hus
          go_wp2_with fail
          refine hF.mono ?_
          rintro e w2 ⟨rfl, b2⟩
          have o2 := own_belowT HO.out b2
          have B2 := HB.out.trans (b2.mono HB.out.size)
          have HB2 := Lib.hid B2
          have HO2 := Lib.hid o2
          obtain ⟨ad', e1, _, c0, c1, c2, c3, c4, c5, c6, c7, c8, c9⟩ := HC.out w2 b2
          cases e1
          clear a0 a1 a2 a3 a4 a5 a6 a7 a8 a9 hF o2 B2
          go_upto_region 9 with fail
          have v9 : Below w2.heap.size w2 (w2.alloc (.cells (ptCells m.p m.A m.c) 34)) := (Below.refl _ _).alloc (Nat.le_refl _) _
          have hnew : Lies (w2.alloc (.cells (ptCells m.p m.A m.c) 34)) (w2.heap.size + 1) (some ⟨w2.heap.size, 0, none⟩) (ptCells m.p m.A m.c).toList := Lies.newN w2 (ptCells m.p m.A m.c).toList 34
          have hone : ∀ u ∈ (ptCells m.p m.A m.c).toList, u.oneCell' = true := by
            intro u hu
            simp only [List.mem_cons, List.not_mem_nil, or_false] at hu
            rcases hu with rfl | rfl | rfl | rfl | rfl | rfl | rfl | rfl | rfl | rfl <;> rfl
          have hsz := HB2.out.size
          have o9 := HO2.out.alloc (.cells (ptCells m.p m.A m.c) 34)
          go_wp2_with (at_builtin; refine wpList_append_wide13 _ rfl (.tmp 29) (.tmp 34) 44 rfl wa.heap.size 34 _ 10 48 Tryz.underlying44 pinfoD rfl (by omega) _ _ _ rfl o9 _ _ 1 1 (ptCells m.p m.A m.c).toList rfl rfl hnew hone (by omega) (by unfold maxLen; omega) (by simp; omega) ?_; intro v' w9 hown9 hgr9; obtain ⟨A9, z9, rfl⟩ := own_slice hown9)
          have B9 : Below wa.heap.size wa w9 := (HB2.out.trans (v9.mono hsz)).grown hgr9 (by simp; omega) (fun r e => (HO2.out.lt r e).1)
          have H9 : Hid (w9.ownsRow wa.heap.size 34 10 (.slice A9 (k + 1) z9) (k + 1) (pmFlat (ms.take (k + 1)))) := by
            unfold Hid
            rw [take_some HM.out, pmFlat_snoc]
            exact hown9
          clear hown9 hgr9 o9 hnew hone v9 c0 c1 c2 c3 c4 c5 c6 c7 c8 c9
          go_wp2_with fail
          go_roundw
          case rel => exact ⟨k + 1, A9, z9, by omega, by go_num, rfl, H9.out, B9, fun x hx => by
            rw [take_some HM.out] at hx
            rcases List.mem_append.1 hx with h | h
            · exact HF.out x h
            · rw [List.mem_singleton.1 h]; exact HUS.out⟩
          case measure => simp [intOf]; omega
      · obtain rfl : k = ms.length := by omega
        have hi1 : ¬ (ms.length : Int) < (ms.length : Int) := by omega
        have hPr := HPa.out.on hbel
        rw [List.take_length] at hown hfew
        have hPo := pts_own hown rfl (fun m hm => hPr.each m hm)
        have ht : tot (ms.map fun m => m.p.us) ≤ 1000000 := by have := tot_few ms hfew; omega
        have hJ := djoin13_any ms Ao co wr hPo (by omega) ht
        have hK : Hid (∀ V, Below wr.heap.size wr V → Calls Tryz.prog 25 #[.slice A ms.length c] V (JnR13 (ms.map Pm.p) V)) := Lib.hid (fun V hV => rjoin13_any ms A c V (hPr.on hV) (by omega) ht)
        have HB := Lib.hid (b1.trans (hbel.mono b1.size))
        clear hown hfew hPr hPo ht b1 hbel
        generalize ms.map Pm.p = ps at *
        unfold JnR13 at hJ hK
        generalize jnP ps = q at *
        generalize jnB ps = b at *
        go_upto_region 10 with fail
        go_wp2_with fail
        refine hJ.mono ?_
        rintro e w7 ⟨b7, A7, c7, rfl, hp7⟩
        have B7 := Lib.hid (HB.out.trans (b7.mono HB.out.size))
        have HB7 := Lib.hid b7
        go_upto_region 11 with fail
        have v8 : Below w7.heap.size w7 (w7.alloc (.cells (ptCells q A7 c7) 34)) := (Below.refl _ _).alloc (Nat.le_refl _) _
        have x8 := Whole.new w7 34 (ptCells q A7 c7)
        have p8 := hp7.on v8
        have b8 := b7.trans (v8.mono b7.size)
        have B8 := Lib.hid (HB.out.trans (b8.mono HB.out.size))
        generalize w7.alloc (.cells (ptCells q A7 c7) 34) = w8 at *
        generalize w7.heap.size = g8 at *
        have hK8 := hK.out w8 b8
        clear v8 b7 hp7 hK b8 B7 HB7 hJ
        go_wp2_with fail
        refine hK8.mono ?_
        rintro e w9 ⟨b9, A9, c9, rfl, hp9⟩
        have x9 := x8.below b9 x8.lt
        have p9 := p8.on b9
        have B9 := Lib.hid (B8.out.trans (b9.mono B8.out.size))
        clear hK8 x8 p8
        go_upto_region 12 with fail
        have v10 : Below w9.heap.size w9 (w9.alloc (.cells (ptCells q A9 c9) 26)) := (Below.refl _ _).alloc (Nat.le_refl _) _
        have y10 := Whole.new w9 26 (ptCells q A9 c9)
        have x10 := x9.below v10 x9.lt
        have p10 := p9.on v10
        have r10 := hp9.on v10
        have B10 := Lib.hid (B9.out.trans (v10.mono B9.out.size))
        generalize w9.alloc (.cells (ptCells q A9 c9) 26) = w10 at *
        generalize w9.heap.size = g10 at *
        have hS := rsame13_any q q (by have := p10.dc; have := p10.dm; omega) A7 c7 A9 c9 w10 p10 r10
        rw [ptEq_self] at hS
        obtain ⟨q0, q1, q2, q3, q4, q5, q6, q7, q8, q9⟩ := x10.cs10
        obtain ⟨m0, m1, m2, m3, m4, m5, m6, m7, m8, m9⟩ := y10.cs10
        clear v10 b9 hp9 p9 x9 x10 y10 p10 r10
        have hbb : (b == b) = true := by cases b <;> rfl
        go_wp2_with fail
        refine hS.mono ?_
        rintro e w11 ⟨rfl, b11⟩
        go_wp2_with fail
        go_ret
        exact ⟨by first | rfl | rw [hbb] | simp, B10.out.trans (b11.mono B10.out.size)⟩
set_option maxRecDepth 100000 in
theorem law_DataJoins {H : Type} {enc : TypeId × Value → H} {W : World} {base : Nat} {v0 : Value} {d0 : DataW H} {p0 : List MemPlace}
    (o0 : Value.okWide Tryz.prog W .any base 43 v0) (h0 : DataW.Trod enc Tryz.prog W 0 (fun _ => true) true 43 v0 d0 p0) (s0 : Small Tryz.prog 43 d0) (hL : laidMetH Tryz.prog laidL W) :
    Calls Tryz.prog 4 #[v0] W fun e w' => e = .returned (.bool true) ∧ Below W.heap.size W w' := by
  obtain ⟨A, c, ms, rfl, hP⟩ := open_parts13 o0 h0 s0
  exact djo_law ms A c W hP (handle_of_laid hL)
end Go.Proofs.YtdcppcoldaaldaaGreatDoor


