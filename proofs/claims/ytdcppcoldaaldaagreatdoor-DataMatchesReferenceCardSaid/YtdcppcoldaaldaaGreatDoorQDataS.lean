/- Layer 13: Join. It writes nothing that was there. -/
import Derived.Test.YtdcppcoldaaldaaGreatDoorQDP
import Derived.Test.YtdcppcoldaaldaaGreatDoorQNF
import Derived.Test.YtdcppcoldaaldaaGreatDoorQW
import Derived.Deep.RegionHeld3
import Derived.Deep.Cut
import Derived.Laws.Tables







namespace Go.Proofs.YtdcppcoldaaldaaGreatDoor
open Go.RowKit

set_option linter.unusedSimpArgs false
def jnQ : List Pt → Pt
  | [] => pt0
  | q :: ps => ⟨q.inter, q.tsn, q.st, q.sq, q.pr, q.bg, true, q.un, q.nw, ((q :: ps).map Pt.us).flatten⟩
def jnB : List Pt → Bool
  | [] => false
  | q :: ps => eqfB (splL (jnQ (q :: ps)) (q.us.length : Int)) (q :: ps)
def jnP (ps : List Pt) : Pt := if jnB ps then jnQ ps else pt0
/-- what Join hands back -/
def JnR13 (ps : List Pt) (w : World) (e : Ending) (w' : World) : Prop := Below w.heap.size w w' ∧ ∃ A' c', e = .returned (.tuple #[ptV (jnP ps) A' c', .bool (jnB ps)]) ∧ PtL w' w'.heap.size A' c' (jnP ps)
theorem jnR_no {ps : List Pt} {w w' : World} (h : jnB ps = false) (hb : Below w.heap.size w w') : JnR13 ps w (.returned (.tuple #[.agg #[.bool false, .int .u32 0, .int .u16 0, .int .u32 0, .int .u32 0, .bool false, .bool false, .bool false, .bool false, .slice none 0 0], .bool false])) w' := by
  unfold JnR13 jnP
  rw [h, if_neg (by simp)]
  exact ⟨hb, none, 0, rfl, ⟨Lies.nil, Nat.le_refl _, Nat.zero_le _⟩⟩
def usV (ms : List Pm) : List Value := ms.map fun m => .slice m.A m.p.us.length m.c
theorem usV_take {ms : List Pm} {k : Nat} {m : Pm} (h : ms[k]? = some m) : usV (ms.take (k + 1)) = usV (ms.take k) ++ [.slice m.A m.p.us.length m.c] := by
  unfold usV
  rw [take_some h, List.map_append]
  rfl
theorem bsinfo13 : (Tryz.prog.info? 24).map (fun i => (i.zero, i.size, i.bytes)) = some (some (.slice none 0 0), 1, 24) := by kernel_rfl
theorem usV_parts {W : World} {A : Option Addr} {ms : List Pm} (hl : Lies W W.heap.size A (usV ms)) (he : ∀ m ∈ ms, PtL W W.heap.size m.A m.c m.p) : Parts W W.heap.size A (usV ms) (ms.map fun m => m.p.us) := by
  refine ⟨hl, by simp [usV], fun i p hp => ?_⟩
  rw [List.getElem?_map] at hp
  cases hm : ms[i]? with
  | none => rw [hm] at hp; cases hp
  | some m =>
    rw [hm] at hp
    simp only [Option.map_some, Option.some.injEq] at hp
    subst hp
    have h := he m (List.mem_of_getElem? hm)
    exact ⟨.slice m.A m.p.us.length m.c, by unfold usV; rw [List.getElem?_map, hm]; rfl, m.A, m.c, rfl, h.data, h.dc, h.dm⟩
theorem splL_len (p : Pt) (k : Int) : (splL p k).length ≤ 65535 := by
  unfold splL
  split
  · rename_i h
    have hw := h.1
    unfold whoB at hw
    simp only [Bool.and_eq_true] at hw
    have h1 := des_parts hw.1
    unfold splP
    rw [List.length_map, List.length_range]
    have h2 : 1 ≤ k.toNat := by omega
    have h3 : (p.us.length + k.toNat - 1) / k.toNat ≤ p.us.length := by
      refine Nat.div_le_of_le_mul ?_
      have h4 : p.us.length + k.toNat ≤ k.toNat * p.us.length + 1 := by
        obtain ⟨a, ha⟩ : ∃ a, k.toNat = a + 1 := ⟨k.toNat - 1, by omega⟩
        obtain ⟨b, hb⟩ : ∃ b, p.us.length = b + 1 := ⟨p.us.length - 1, by omega⟩
        rw [ha, hb, Nat.add_mul, Nat.mul_add]
        have := Nat.zero_le (a * b)
        omega
      omega
    omega
  · simp
set_option maxRecDepth 100000 in
set_option maxHeartbeats 8000000 in
theorem djoinP_any (m0 : Pm) (mr : List Pm) (A : Option Addr) (c : Nat) (w : World) (h : Pts w w.heap.size A c (m0 :: mr)) (hl : (m0 :: mr).length ≤ 1000000) (ht : tot ((m0 :: mr).map fun m => m.p.us) ≤ 1000000) :
    Calls Tryz.prog 24 #[.slice A (m0 :: mr).length c] w (JnR13 ((m0 :: mr).map Pm.p) w) := by
  obtain ⟨ms, hms⟩ : ∃ ms, ms = m0 :: mr := ⟨_, rfl⟩
  rw [← hms] at h hl ht ⊢
  have b0 : Below w.heap.size w (w.alloc (.cells #[.bool false, .int .u32 0, .int .u16 0, .int .u32 0, .int .u32 0, .bool false, .bool false, .bool false, .bool false, .slice none 0 0] 34)) := (Below.refl _ w).alloc (Nat.le_refl _) _
  have y0 := Whole.new w 34 #[.bool false, .int .u32 0, .int .u16 0, .int .u32 0, .int .u32 0, .bool false, .bool false, .bool false, .bool false, .slice none 0 0]
  have hs0 : w.heap.size + 1 ≤ (w.alloc (.cells #[.bool false, .int .u32 0, .int .u16 0, .int .u32 0, .int .u32 0, .bool false, .bool false, .bool false, .bool false, .slice none 0 0] 34)).heap.size := by simp
  have h0 : ms[0]? = some m0 := by rw [hms]; rfl
  have hlen : 1 ≤ ms.length := by rw [hms]; simp
  have hne : ((ms.length : Int) == 0) = false := by rw [beq_eq_false_iff_ne]; omega
  have HQ : Hid (jnQ (ms.map Pm.p) = ⟨m0.p.inter, m0.p.tsn, m0.p.st, m0.p.sq, m0.p.pr, m0.p.bg, true, m0.p.un, m0.p.nw, (ms.map fun m => m.p.us).flatten⟩) := by
    unfold Hid
    rw [hms]
    show _ = Pt.mk _ _ _ _ _ _ _ _ _ _
    simp only [jnQ, List.map_cons, List.map_map]
    rfl
  have HB : Hid (jnB (ms.map Pm.p) = eqfB (splL (jnQ (ms.map Pm.p)) (m0.p.us.length : Int)) (ms.map Pm.p)) := by
    unfold Hid
    rw [hms]
    rfl
  have H0 := Lib.hid h0
  have HA := Lib.hid (h.on b0)
  have HT := Lib.hid ht
  have hl2 : m0.p.us.length ≤ 1000000 := by
    have h1 : tot ((m0 :: mr).map fun m => m.p.us) = m0.p.us.length + tot (mr.map fun m => m.p.us) := by simp [tot]
    rw [hms, h1] at ht
    omega
  clear hms h0 ht
  generalize hw0 : w.alloc (.cells #[.bool false, .int .u32 0, .int .u16 0, .int .u32 0, .int .u32 0, .bool false, .bool false, .bool false, .bool false, .slice none 0 0] 34) = wa at *
  have HW := Lib.hid hw0
  clear hw0
  go_enter Tryz.func24, Tryz.ntmps24
  obtain ⟨i0, hi, hz0, hz1, hz2⟩ := info_parts bsinfo13
  go_upto_region 3 with fail
  rw [HW.out]
  go_wp2_with (first | (refine wpList_make_own _ rfl _ _ 116 rfl wa.heap.size 24 i0 (.slice none 0 0) 1 Tryz.underlying116 hi hz0 hz1 .i64 .i64 _ ms.length rfl rfl rfl (by rw [hz2]; omega) (by unfold maxLen; omega) (Nat.le_refl _) ?_; intro w1 hown1 hgr1) | fail)
  have b1a : Below wa.heap.size wa w1 := (Below.refl _ _).grown hgr1 (Nat.le_refl _) (fun k e => by cases e)
  go_loopw [4, 17] (fun us i wr => ∃ (k : Nat) (Au : Option Addr) (cu : Nat), k ≤ ms.length ∧ i = .int .i64 (k : Int) ∧ us = .slice Au k cu ∧ wr.ownsRow wa.heap.size 24 1 (.slice Au k cu) k (usV (ms.take k)) ∧ Below wa.heap.size wa wr) (fun _ i _ => ms.length - (intOf i).toNat)
  case atStart => exact ⟨0, _, _, Nat.zero_le _, rfl, rfl, hown1, b1a⟩
  case round =>
    obtain ⟨k, Au, cu, hk, rfl, rfl, hown, hbel⟩ := hrel
    by_cases hlt : k < ms.length
    · obtain ⟨m, hm⟩ : ∃ m, ms[k]? = some m := ⟨_, List.getElem?_eq_getElem hlt⟩
      obtain ⟨ad, rfl, hb, a0, a1, a2, a3, a4, a5, a6, a7, a8, a9⟩ := (HA.out.below hbel).cells hm
      have hi1 : (k : Int) < (ms.length : Int) := by omega
      have HM := Lib.hid (usV_take hm)
      clear hm
      go_upto_region 7 with fail
      have v1 : Below wr.heap.size wr (wr.alloc (.cells (ptCells m.p m.A m.c) 34)) := (Below.refl _ _).alloc (Nat.le_refl _) _
      have x1 := Whole.new wr 34 (ptCells m.p m.A m.c)
      have o1 := hown.alloc (.cells (ptCells m.p m.A m.c) 34)
      have B1 := hbel.trans (v1.mono hbel.size)
      generalize wr.alloc (.cells (ptCells m.p m.A m.c) 34) = w3 at *
      clear a0 a1 a2 a3 a4 a5 a6 a7 a8 a9 hown
      have q9 := x1.cs10.2.2.2.2.2.2.2.2.2
      have hb1 := Lib.hid B1.size
      have hk1 : k ≤ 1000000 := by omega
      go_wp2_with (at_builtin; refine wpList_append_lies _ rfl (.tmp 21) (.tmp 24) 116 rfl wa.heap.size 24 _ 24 Tryz.underlying116 bsinfo13 rfl _ _ _ rfl (o1.alloc _) _ _ 1 1 _ rfl rfl (Lies.new1 _ _ _) (by intro u hu; rw [List.mem_singleton.1 hu]; rfl) (by omega) (by unfold maxLen; omega) (by simp; have := hb1.out; omega) ?_; intro A4 c4 w4 hown4 hgrow4 _)
      have v4 : Below w3.heap.size w3 (w3.alloc (.cells #[.slice m.A m.p.us.length m.c] 24)) := (Below.refl _ _).alloc (Nat.le_refl _) _
      have B4 := below_own (B1.trans (v4.mono B1.size)) (o1.alloc _) hgrow4 (Nat.le_refl _) (by simp; have := hb1.out; omega)
      rw [← HM.out] at hown4
      have H4 := Lib.hid hown4
      clear hown4 o1 q9 x1 hgrow4
      go_wp2_with fail
      go_roundw
      case rel => exact ⟨k + 1, A4, c4, by omega, by go_num, rfl, H4.out, B4⟩
      case measure => simp [intOf]; omega
    · obtain rfl : k = ms.length := by omega
      have hi1 : ¬ (ms.length : Int) < (ms.length : Int) := by omega
      rw [List.take_length] at hown
      obtain ⟨ad, rfl, hadb, a0, a1, a2, a3, a4, a5, a6, a7, a8, a9⟩ := (HA.out.below hbel).cells H0.out
      have e0 : ad.add (0 * 10) = ad := by simp [Addr.add]
      rw [e0] at a0 a1 a2 a3 a4 a5 a6 a7 a8 a9
      have hi2 : (0 : Int) < (ms.length : Int) := by omega
      have hi3 : 0 < ms.length := by omega
      go_upto_region 10 with fail
      have v1 : Below wr.heap.size wr (wr.alloc (.cells (ptCells m0.p m0.A m0.c) 34)) := (Below.refl _ _).alloc (Nat.le_refl _) _
      have x1 := Whole.new wr 34 (ptCells m0.p m0.A m0.c)
      have o1 := hown.alloc (.cells (ptCells m0.p m0.A m0.c) 34)
      have B1 := hbel.trans (v1.mono hbel.size)
      have hg7 : wa.heap.size ≤ wr.heap.size := hbel.size
      generalize wr.alloc (.cells (ptCells m0.p m0.A m0.c) 34) = w3 at *
      generalize wr.heap.size = g7 at *
      clear a0 a1 a2 a3 a4 a5 a6 a7 a8 a9 hown
      have f6 := x1.frozen 6
      have q6 := x1.cs10.2.2.2.2.2.2.1
      have x4 : Whole (w3.setCell ⟨g7, 6, none⟩ (.bool true)) g7 34 #[.bool m0.p.inter, uv m0.p.tsn, hv m0.p.st, uv m0.p.sq, uv m0.p.pr, .bool m0.p.bg, .bool true, .bool m0.p.un, .bool m0.p.nw, .slice m0.A m0.p.us.length m0.c] := x1.set_ 6 _
      have o4 := own_set13 (i := 6) (u := .bool true) o1 x1 (by decide)
      have B4 : Below wa.heap.size wa (w3.setCell ⟨g7, 6, none⟩ (.bool true)) := B1.setCell hg7 _
      go_upto_region 11 with fail
      generalize w3.setCell ⟨g7, 6, none⟩ (.bool true) = w4 at *
      clear f6 q6 x1 o1 B1 v1
      have hs4 := B4.size
      have hJ := join_any Au cu (usV ms) (ms.map fun m => m.p.us) w4 (usV_parts (Lies.own o4) (fun m hm => ((HA.out.each m hm).below B4).more B4.size)) (by rw [List.length_map]; unfold maxLen; omega) (by have := HT.out; omega)
      rw [List.length_map] at hJ
      have hfz : tot (ms.map fun m => m.p.us) ≤ 1000000 := HT.out
      unfold tot at hJ hfz
      generalize hfl : (ms.map fun m => m.p.us).flatten = fl at hJ hfz
      have HFL := Lib.hid hfl
      clear hfl
      go_wp2_with fail
      refine hJ.mono ?_
      rintro e w5 ⟨A5, c5, rfl, own5, b5⟩
      have x5 := x4.below b5 x4.lt
      have B5 := B4.trans (b5.mono B4.size)
      have f9 := x5.frozen 9
      have q9 := x5.cs10.2.2.2.2.2.2.2.2.2
      have hg5 := x5.lt
      have x6 : Whole (w5.setCell ⟨g7, 9, none⟩ (.slice A5 fl.length c5)) g7 34 #[.bool m0.p.inter, uv m0.p.tsn, hv m0.p.st, uv m0.p.sq, uv m0.p.pr, .bool m0.p.bg, .bool true, .bool m0.p.un, .bool m0.p.nw, .slice A5 fl.length c5] := x5.set_ 9 _
      have own6 := own_set13 (i := 9) (u := .slice A5 fl.length c5) own5 x5 (by decide)
      have B6 : Below wa.heap.size wa (w5.setCell ⟨g7, 9, none⟩ (.slice A5 fl.length c5)) := B5.setCell hg7 _
      go_upto_region 12 with fail
      generalize w5.setCell ⟨g7, 9, none⟩ (.slice A5 fl.length c5) = w6 at *
      clear f9 q9 x4 x5 o4 hJ b5 B4 B5 own5
      have hc5 := own_cap own6
      have hpt : PtL w6 w6.heap.size A5 c5 ⟨m0.p.inter, m0.p.tsn, m0.p.st, m0.p.sq, m0.p.pr, m0.p.bg, true, m0.p.un, m0.p.nw, fl⟩ := ⟨Lies.own own6, hc5.2.1, hc5.2.2⟩
      obtain ⟨Q, hQ⟩ : ∃ Q : Pt, Q = ⟨m0.p.inter, m0.p.tsn, m0.p.st, m0.p.sq, m0.p.pr, m0.p.bg, true, m0.p.un, m0.p.nw, fl⟩ := ⟨_, rfl⟩
      have hQ2 : jnQ (ms.map Pm.p) = Q := by rw [HQ.out, HFL.out, hQ]
      have HBQ : Hid (jnB (ms.map Pm.p) = eqfB (splL Q (m0.p.us.length : Int)) (ms.map Pm.p)) := by unfold Hid; rw [HB.out, hQ2]
      have h6 : Pts w6 w6.heap.size (some ad) c ms := (HA.out.below B6).more B6.size
      have KS : Hid (∀ V, Below w6.heap.size w6 V → V.cell? ⟨g7, 0, none⟩ = some (.bool m0.p.inter) ∧ V.cell? ⟨g7, 1, none⟩ = some (uv m0.p.tsn) ∧ V.cell? ⟨g7, 2, none⟩ = some (hv m0.p.st) ∧ V.cell? ⟨g7, 3, none⟩ = some (uv m0.p.sq) ∧ V.cell? ⟨g7, 4, none⟩ = some (uv m0.p.pr) ∧ V.cell? ⟨g7, 5, none⟩ = some (.bool m0.p.bg) ∧ V.cell? ⟨g7, 6, none⟩ = some (.bool true) ∧ V.cell? ⟨g7, 7, none⟩ = some (.bool m0.p.un) ∧ V.cell? ⟨g7, 8, none⟩ = some (.bool m0.p.nw) ∧ V.cell? ⟨g7, 9, none⟩ = some (.slice A5 fl.length c5) ∧ V.cell? ⟨ad.block, ad.off + 9, none⟩ = some (.slice m0.A m0.p.us.length m0.c)) := fun V hV => by
        obtain ⟨c0, c1, c2, c3, c4, c5, c6, c7, c8, c9⟩ := (x6.below hV x6.lt).cs10
        obtain ⟨ad2, e2, _, _, _, _, _, _, _, _, _, _, d9⟩ := (h6.below hV).cells H0.out
        cases e2
        rw [e0] at d9
        exact ⟨c0, c1, c2, c3, c4, c5, c6, c7, c8, c9, d9⟩
      have HSp : Hid (∀ V, Below w6.heap.size w6 V → Calls Tryz.prog 60 #[.agg #[.bool m0.p.inter, uv m0.p.tsn, hv m0.p.st, uv m0.p.sq, uv m0.p.pr, .bool m0.p.bg, .bool true, .bool m0.p.un, .bool m0.p.nw, .slice A5 fl.length c5], .int .i64 (m0.p.us.length : Int)] V fun e w' => Below V.heap.size V w' ∧ ∃ A' c' ms', e = .returned (.slice A' ms'.length c') ∧ ms'.map Pm.p = splL Q (m0.p.us.length : Int) ∧ Pts w' w'.heap.size A' c' ms') := fun V hV => by
        have h9 := dsplit_any ⟨m0.p.inter, m0.p.tsn, m0.p.st, m0.p.sq, m0.p.pr, m0.p.bg, true, m0.p.un, m0.p.nw, fl⟩ A5 c5 (m0.p.us.length : Int) (by omega) V (hpt.on hV)
        refine Calls.mono (R := SplR (splL ⟨m0.p.inter, m0.p.tsn, m0.p.st, m0.p.sq, m0.p.pr, m0.p.bg, true, m0.p.un, m0.p.nw, fl⟩ (m0.p.us.length : Int)) V) h9 ?_
        rintro e w' ⟨k1, A', c', ms', rfl, k2, k3⟩
        exact ⟨k1, A', c', ms', by rw [← k2, List.length_map], by rw [k2, hQ], k3⟩
      have HEq : Hid (∀ V, Below w6.heap.size w6 V → ∀ A8 c8 (ms8 : List Pm), ms8.map Pm.p = splL Q (m0.p.us.length : Int) → Pts V V.heap.size A8 c8 ms8 → Calls Tryz.prog 84 #[.slice A8 ms8.length c8, .slice (some ad) ms.length c, .func (.func 61) #[] #[]] V fun e w' => e = .returned (.bool (jnB (ms.map Pm.p))) ∧ Below V.heap.size V w') := fun V hV A8 c8 ms8 k1 k2 => by
        have h9 := eqfunc_any ms8 ms A8 (some ad) c8 c V k2 (h6.on hV) (by have h8 := splL_len Q (m0.p.us.length : Int); rw [← k1, List.length_map] at h8; omega)
        rwa [k1, ← HBQ.out] at h9
      have HPT := Lib.hid hpt
      have HLw : Hid (fl.map bv ≠ [] → ∃ a1, A5 = some a1 ∧ w.heap.size < a1.block ∧ True) := fun hx => by
        rcases own6.2 with ⟨_, h2⟩ | ⟨q, cap, cur, h1, h2, _⟩
        · refine absurd (List.eq_nil_of_length_eq_zero ?_) hx
          rw [List.length_map, h2]
        · simp only [Value.slice.injEq] at h1
          exact ⟨_, h1.1, by show w.heap.size < q; omega, trivial⟩
      have HQ3 := Lib.hid hQ
      have HQ4 := Lib.hid hQ2
      have HY : Hid (∀ V, Below w6.heap.size w6 V → Whole V w.heap.size 34 #[.bool false, .int .u32 0, .int .u16 0, .int .u32 0, .int .u32 0, .bool false, .bool false, .bool false, .bool false, .slice none 0 0]) := fun V hV => y0.below (B6.trans (hV.mono B6.size)) (by omega)
      have HX6 := Lib.hid x6
      have HB6 := Lib.hid (b0.trans (B6.mono b0.size))
      have hs6 := HB6.out.size
      have hNo := Lib.hid (fun (w' : World) hb (hj : jnB (ms.map Pm.p) = false) => jnR_no (w := w) (w' := w') hj hb)
      have hYes : Hid (∀ w', jnB (ms.map Pm.p) = true → Below w.heap.size w w' → PtL w' w'.heap.size A5 c5 Q → JnR13 (ms.map Pm.p) w (.returned (.tuple #[.agg #[.bool m0.p.inter, uv m0.p.tsn, hv m0.p.st, uv m0.p.sq, uv m0.p.pr, .bool m0.p.bg, .bool true, .bool m0.p.un, .bool m0.p.nw, .slice A5 fl.length c5], .bool true])) w') := fun w' k1 k2 k3 => by
        unfold JnR13 jnP
        rw [k1, if_pos rfl, hQ2]
        exact ⟨k2, A5, c5, by rw [hQ], k3⟩
      clear hpt hQ hQ2 h6 x6 y0 HBQ own6 hc5 HB HQ HA HFL HT
      generalize JnR13 (ms.map Pm.p) w = RR at *
      generalize jnB (ms.map Pm.p) = res at *
      refine wp_region_held_drew (S := (fun V => V.cell? ⟨g7, 0, none⟩ = some (.bool m0.p.inter) ∧ V.cell? ⟨g7, 1, none⟩ = some (uv m0.p.tsn) ∧ V.cell? ⟨g7, 2, none⟩ = some (hv m0.p.st) ∧ V.cell? ⟨g7, 3, none⟩ = some (uv m0.p.sq) ∧ V.cell? ⟨g7, 4, none⟩ = some (uv m0.p.pr) ∧ V.cell? ⟨g7, 5, none⟩ = some (.bool m0.p.bg) ∧ V.cell? ⟨g7, 6, none⟩ = some (.bool true) ∧ V.cell? ⟨g7, 7, none⟩ = some (.bool m0.p.un) ∧ V.cell? ⟨g7, 8, none⟩ = some (.bool m0.p.nw) ∧ V.cell? ⟨g7, 9, none⟩ = some (.slice A5 fl.length c5) ∧ V.cell? ⟨ad.block, ad.off + 9, none⟩ = some (.slice m0.A m0.p.us.length m0.c))) (by kernel_rfl) (KS.out _ (below_drew (Below.refl _ _))) (fun hHeld => ?_)
      refine take_at (i := 0) (v := ?_) (some 34) rfl (by kernel_rfl) (by kernel_rfl) (by kernel_rfl) (fun _ _ _ h => h) (by kernel_rfl) (Or.inl ⟨by kernel_rfl, ?_⟩) (by assumption) ?_
      rotate_left
      · (intro w hSw; (try dsimp only at hSw); go_simp <;> with_reducible rfl)
      simp only [Act.put, List.setIfInBounds_toArray, List.set_cons_zero, List.set_cons_succ]
      refine take_at (i := 1) (v := ?_) (some 35) rfl (by kernel_rfl) (by kernel_rfl) (by kernel_rfl) (fun _ _ _ h => h) (by kernel_rfl) (Or.inl ⟨by kernel_rfl, ?_⟩) (by assumption) ?_
      rotate_left
      · (intro w hSw; (try dsimp only at hSw); go_simp <;> with_reducible rfl)
      simp only [Act.put, List.setIfInBounds_toArray, List.set_cons_zero, List.set_cons_succ]
      refine take_at (i := 2) (v := ?_) (some 36) rfl (by kernel_rfl) (by kernel_rfl) (by kernel_rfl) (fun _ _ _ h => h) (by kernel_rfl) (Or.inl ⟨by kernel_rfl, ?_⟩) (by assumption) ?_
      rotate_left
      · (intro w hSw; (try dsimp only at hSw); go_simp <;> with_reducible rfl)
      simp only [Act.put, List.setIfInBounds_toArray, List.set_cons_zero, List.set_cons_succ]
      refine take_at (i := 3) (v := ?_) (some 37) rfl (by kernel_rfl) (by kernel_rfl) (by kernel_rfl) (fun _ _ _ h => h) (by kernel_rfl) (Or.inl ⟨by kernel_rfl, ?_⟩) (by assumption) ?_
      rotate_left
      · (intro w hSw; (try dsimp only at hSw); go_simp <;> with_reducible rfl)
      simp only [Act.put, List.setIfInBounds_toArray, List.set_cons_zero, List.set_cons_succ]
      refine take_at (i := 4) (v := ?_) (some 38) rfl (by kernel_rfl) (by kernel_rfl) (by kernel_rfl) (fun _ _ _ h => h) (by kernel_rfl) (Or.inl ⟨by kernel_rfl, ?_⟩) (by assumption) ?_
      rotate_left
      · (intro w hSw; (try dsimp only at hSw); go_simp <;> with_reducible rfl)
      simp only [Act.put, List.setIfInBounds_toArray, List.set_cons_zero, List.set_cons_succ]
      refine take_at (i := 5) (v := ?_) (some 39) rfl (by kernel_rfl) (by kernel_rfl) (by kernel_rfl) (fun _ _ _ h => h) (by kernel_rfl) (Or.inl ⟨by kernel_rfl, ?_⟩) (by assumption) ?_
      rotate_left
      · (intro w hSw; (try dsimp only at hSw); go_simp <;> with_reducible rfl)
      simp only [Act.put, List.setIfInBounds_toArray, List.set_cons_zero, List.set_cons_succ]
      refine take_at (i := 7) (v := ?_) (some 41) rfl (by kernel_rfl) (by kernel_rfl) (by kernel_rfl) (fun _ _ _ h => h) (by kernel_rfl) (Or.inl ⟨by kernel_rfl, ?_⟩) (by assumption) ?_
      rotate_left
      · (intro w hSw; (try dsimp only at hSw); go_simp <;> with_reducible rfl)
      simp only [Act.put, List.setIfInBounds_toArray, List.set_cons_zero, List.set_cons_succ]
      refine wpAnyH_ready (rs := [6]) (by kernel_rfl) (by simp) ?_
      refine AllReadyH.cons rfl (fun K hK => ?_) AllReadyH.nil
      go_simp
      go_at_call 60; (with_reducible refine (HSp.out _ (below_drew (Below.refl _ _))).mono ?_); rintro e w8 ⟨b8, A8, c8, ms8, rfl, hm8, hP8⟩; have R8 : Below w6.heap.size w6 w8 := below_undrew13 b8
      go_wp2_with fail
      clear hHeld
      refine hK.out _ _ (KS.out _ R8) (fun hHeld => ?_)
      clear hK K
      try simp only [Act.put, List.setIfInBounds_toArray, List.set_cons_zero, List.set_cons_succ]
      refine wpAnyH_ready (rs := [8]) (by kernel_rfl) (by simp) ?_
      refine AllReadyH.cons rfl (fun K hK => ?_) AllReadyH.nil
      go_simp
      go_at_call 84; (with_reducible refine (HEq.out w8 R8 A8 c8 ms8 hm8 hP8).mono ?_); rintro e w9 ⟨rfl, b9⟩; have R9 : Below w6.heap.size w6 w9 := R8.trans (b9.mono R8.size)
      go_wp2_with fail
      clear hHeld
      refine hK.out _ _ (KS.out _ R9) (fun hHeld => ?_)
      clear hK K
      try simp only [Act.put, List.setIfInBounds_toArray, List.set_cons_zero, List.set_cons_succ]
      refine take_at (i := 9) (v := ?_) (some 43) rfl (by kernel_rfl) (by kernel_rfl) (by kernel_rfl) (fun _ _ _ h => h) (by kernel_rfl) (Or.inl ⟨by kernel_rfl, ?_⟩) (by assumption) ?_
      rotate_left
      · (intro w hSw; (try dsimp only at hSw); go_simp <;> with_reducible rfl)
      simp only [Act.put, List.setIfInBounds_toArray, List.set_cons_zero, List.set_cons_succ]
      refine wpAnyH_done (by kernel_rfl) ?_ _
      skip
      have y9 := HY.out _ R9
      have x9 := HX6.out.below R9 HX6.out.lt
      have B9 := HB6.out.trans (R9.mono hs6)
      have hP9 := HPT.out.on R9
      have hg9 := x9.lt
      clear HSp HEq KS R8 hP8
      cases res with
      | false =>
        go_wp2_with (first | (refine wpList_store_row rfl 34 _ _ rfl w.heap.size #[.bool false, .int .u32 0, .int .u16 0, .int .u32 0, .int .u32 0, .bool false, .bool false, .bool false, .bool false, .slice none 0 0] rfl rfl _ _ y9 (by kernel_rfl) rfl (by simp [Value.oneCell']) ?_) | fail)
        (try simp only [Exit.inBlock, Exit.then])
        refine bodyPost_ret (results_row_tmp rfl _ _ w.heap.size 34 _ _ rfl (y9.setRow _) Tryz.underlying34 rfl (by kernel_rfl)) rfl ?_
        exact hNo.out _ (below_setRow B9 (Nat.le_refl _) _) trivial
      | true =>
        go_wp2_with (first | (refine wpList_load_row rfl 34 _ rfl g7 rfl 34 #[.bool m0.p.inter, uv m0.p.tsn, hv m0.p.st, uv m0.p.sq, uv m0.p.pr, .bool m0.p.bg, .bool true, .bool m0.p.un, .bool m0.p.nw, .slice A5 fl.length c5] (0, 0) _ x9 Tryz.underlying34 rfl (by kernel_rfl) ?_) | (refine wpList_store_row rfl 34 _ _ rfl w.heap.size #[.bool m0.p.inter, uv m0.p.tsn, hv m0.p.st, uv m0.p.sq, uv m0.p.pr, .bool m0.p.bg, .bool true, .bool m0.p.un, .bool m0.p.nw, .slice A5 fl.length c5] rfl rfl _ _ y9 (by kernel_rfl) rfl (by simp [Value.oneCell']) ?_) | fail)
        (try simp only [Exit.inBlock, Exit.then])
        refine bodyPost_ret (results_row_tmp rfl _ _ w.heap.size 34 _ _ rfl (y9.setRow _) Tryz.underlying34 rfl (by kernel_rfl)) rfl ?_
        refine hYes.out _ trivial (below_setRow B9 (Nat.le_refl _) _) ?_
        have hus : Q.us = fl := by rw [HQ3.out]
        have hl9 := hP9.data
        have hd9 := hP9.dc
        refine ⟨?_, by rw [hus]; exact hd9, hP9.dm⟩
        rw [hus]
        have hsz9 : (w9.setRow w.heap.size #[.bool m0.p.inter, uv m0.p.tsn, hv m0.p.st, uv m0.p.sq, uv m0.p.pr, .bool m0.p.bg, .bool true, .bool m0.p.un, .bool m0.p.nw, .slice A5 fl.length c5]).heap.size = w9.heap.size := by simp
        rw [hsz9]
        intro hx
        obtain ⟨a1, e1, e2, e3⟩ := hl9 hx
        refine ⟨a1, e1, e2, fun j u hu => ?_⟩
        obtain ⟨z1, f1, f2, f3⟩ := HLw.out hx
        rw [e1] at f1
        cases f1
        rw [cell_setRow_other _ _ _ _ (fun e => by rw [blk_add] at e; omega)]
        exact e3 j u hu
theorem djoin13_any (ms : List Pm) (A : Option Addr) (c : Nat) (w : World) (h : Pts w w.heap.size A c ms) (hl : ms.length ≤ 1000000) (ht : tot (ms.map fun m => m.p.us) ≤ 1000000) :
    Calls Tryz.prog 24 #[.slice A ms.length c] w (JnR13 (ms.map Pm.p) w) := by
  cases ms with
  | cons m0 mr => exact djoinP_any m0 mr A c w h hl ht
  | nil =>
    have b0 : Below w.heap.size w (w.alloc (.cells #[.bool false, .int .u32 0, .int .u16 0, .int .u32 0, .int .u32 0, .bool false, .bool false, .bool false, .bool false, .slice none 0 0] 34)) := (Below.refl _ w).alloc (Nat.le_refl _) _
    have y0 := Whole.new w 34 #[.bool false, .int .u32 0, .int .u16 0, .int .u32 0, .int .u32 0, .bool false, .bool false, .bool false, .bool false, .slice none 0 0]
    have hNo := jnR_no (ps := []) (w := w) rfl (below_setRow b0 (Nat.le_refl _) #[.bool false, .int .u32 0, .int .u16 0, .int .u32 0, .int .u32 0, .bool false, .bool false, .bool false, .bool false, .slice none 0 0])
    go_enter Tryz.func24, Tryz.ntmps24
    go_wp2_with (first | (refine wpList_store_row rfl 34 _ _ rfl w.heap.size #[.bool false, .int .u32 0, .int .u16 0, .int .u32 0, .int .u32 0, .bool false, .bool false, .bool false, .bool false, .slice none 0 0] rfl rfl _ _ y0 (by kernel_rfl) rfl (by simp [Value.oneCell']) ?_) | fail)
    (try simp only [Exit.inBlock, Exit.then])
    refine bodyPost_ret (results_row_tmp rfl _ _ w.heap.size 34 _ _ rfl (y0.setRow _) Tryz.underlying34 rfl (by kernel_rfl)) rfl ?_
    exact hNo
end Go.Proofs.YtdcppcoldaaldaaGreatDoor


