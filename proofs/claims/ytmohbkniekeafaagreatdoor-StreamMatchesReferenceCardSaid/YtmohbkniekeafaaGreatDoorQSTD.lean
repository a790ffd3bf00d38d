/- Layer 17: Seq, Streams, Answers. They write nothing that was there. -/
/- Layer 17: Answers, Make. They write nothing that was there. -/
/- Layer 17: Make. It writes nothing that was there. -/
/- Layer 17: the builders of parameters: Outgoing, Incoming, Response, Reset, More (written by tools/gen_str_d.py). They write nothing that was there. -/
import Derived.Test.YtmohbkniekeafaaGreatDoorQSTA
import Derived.Test.YtmohbkniekeafaaGreatDoorQNF
import Derived.Test.YtmohbkniekeafaaGreatDoorQW
import Derived.BigGuard
import Derived.Test.YtmohbkniekeafaaGreatDoorQCG
import Derived.Test.YtmohbkniekeafaaGreatDoorQCI
import Derived.Test.YtmohbkniekeafaaGreatDoorQNodeNO
import Derived.Deep.RegionHeld3




namespace Go.Proofs.YtmohbkniekeafaaGreatDoor
open Go.RowKit

set_option linter.unusedSimpArgs false
def seqV (n : Nd) : UInt32 := if seqB n = true then seqN n else 0
set_option maxRecDepth 100000 in
set_option maxHeartbeats 4000000 in
theorem seq17_any (n : Nd) (hf : Fine n) (A : Option Addr) (c : Nat) (K : Option Addr) (k : Nat) (w : World) (h : Node w w.heap.size A c K k n) :
    Calls Tryz.prog 49 #[ndV n A c K k] w fun e w' => e = .returned (.tuple #[uv (seqV n), .bool (seqB n)]) ∧ Below w.heap.size w w' := by
  have b0 : Below w.heap.size w (w.alloc (.cells #[hv n.t, .slice A n.v.length c, .slice K n.ks.length k] 76)) := (Below.refl _ w).alloc (Nat.le_refl _) _
  have x0 := Whole.new w 76 #[hv n.t, .slice A n.v.length c, .slice K n.ks.length k]
  have hn0 := h.on b0
  have hC := ncheck_any 1 n A c K k _ hn0 hf
  have hT := isType17_any n.t (w.alloc (.cells #[hv n.t, .slice A n.v.length c, .slice K n.ks.length k] 76))
  have hs0 : (w.alloc (.cells #[hv n.t, .slice A n.v.length c, .slice K n.ks.length k] 76)).heap.size = w.heap.size + 1 := by simp
  have HS : Hid (seqB n = (isT n.t && decide (chk 4 1 n = 0))) := Lib.hid rfl
  have HV : Hid (seqV n = if seqB n = true then seqN n else 0) := Lib.hid rfl
  have HN : Hid (seqB n = true → 4 ≤ n.v.length ∧ n.v.length ≤ 65531) := Lib.hid (fun h => ⟨(seqB_len h).1, (seqB_len h).2.1⟩)
  have HQ : Hid (seqN n = nrd n.v 0 4) := Lib.hid rfl
  unfold ndV at hC ⊢
  have hNd := hn0.data
  have hdc := hn0.dc
  have hdm := hn0.dm
  clear hn0 h
  obtain ⟨t, v, ks⟩ := n
  simp only [Nd.t, Nd.v, Nd.ks] at *
  generalize seqB (.mk t v ks) = sb at *
  generalize seqV (.mk t v ks) = sv at *
  generalize chk 4 1 (.mk t v ks) = cc at *
  generalize isT t = tt at *
  rw [HQ.out] at HV
  clear HQ
  cases tt with
  | false =>
    obtain rfl : sb = false := by rw [HS.out, Bool.false_and]
    obtain rfl : sv = 0 := by rw [HV.out]; rfl
    clear hC HS HV HN hNd
    go_enter Tryz.func49, Tryz.ntmps49
    go_upto_region 1 with fail
    generalize w.alloc (.cells #[hv t, .slice A v.length c, .slice K ks.length k] 76) = wa at *
    obtain ⟨q0, q1, q2⟩ := wh317 x0
    go_wp2_with fail
    refine hT.mono ?_
    rintro e w1 ⟨rfl, rfl⟩
    go_wp2_with fail
    go_ret2
    exact ⟨rfl, b0⟩
  | true =>
    by_cases hc : cc = 0
    · subst hc
      obtain rfl : sb = true := by rw [HS.out]; rfl
      have hl := HN.out rfl
      rw [if_pos rfl] at HV
      have e0 : codeE 0 = .nilIface := rfl
      rw [e0] at hC
      clear e0 HS HN
      go_enter Tryz.func49, Tryz.ntmps49
      go_upto_region 1 with fail
      generalize w.alloc (.cells #[hv t, .slice A v.length c, .slice K ks.length k] 76) = wa at *
      obtain ⟨q0, q1, q2⟩ := wh317 x0
      go_wp2_with fail
      refine hT.mono ?_
      rintro e w1 ⟨rfl, rfl⟩
      go_wp2_with fail
      refine hC.mono ?_
      rintro e w2 ⟨rfl, b2⟩
      have B2 := Lib.hid (b0.trans (b2.mono (by omega)))
      have x2 := x0.below b2 (by omega)
      have L2 := (hNd.below b2).more b2.size
      have hW := new_any A c v w2 L2 hdc hdm (by omega)
      clear hC hT q0 q1 q2 x0 b0 L2 hNd b2
      obtain ⟨q0, q1, q2⟩ := wh317 x2
      go_wp2_with fail
      refine hW.mono ?_
      rintro e w3 ⟨g, A2, c2, rfl, r3, b3⟩
      have hgb := r3.base_le
      have n4 : Calls Tryz.prog 109 #[.pointer (some ⟨g, 0, none⟩), .int .i64 4] w3 fun e w' => e = .returned (.tuple #[uv (nrd v 0 4), .bool true]) ∧ Rdr w' w2.heap.size g A2 c2 v 4 ∧ w3.grownBy w' (some g) := by
        have h := cnumber_yes r3 4 rfl (by omega)
        rw [← nrd_toNat] at h
        exact h
      rw [← HV.out] at n4
      clear hW q0 q1 q2 x2
      go_wp2_with fail
      refine n4.mono ?_
      rintro e w4 ⟨rfl, r4, gr4⟩
      have B4 := b3.grown gr4 b3.size (fun k e => by cases e; exact hgb)
      have hs2 := B2.out.size
      clear n4 r3 gr4 b3
      go_wp2_with fail
      go_ret2
      exact ⟨rfl, B2.out.trans (B4.mono hs2)⟩
    · obtain rfl : sb = false := by rw [HS.out, decide_eq_false hc]; rfl
      obtain rfl : sv = 0 := by rw [HV.out]; rfl
      rw [codeE_ne17 hc] at hC
      clear HS HV HN hNd hc
      go_enter Tryz.func49, Tryz.ntmps49
      go_upto_region 1 with fail
      generalize w.alloc (.cells #[hv t, .slice A v.length c, .slice K ks.length k] 76) = wa at *
      obtain ⟨q0, q1, q2⟩ := wh317 x0
      go_wp2_with fail
      refine hT.mono ?_
      rintro e w1 ⟨rfl, rfl⟩
      go_wp2_with fail
      refine hC.mono ?_
      rintro e w2 ⟨rfl, b2⟩
      have B2 := Lib.hid (b0.trans (b2.mono (by omega)))
      clear hC hT q0 q1 q2 x0 b0 b2
      go_wp2_with fail
      go_ret2
      exact ⟨rfl, B2.out⟩
theorem strOf_no {n : Nd} (h : seqB n = false) : strOf n = [] := by unfold strOf; rw [h]; rfl
theorem strOf_13 {n : Nd} (h : seqB n = true) (ht : n.t = 13) : strOf n = strs (n.v.drop 12) := by unfold strOf; rw [if_pos h, if_pos ht]
theorem strOf_14 {n : Nd} (h : seqB n = true) (ht : n.t = 14) : strOf n = strs (n.v.drop 4) := by unfold strOf; rw [if_pos h, if_neg (by rw [ht]; decide), if_pos ht]
theorem strOf_else {n : Nd} (h13 : ¬ n.t = 13) (h14 : ¬ n.t = 14) : strOf n = [] := by unfold strOf; rw [if_neg h13, if_neg h14]; split <;> rfl
set_option maxRecDepth 100000 in
set_option maxHeartbeats 8000000 in
theorem streams17_any (n : Nd) (hf : Fine n) (A : Option Addr) (c : Nat) (K : Option Addr) (k : Nat) (w : World) (h : Node w w.heap.size A c K k n) :
    Calls Tryz.prog 52 #[ndV n A c K k] w fun e w' => ∃ A' c', e = .returned (.slice A' (strOf n).length c') ∧ Lies w' w'.heap.size A' ((strOf n).map hv) ∧ Below w.heap.size w w' := by
  have b0 : Below w.heap.size w (w.alloc (.cells #[hv n.t, .slice A n.v.length c, .slice K n.ks.length k] 76)) := (Below.refl _ w).alloc (Nat.le_refl _) _
  have x0 := Whole.new w 76 #[hv n.t, .slice A n.v.length c, .slice K n.ks.length k]
  have hn0 := h.on b0
  have hs0 : (w.alloc (.cells #[hv n.t, .slice A n.v.length c, .slice K n.ks.length k] 76)).heap.size = w.heap.size + 1 := by simp
  have hQ := seq17_any n hf A c K k _ hn0
  have HS0 : Hid (seqB n = false → strOf n = []) := Lib.hid strOf_no
  have HS13 : Hid (seqB n = true → n.t = 13 → strOf n = strs (n.v.drop 12)) := Lib.hid strOf_13
  have HS14 : Hid (seqB n = true → n.t = 14 → strOf n = strs (n.v.drop 4)) := Lib.hid strOf_14
  have HSE : Hid (¬ n.t = 13 → ¬ n.t = 14 → strOf n = []) := Lib.hid strOf_else
  have H13 : Hid (seqB n = true → n.t = 13 → 12 ≤ n.v.length ∧ n.v.length % 2 = 0 ∧ n.v.length ≤ 65531) := Lib.hid (fun h1 h2 => ⟨(seqB_13 h1 h2).1, (seqB_13 h1 h2).2, (seqB_len h1).2.1⟩)
  have H14 : Hid (seqB n = true → n.t = 14 → 4 ≤ n.v.length ∧ n.v.length % 2 = 0 ∧ n.v.length ≤ 65531) := Lib.hid (fun h1 h2 => ⟨(seqB_14 h1 h2).1, (seqB_14 h1 h2).2, (seqB_len h1).2.1⟩)
  have hNd := hn0.data
  have hdc := hn0.dc
  have hdm := hn0.dm
  clear hn0 h
  unfold ndV at hQ ⊢
  generalize seqB n = sb at *
  generalize seqV n = sv at *
  obtain ⟨t, v, ks⟩ := n
  simp only [Nd.t, Nd.v, Nd.ks] at *
  generalize strOf (.mk t v ks) = so at *
  cases sb with
  | false =>
    obtain rfl : so = [] := HS0.out rfl
    clear HS0 HS13 HS14 HSE H13 H14 hNd
    go_enter Tryz.func52, Tryz.ntmps52
    go_upto_region 1 with fail
    generalize w.alloc (.cells #[hv t, .slice A v.length c, .slice K ks.length k] 76) = wa at *
    obtain ⟨q0, q1, q2⟩ := wh317 x0
    go_wp2_with fail
    refine hQ.mono ?_
    rintro e w1 ⟨rfl, b1⟩
    have B1 := Lib.hid (b0.trans (b1.mono (by omega)))
    clear hQ q0 q1 q2 x0 b0 b1
    go_wp2_with fail
    go_ret
    exact ⟨none, 0, rfl, Lies.nil, B1.out⟩
  | true =>
    by_cases h13 : t = 13
    · subst h13
      have HS := Lib.hid (HS13.out rfl rfl)
      obtain ⟨h1, h2, h3⟩ := H13.out rfl rfl
      clear H13 H14 HS0 HS13 HS14 HSE
      have hd2 : (v.drop 12).length % 2 = 0 := by rw [List.length_drop]; omega
      have hd3 : (v.drop 12).length ≤ 65531 := by rw [List.length_drop]; omega
      go_enter Tryz.func52, Tryz.ntmps52
      go_upto_region 1 with fail
      generalize w.alloc (.cells #[hv 13, .slice A v.length c, .slice K ks.length k] 76) = wa at *
      obtain ⟨q0, q1, q2⟩ := wh317 x0
      go_wp2_with fail
      refine hQ.mono ?_
      rintro e w1 ⟨rfl, b1⟩
      have B1 := Lib.hid (b0.trans (b1.mono (by omega)))
      have x1 := x0.below b1 (by omega)
      obtain ⟨A5, c5, hs5, l5, m5, m6⟩ := slice_from17 A c v 12 ((hNd.below b1).more b1.size) hdc hdm h1
      have hZ := strs_len (v.drop 12)
      rw [← HS.out] at hZ
      have HSO := HS.out
      generalize v.drop 12 = D at *
      have hO := streamsOf17 A5 c5 D w1 l5 hd2 (by omega) m5 so.length hZ.symm
      rw [← HSO] at hO
      clear hZ HSO HS hd2 hd3
      clear hQ q0 q1 q2 x0 b0 hNd b1 l5
      obtain ⟨q0, q1, q2⟩ := wh317 x1
      go_wp2_with (refine wpList_slice17 rfl 41 _ _ _ _ rfl (by rw [elem_u817]; exact Tryz.underlying41) _ (hs5 _) ?_)
      refine hO.mono ?_
      rintro e w2 ⟨A6, c6, rfl, l6, b6⟩
      have hs1 := B1.out.size
      clear q0 q1 q2 hO
      go_wp2_with fail
      go_ret
      exact ⟨A6, c6, rfl, l6, B1.out.trans (b6.mono hs1)⟩
    · have e13 : ((t.toNat : Int) == 13) = false := by rw [beq_eq_false_iff_ne]; intro e; exact h13 (UInt16.toNat_inj.1 (by have : (13 : UInt16).toNat = 13 := rfl; omega))
      by_cases h14 : t = 14
      · subst h14
        have HS := Lib.hid (HS14.out rfl rfl)
        obtain ⟨h1, h2, h3⟩ := H14.out rfl rfl
        clear H13 H14 e13 HS0 HS13 HS14 HSE
        have hd2 : (v.drop 4).length % 2 = 0 := by rw [List.length_drop]; omega
        have hd3 : (v.drop 4).length ≤ 65531 := by rw [List.length_drop]; omega
        go_enter Tryz.func52, Tryz.ntmps52
        go_upto_region 1 with fail
        generalize w.alloc (.cells #[hv 14, .slice A v.length c, .slice K ks.length k] 76) = wa at *
        obtain ⟨q0, q1, q2⟩ := wh317 x0
        go_wp2_with fail
        refine hQ.mono ?_
        rintro e w1 ⟨rfl, b1⟩
        have B1 := Lib.hid (b0.trans (b1.mono (by omega)))
        have x1 := x0.below b1 (by omega)
        obtain ⟨A5, c5, hs5, l5, m5, m6⟩ := slice_from17 A c v 4 ((hNd.below b1).more b1.size) hdc hdm h1
        have hZ := strs_len (v.drop 4)
        rw [← HS.out] at hZ
        have HSO := HS.out
        generalize v.drop 4 = D at *
        have hO := streamsOf17 A5 c5 D w1 l5 hd2 (by omega) m5 so.length hZ.symm
        rw [← HSO] at hO
        clear hZ HSO HS hd2 hd3
        clear hQ q0 q1 q2 x0 b0 hNd b1 l5
        obtain ⟨q0, q1, q2⟩ := wh317 x1
        go_wp2_with (refine wpList_slice17 rfl 41 _ _ _ _ rfl (by rw [elem_u817]; exact Tryz.underlying41) _ (hs5 _) ?_)
        refine hO.mono ?_
        rintro e w2 ⟨A6, c6, rfl, l6, b6⟩
        have hs1 := B1.out.size
        clear q0 q1 q2 hO
        go_wp2_with fail
        go_ret
        exact ⟨A6, c6, rfl, l6, B1.out.trans (b6.mono hs1)⟩
      · have e14 : ((t.toNat : Int) == 14) = false := by rw [beq_eq_false_iff_ne]; intro e; exact h14 (UInt16.toNat_inj.1 (by have : (14 : UInt16).toNat = 14 := rfl; omega))
        obtain rfl : so = [] := HSE.out h13 h14
        clear HS0 HS13 HS14 HSE H13 H14 hNd h13 h14
        go_enter Tryz.func52, Tryz.ntmps52
        go_upto_region 1 with fail
        generalize w.alloc (.cells #[hv t, .slice A v.length c, .slice K ks.length k] 76) = wa at *
        obtain ⟨q0, q1, q2⟩ := wh317 x0
        go_wp2_with fail
        refine hQ.mono ?_
        rintro e w1 ⟨rfl, b1⟩
        have B1 := Lib.hid (b0.trans (b1.mono (by omega)))
        have x1 := x0.below b1 (by omega)
        clear hQ q0 q1 q2 x0 b0 b1
        obtain ⟨q0, q1, q2⟩ := wh317 x1
        go_wp2_with fail
        go_ret
        exact ⟨none, 0, rfl, Lies.nil, B1.out⟩
end Go.Proofs.YtmohbkniekeafaaGreatDoor







namespace Go.Proofs.YtmohbkniekeafaaGreatDoor
open Go.RowKit

set_option linter.unusedSimpArgs false
def ansB (q a : Nd) : Bool := !decide (q.t = 16) && (seqB q && (decide (a.t = 16) && (seqB a && decide (seqV q = seqV a))))
theorem u16_isnt {t k : UInt16} (h : ¬ t = k) : ((t.toNat : Int) == (k.toNat : Int)) = false := by rw [beq_eq_false_iff_ne]; intro e; exact h (UInt16.toNat_inj.1 (by omega))
theorem u16_ne {t k : UInt16} (h : ¬ t = k) : ((t.toNat : Int) != (k.toNat : Int)) = true := by rw [bne_iff_ne]; intro e; exact h (UInt16.toNat_inj.1 (by omega))
theorem u32_isnt {t k : UInt32} (h : ¬ t = k) : ((t.toNat : Int) == (k.toNat : Int)) = false := by rw [beq_eq_false_iff_ne]; intro e; exact h (UInt32.toNat_inj.1 (by omega))
set_option maxRecDepth 100000 in
set_option maxHeartbeats 8000000 in
theorem answers17_any (q a : Nd) (hfq : Fine q) (hfa : Fine a) (A : Option Addr) (c : Nat) (K : Option Addr) (k : Nat) (A' : Option Addr) (c' : Nat) (K' : Option Addr) (k' : Nat) (w : World) (hq : Node w w.heap.size A c K k q) (ha : Node w w.heap.size A' c' K' k' a) :
    Calls Tryz.prog 56 #[ndV q A c K k, ndV a A' c' K' k'] w fun e w' => e = .returned (.bool (ansB q a)) ∧ Below w.heap.size w w' := by
  have b0 : Below w.heap.size w ((w.alloc (.cells #[hv q.t, .slice A q.v.length c, .slice K q.ks.length k] 76)).alloc (.cells #[hv a.t, .slice A' a.v.length c', .slice K' a.ks.length k'] 76)) := ((Below.refl _ w).alloc (Nat.le_refl _) _).alloc (by simp) _
  have x0 := (Whole.new w 76 #[hv q.t, .slice A q.v.length c, .slice K q.ks.length k]).alloc (.cells #[hv a.t, .slice A' a.v.length c', .slice K' a.ks.length k'] 76)
  have y0 := Whole.new (w.alloc (.cells #[hv q.t, .slice A q.v.length c, .slice K q.ks.length k] 76)) 76 #[hv a.t, .slice A' a.v.length c', .slice K' a.ks.length k']
  rw [World.size_alloc] at y0
  have hQ := seq17_any q hfq A c K k _ (hq.on b0)
  have HA := Lib.hid (fun (V : World) (hV : Below w.heap.size w V) => seq17_any a hfa A' c' K' k' V (ha.on hV))
  have HR : Hid (ansB q a = (!decide (q.t = 16) && (seqB q && (decide (a.t = 16) && (seqB a && decide (seqV q = seqV a)))))) := Lib.hid rfl
  have hs0 : w.heap.size + 2 = ((w.alloc (.cells #[hv q.t, .slice A q.v.length c, .slice K q.ks.length k] 76)).alloc (.cells #[hv a.t, .slice A' a.v.length c', .slice K' a.ks.length k'] 76)).heap.size := by simp
  clear hq ha hfq hfa
  unfold ndV at hQ HA ⊢
  generalize ansB q a = r at *
  generalize seqB q = sq at *
  generalize seqB a = sa at *
  generalize seqV q = vq at *
  generalize seqV a = va at *
  generalize q.v.length = lq at *
  generalize a.v.length = la at *
  generalize q.ks.length = kq at *
  generalize a.ks.length = ka at *
  generalize q.t = tq at *
  generalize a.t = ta at *
  have HS0 := Lib.hid hs0
  clear hs0
  go_enter Tryz.func56, Tryz.ntmps56
  go_upto_region 1 with fail
  generalize (w.alloc (.cells #[hv tq, .slice A lq c, .slice K kq k] 76)).alloc (.cells #[hv ta, .slice A' la c', .slice K' ka k'] 76) = wa at *
  obtain ⟨q0, q1, q2⟩ := wh317 x0
  go_wp2_with fail
  refine hQ.mono ?_
  rintro e w1 ⟨rfl, b1⟩
  have hsz := HS0.out
  have B1 := b0.trans (b1.mono (by omega))
  have x1 := x0.below b1 (by omega)
  have y1 := y0.below b1 (by omega)
  clear hQ q0 q1 q2 x0 y0 b0 hsz
  have hz1 := x1.lt
  have hA := HA.out w1 B1
  obtain ⟨q0, q1, q2⟩ := wh317 y1
  go_upto_region 2 with fail
  go_wp2_with fail
  refine hA.mono ?_
  rintro e w2 ⟨rfl, b2⟩
  have B2 := Lib.hid (B1.trans (b2.mono (by omega)))
  have x2 := x1.below b2 x1.lt
  have y2 := y1.below b2 y1.lt
  clear hA HA q0 q1 q2 x1 y1 B1 b1 b2 HS0
  have q0 := (wh317 x2).1
  have p0 := (wh317 y2).1
  clear x2 y2
  go_upto_region 3 with fail
  have HD : Hid ((tq = 16 ∧ r = false) ∨ (¬ tq = 16 ∧ sq = false ∧ r = false) ∨ (¬ tq = 16 ∧ sq = true ∧ ¬ ta = 16 ∧ r = false) ∨ (¬ tq = 16 ∧ sq = true ∧ ta = 16 ∧ sa = false ∧ r = false) ∨ (¬ tq = 16 ∧ sq = true ∧ ta = 16 ∧ sa = true ∧ vq = va ∧ r = true) ∨ (¬ tq = 16 ∧ sq = true ∧ ta = 16 ∧ sa = true ∧ ¬ vq = va ∧ r = false)) := by
    unfold Hid
    rw [HR.out]
    by_cases h1 : tq = 16
    · exact .inl ⟨h1, by rw [decide_eq_true h1]; rfl⟩
    · rw [decide_eq_false h1]
      cases sq with
      | false => exact .inr (.inl ⟨h1, rfl, rfl⟩)
      | true =>
        by_cases h2 : ta = 16
        · rw [decide_eq_true h2]
          cases sa with
          | false => exact .inr (.inr (.inr (.inl ⟨h1, rfl, h2, rfl, rfl⟩)))
          | true =>
            by_cases h3 : vq = va
            · exact .inr (.inr (.inr (.inr (.inl ⟨h1, rfl, h2, rfl, h3, by rw [decide_eq_true h3]; rfl⟩))))
            · exact .inr (.inr (.inr (.inr (.inr ⟨h1, rfl, h2, rfl, h3, by rw [decide_eq_false h3]; rfl⟩))))
        · exact .inr (.inr (.inl ⟨h1, rfl, h2, by rw [decide_eq_false h2]; rfl⟩))
  clear HR
  rcases HD.out with ⟨rfl, rfl⟩ | ⟨h1, rfl, rfl⟩ | ⟨h1, rfl, h2, rfl⟩ | ⟨h1, rfl, rfl, rfl, rfl⟩ | ⟨h1, rfl, rfl, rfl, rfl, rfl⟩ | ⟨h1, rfl, rfl, rfl, h3, rfl⟩
  · clear HD
    go_wp2_with fail
    go_ret
    exact ⟨rfl, B2.out⟩
  · have e1 : ((tq.toNat : Int) != 16) = true := u16_ne h1
    clear HD h1
    go_wp2_with fail
    go_ret
    exact ⟨rfl, B2.out⟩
  · have e1 : ((tq.toNat : Int) != 16) = true := u16_ne h1
    have e2 : ((ta.toNat : Int) == 16) = false := u16_isnt h2
    clear HD h1 h2
    go_wp2_with fail
    go_ret
    exact ⟨rfl, B2.out⟩
  · have e1 : ((tq.toNat : Int) != 16) = true := u16_ne h1
    clear HD h1
    go_wp2_with fail
    go_ret
    exact ⟨rfl, B2.out⟩
  · have e1 : ((tq.toNat : Int) != 16) = true := u16_ne h1
    clear HD h1
    go_wp2_with fail
    go_ret
    exact ⟨rfl, B2.out⟩
  · have e1 : ((tq.toNat : Int) != 16) = true := u16_ne h1
    have e3 := u32_isnt h3
    clear HD h1 h3
    go_wp2_with fail
    go_ret
    exact ⟨rfl, B2.out⟩
end Go.Proofs.YtmohbkniekeafaaGreatDoor









namespace Go.Proofs.YtmohbkniekeafaaGreatDoor
open Go.RowKit

set_option linter.unusedSimpArgs false
def othB (n : Nd) : Bool := !isT n.t
set_option maxHeartbeats 2000000 in
theorem other17_any (n : Nd) (A : Option Addr) (c : Nat) (K : Option Addr) (k : Nat) (w : World) : Calls Tryz.prog 112 #[.agg #[hv n.t, .slice A n.v.length c, .slice K n.ks.length k]] w fun e w' => e = .returned (.bool (othB n)) ∧ Below w.heap.size w w' := by
  have b0 : Below w.heap.size w (w.alloc (.cells #[hv n.t, .slice A n.v.length c, .slice K n.ks.length k] 76)) := (Below.refl _ w).alloc (Nat.le_refl _) _
  have x0 := Whole.new w 76 #[hv n.t, .slice A n.v.length c, .slice K n.ks.length k]
  have hT := isType17_any n.t (w.alloc (.cells #[hv n.t, .slice A n.v.length c, .slice K n.ks.length k] 76))
  unfold othB
  generalize isT n.t = r at *
  generalize n.v.length = lv at *
  generalize n.ks.length = lk at *
  generalize n.t = t at *
  obtain ⟨q0, q1, q2⟩ := wh317 x0
  cases r
  all_goals
    go_enter Tryz.func112, Tryz.ntmps112
    go_wp2_with fail
    refine hT.mono ?_
    rintro e w1 ⟨rfl, rfl⟩
    go_wp2_with fail
    go_ret
    exact ⟨rfl, b0⟩
set_option maxRecDepth 100000 in
set_option maxHeartbeats 4000000 in
theorem idx17_any (l : List Nd) (A : Option Addr) (c : Nat) (w : World) (h : Nodes w w.heap.size A l) (hgl : l.length ≤ 9223372036854775807) :
    Calls Tryz.prog 153 #[.slice A l.length c, .func (.func 112) #[] #[]] w fun e w' => ∃ r : Int, e = .returned (.int .i64 r) ∧ decide (0 ≤ r) = l.any othB ∧ Below w.heap.size w w' := by
  have HG := Lib.hid h
  clear h
  go_enter Tryz.func153, Tryz.ntmps153
  go_wp2_with fail
  go_loopw [8] (fun i wr => ∃ j : Nat, j ≤ l.length ∧ i = .int .i64 (j : Int) ∧ Below w.heap.size w wr ∧ ∀ s ∈ l.take j, othB s = false) (fun i _ => l.length - (intOf i).toNat)
  case atStart => exact ⟨0, Nat.zero_le _, rfl, Below.refl _ _, fun g hg => by simp at hg⟩
  case round =>
    obtain ⟨j, hj, rfl, hbel, hno⟩ := hrel
    by_cases hlt : j < l.length
    · obtain ⟨ad, A', c', K', k', n, rfl, hadb, hn, c0, c1, c2, -⟩ := (HG.out.on hbel).at_ hlt
      have hi1 : (j : Int) < (l.length : Int) := by omega
      have hC := other17_any n A' c' K' k' wr
      have HN := Lib.hid hno
      have HB := Lib.hid hbel
      clear hno hbel
      cases hin : othB n with
      | true =>
        rw [hin] at hC
        have HI := Lib.hid hin
        clear hin
        go_wp2_with fail
        refine hC.mono ?_
        rintro e w2 ⟨rfl, b2⟩
        go_wp2_with fail
        go_ret
        refine ⟨(j : Int), rfl, ?_, HB.out.trans (b2.mono HB.out.size)⟩
        rw [decide_eq_true (by omega)]
        exact (List.any_eq_true.2 ⟨n, List.mem_of_getElem? hn.out, HI.out⟩).symm
      | false =>
        rw [hin] at hC
        have HI := Lib.hid hin
        clear hin
        go_wp2_with fail
        refine hC.mono ?_
        rintro e w2 ⟨rfl, b2⟩
        go_wp2_with fail
        go_roundw
        case rel => exact ⟨j + 1, by omega, by go_num, HB.out.trans (b2.mono HB.out.size), fun x hx => by
          rw [take_some hn.out] at hx
          rcases List.mem_append.1 hx with h | h
          · exact HN.out x h
          · rw [List.mem_singleton.1 h]; exact HI.out⟩
        case measure => simp [intOf]; omega
    · obtain rfl : j = l.length := by omega
      have hi1 : ¬ (l.length : Int) < (l.length : Int) := by omega
      rw [List.take_length] at hno
      have HN := Lib.hid hno
      clear hno
      go_wp2_with fail
      go_ret
      refine ⟨-1, rfl, ?_, hbel⟩
      rw [decide_eq_false (by omega)]
      symm
      rw [List.any_eq_false]
      intro g hg
      rw [HN.out g hg]
      simp
set_option maxRecDepth 100000 in
set_option maxHeartbeats 2000000 in
theorem has17_any (l : List Nd) (A : Option Addr) (c : Nat) (w : World) (h : Nodes w w.heap.size A l) (hgl : l.length ≤ 9223372036854775807) :
    Calls Tryz.prog 113 #[.slice A l.length c, .func (.func 112) #[] #[]] w fun e w' => e = .returned (.bool (l.any othB)) ∧ Below w.heap.size w w' := by
  have hI := idx17_any l A c w h hgl
  generalize l.any othB = r at *
  clear h
  go_enter Tryz.func113, Tryz.ntmps113
  go_wp2_with fail
  refine hI.mono ?_
  rintro e w2 ⟨k, rfl, hk, b2⟩
  have HK := Lib.hid hk
  clear hk hI
  go_wp2_with fail
  go_ret
  exact ⟨by rw [← HK.out]; rfl, b2⟩
theorem few217 (n : Nd) : Fine n → Few2 n :=
  Nd.ind (P := fun n => Fine n → Few2 n) (fun t v ks ih h => .mk (by have := h.kl; omega) (by have := h.vl; rw [Nd.vlen_eq] at this; omega) fun k hk => ih k hk (h.kid k hk)) n
theorem ChunkS.turn17 {w w' : World} {S S' : Nat → Prop} {A : Option Addr} {c : Nat} {K : Option Addr} {k : Nat} {x : Ck} (h : ChunkS w S A c K k x) (hk : ∀ p : Addr, S p.block → w'.cell? p = w.cell? p) (hs : ∀ b, S b → S' b) : ChunkS w' S' A c K k x :=
  ⟨h.data.turn2 (fun p _ h1 h2 => (hk p h1).trans h2) hs, h.dc, h.dm, h.kids.turn2 (fun p _ h1 h2 => (hk p h1).trans h2) hs, h.kc, h.km⟩
theorem chunk_far17 {w : World} {S : Nat → Prop} {A : Option Addr} {c : Nat} {K : Option Addr} {k : Nat} {x : Ck} {g : Nat} {u0 u1 u2 u3 : Value} (h : ChunkS w S A c K k x) (hg : ∀ b, S b → g ≠ b ∧ b < w.heap.size) :
    Chunk ((((w.setCell ⟨g, 0, none⟩ u0).setCell ⟨g, 1, none⟩ u1).setCell ⟨g, 2, none⟩ u2).setCell ⟨g, 3, none⟩ u3) ((((w.setCell ⟨g, 0, none⟩ u0).setCell ⟨g, 1, none⟩ u1).setCell ⟨g, 2, none⟩ u2).setCell ⟨g, 3, none⟩ u3).heap.size A c K k x := by
  refine (h.turn17 (S' := fun b => b < ((((w.setCell ⟨g, 0, none⟩ u0).setCell ⟨g, 1, none⟩ u1).setCell ⟨g, 2, none⟩ u2).setCell ⟨g, 3, none⟩ u3).heap.size) (fun p hp => ?_) (fun b hb => ?_)).chunk (fun b hb => hb)
  · have h1 := (hg _ hp).1
    rw [World.cell?_setCell_far _ _ _ _ h1, World.cell?_setCell_far _ _ _ _ h1, World.cell?_setCell_far _ _ _ _ h1, World.cell?_setCell_far _ _ _ _ h1]
  · simpa [World.setCell] using (hg _ hb).2
/-- the re-config chunk of parameters -/
def rcfC (l : List Nd) : Ck := ⟨130, 0, [], l⟩
def rcfB (l : List Nd) : Bool := !l.any othB && decide (chkC (rcfC l) = 0)
/-- what Make hands back -/
def MkC (l : List Nd) (w : World) (e : Ending) (w' : World) : Prop := Below w.heap.size w w' ∧
  ((rcfB l = true ∧ ∃ A' c' K' k', e = .returned (.tuple #[.agg #[.int .u8 130, .int .u8 0, .slice A' 0 c', .slice K' l.length k'], .bool true]) ∧ Chunk w' w'.heap.size A' c' K' k' (rcfC l)) ∨
   (rcfB l = false ∧ e = .returned (.tuple #[.agg #[.int .u8 0, .int .u8 0, .slice none 0 0, .slice none 0 0], .bool false])))
set_option maxRecDepth 100000 in
set_option maxHeartbeats 8000000 in
theorem make17_any (l : List Nd) (hl : l.length ≤ 1000) (hf : ∀ n ∈ l, Fine n) (A : Option Addr) (c : Nat) (w : World) (h : Nodes w w.heap.size A l) (hc : l.length ≤ c) (hm : c ≤ maxLen) (hh : Handle w) :
    Calls Tryz.prog 54 #[.slice A l.length c] w (MkC l w) := by
  have b0 : Below w.heap.size w ((w.alloc (.cells #[.int .u8 0, .int .u8 0, .slice none 0 0, .slice none 0 0] 44)).alloc (.cells #[.int .u8 130, .int .u8 0, .slice none 0 0, .slice A l.length c] 44)) := ((Below.refl _ w).alloc (Nat.le_refl _) _).alloc (by simp) _
  have x0 := (Whole.new w 44 #[.int .u8 0, .int .u8 0, .slice none 0 0, .slice none 0 0]).alloc (.cells #[.int .u8 130, .int .u8 0, .slice none 0 0, .slice A l.length c] 44)
  have y0 := Whole.new (w.alloc (.cells #[.int .u8 0, .int .u8 0, .slice none 0 0, .slice none 0 0] 44)) 44 #[.int .u8 130, .int .u8 0, .slice none 0 0, .slice A l.length c]
  rw [World.size_alloc] at y0
  have hs0 : w.heap.size + 2 = ((w.alloc (.cells #[.int .u8 0, .int .u8 0, .slice none 0 0, .slice none 0 0] 44)).alloc (.cells #[.int .u8 130, .int .u8 0, .slice none 0 0, .slice A l.length c] 44)).heap.size := by simp
  have HS0 := Lib.hid hs0
  clear hs0
  have hI := has17_any l A c _ (h.on b0) (by omega)
  have HCH : Hid (∀ V, Below w.heap.size w V → Chunk V V.heap.size none 0 A c (rcfC l)) := Lib.hid (fun V hV => ⟨Lies.nil, Nat.le_refl _, Nat.zero_le _, h.on hV, hc, hm⟩)
  have HCK : Hid (∀ V, Below w.heap.size w V → Calls Tryz.prog 28 #[.agg #[.int .u8 130, .int .u8 0, .slice none 0 0, .slice A l.length c]] V fun e w' => e = .returned (codeE (chkC (rcfC l))) ∧ Below V.heap.size V w') := Lib.hid (fun V hV => ccheck_any (rcfC l) ⟨Nat.zero_le _, hl, hf⟩ none 0 A c V (HCH.out V hV) (hh.below hV hh.lt))
  have HCL : Hid (∀ V, Below w.heap.size w V → Calls Tryz.prog 114 #[.agg #[.int .u8 130, .int .u8 0, .slice none 0 0, .slice A l.length c]] V fun e w' => ∃ A' c' K' k', e = .returned (.agg #[.int .u8 130, .int .u8 0, .slice A' 0 c', .slice K' l.length k']) ∧ ChunkS w' (NewS V w') A' c' K' k' (rcfC l) ∧ Below V.heap.size V w') := Lib.hid (fun V hV => cclone_any (rcfC l) (Nat.zero_le _) (by show l.length ≤ _; omega) (fun n hn => few217 n (hf n hn)) none 0 A c V (HCH.out V hV))
  have HM : Hid (∀ e w', MkC l w e w' = (Below w.heap.size w w' ∧
  ((rcfB l = true ∧ ∃ A' c' K' k', e = .returned (.tuple #[.agg #[.int .u8 130, .int .u8 0, .slice A' 0 c', .slice K' l.length k'], .bool true]) ∧ Chunk w' w'.heap.size A' c' K' k' (rcfC l)) ∨
   (rcfB l = false ∧ e = .returned (.tuple #[.agg #[.int .u8 0, .int .u8 0, .slice none 0 0, .slice none 0 0], .bool false]))))) := Lib.hid fun _ _ => rfl
  have HR : Hid (rcfB l = (!l.any othB && decide (chkC (rcfC l) = 0))) := Lib.hid rfl
  clear h hc hm hh hf
  generalize MkC l w = R at *
  generalize rcfB l = r at *
  generalize l.any othB = o at *
  generalize chkC (rcfC l) = cc at *
  generalize l.length = ll at *
  go_enter Tryz.func54, Tryz.ntmps54
  go_upto_region 3 with fail
  generalize (w.alloc (.cells #[.int .u8 0, .int .u8 0, .slice none 0 0, .slice none 0 0] 44)).alloc (.cells #[.int .u8 130, .int .u8 0, .slice none 0 0, .slice A ll c] 44) = wa at *
  have hsz := HS0.out
  cases o with
  | true =>
    obtain rfl : r = false := by rw [HR.out]; rfl
    clear HR HCK HCL HCH
    go_wp2_with fail
    refine hI.mono ?_
    rintro e w1 ⟨rfl, b1⟩
    have B1 := Lib.hid (b0.trans (b1.mono (by omega)))
    have x1 := x0.below b1 (by omega)
    clear hI x0 y0 b0 b1 hsz HS0
    have f0 := x1.frozen 0
    have f1 := x1.frozen 1
    have f2 := x1.frozen 2
    have f3 := x1.frozen 3
    obtain ⟨u0, u1, u2, u3⟩ := wh4 x1
    go_wp2_with fail
    refine bodyPost_ret (results_row_tmp rfl _ _ w.heap.size 44 _ _ rfl ((((x1.set_ 0 _).set_ 1 _).set_ 2 _).set_ 3 _) Tryz.underlying44 rfl (by kernel_rfl)) rfl ?_
    rw [HM.out]
    exact ⟨(((B1.out.setCell (p := ⟨w.heap.size, 0, none⟩) (Nat.le_refl _) _).setCell (p := ⟨w.heap.size, 1, none⟩) (Nat.le_refl _) _).setCell (p := ⟨w.heap.size, 2, none⟩) (Nat.le_refl _) _).setCell (p := ⟨w.heap.size, 3, none⟩) (Nat.le_refl _) _, .inr ⟨by trivial, rfl⟩⟩
  | false =>
    by_cases hc : cc = 0
    · subst hc
      obtain rfl : r = true := by rw [HR.out]; rfl
      have e0 : codeE 0 = .nilIface := rfl
      rw [e0] at HCK
      clear HR e0
      go_wp2_with fail
      refine hI.mono ?_
      rintro e w1 ⟨rfl, b1⟩
      have B1 := b0.trans (b1.mono (by omega))
      have x1 := x0.below b1 (by omega)
      have y1 := y0.below b1 (by omega)
      have hz1 := y1.lt
      clear hI x0 y0 b0 b1 hsz HS0
      obtain ⟨q0, q1, q2, q3⟩ := wh4 y1
      have hK := HCK.out w1 B1
      go_wp2_with fail
      refine hK.mono ?_
      rintro e w2 ⟨rfl, b2⟩
      have B2 := B1.trans (b2.mono (by omega))
      have x2 := x1.below b2 x1.lt
      have y2 := y1.below b2 y1.lt
      have hz2 := y2.lt
      clear hK HCK q0 q1 q2 q3 x1 y1 B1 b2 hz1
      obtain ⟨q0, q1, q2, q3⟩ := wh4 y2
      have hL := HCL.out w2 B2
      go_wp2_with fail
      refine hL.mono ?_
      rintro e w3 ⟨A3, c3, K3, k3, rfl, hS3, b3⟩
      have B3 := Lib.hid (B2.trans (b3.mono (by omega)))
      have x3 := x2.below b3 x2.lt
      have hz3 := b3.size
      clear hL HCL HCH q0 q1 q2 q3 x2 y2 B2 b3
      have HS3 := Lib.hid hS3
      clear hS3
      have f0 := x3.frozen 0
      have f1 := x3.frozen 1
      have f2 := x3.frozen 2
      have f3 := x3.frozen 3
      obtain ⟨u0, u1, u2, u3⟩ := wh4 x3
      go_wp2_with fail
      refine bodyPost_ret (results_row_tmp rfl _ _ w.heap.size 44 _ _ rfl ((((x3.set_ 0 _).set_ 1 _).set_ 2 _).set_ 3 _) Tryz.underlying44 rfl (by kernel_rfl)) rfl ?_
      rw [HM.out]
      refine ⟨(((B3.out.setCell (p := ⟨w.heap.size, 0, none⟩) (Nat.le_refl _) _).setCell (p := ⟨w.heap.size, 1, none⟩) (Nat.le_refl _) _).setCell (p := ⟨w.heap.size, 2, none⟩) (Nat.le_refl _) _).setCell (p := ⟨w.heap.size, 3, none⟩) (Nat.le_refl _) _, .inl ⟨by trivial, A3, c3, K3, k3, rfl, ?_⟩⟩
      exact chunk_far17 HS3.out (fun b hb => ⟨by have := hb.1; omega, hb.2⟩)
    · obtain rfl : r = false := by rw [HR.out, decide_eq_false hc]; rfl
      rw [codeE_ne17 hc] at HCK
      clear HR hc HCL HCH
      go_wp2_with fail
      refine hI.mono ?_
      rintro e w1 ⟨rfl, b1⟩
      have B1 := b0.trans (b1.mono (by omega))
      have x1 := x0.below b1 (by omega)
      have y1 := y0.below b1 (by omega)
      have hz1 := y1.lt
      clear hI x0 y0 b0 b1 hsz HS0
      obtain ⟨q0, q1, q2, q3⟩ := wh4 y1
      have hK := HCK.out w1 B1
      go_wp2_with fail
      refine hK.mono ?_
      rintro e w2 ⟨rfl, b2⟩
      have B2 := Lib.hid (B1.trans (b2.mono (by omega)))
      have x2 := x1.below b2 x1.lt
      clear hK HCK q0 q1 q2 q3 x1 y1 B1 b2
      have f0 := x2.frozen 0
      have f1 := x2.frozen 1
      have f2 := x2.frozen 2
      have f3 := x2.frozen 3
      obtain ⟨u0, u1, u2, u3⟩ := wh4 x2
      go_wp2_with fail
      refine bodyPost_ret (results_row_tmp rfl _ _ w.heap.size 44 _ _ rfl ((((x2.set_ 0 _).set_ 1 _).set_ 2 _).set_ 3 _) Tryz.underlying44 rfl (by kernel_rfl)) rfl ?_
      rw [HM.out]
      exact ⟨(((B2.out.setCell (p := ⟨w.heap.size, 0, none⟩) (Nat.le_refl _) _).setCell (p := ⟨w.heap.size, 1, none⟩) (Nat.le_refl _) _).setCell (p := ⟨w.heap.size, 2, none⟩) (Nat.le_refl _) _).setCell (p := ⟨w.heap.size, 3, none⟩) (Nat.le_refl _) _, .inr ⟨by trivial, rfl⟩⟩
end Go.Proofs.YtmohbkniekeafaaGreatDoor




namespace Go.Proofs.YtmohbkniekeafaaGreatDoor
open Go.RowKit

set_option linter.unusedSimpArgs false
theorem wid1 (x : UInt16) : Value.int .u32 (x.toNat : Int) = uv (u32of x.toNat) := by
  have := x.toNat_lt
  rw [uv, u32of_toNat (by omega)]
theorem lies_nums (w : World) (l : List UInt32) : Lies (w.alloc (.cells (l.map uv).toArray 22)) (w.alloc (.cells (l.map uv).toArray 22)).heap.size (some ⟨w.heap.size, 0, none⟩) (l.map uv) := (lies_new w l).more (by simp)
set_option maxRecDepth 100000 in
set_option maxHeartbeats 8000000 in
theorem outgoing17 (a b c : UInt32) (A : Option Addr) (ca : Nat) (s : List UInt16) (w : World) (h : Lies w w.heap.size A (s.map hv)) (hs : s.length ≤ 40000) : Calls Tryz.prog 41 #[uv a, uv b, uv c, .slice A s.length ca] w (MkP (outN a b c s) w) := by
  have b0 : Below w.heap.size w (w.alloc (.cells #[.int .u16 0, .slice none 0 0, .slice none 0 0] 76)) := (Below.refl _ w).alloc (Nat.le_refl _) _
  have r0 := Whole.new w 76 #[.int .u16 0, .slice none 0 0, .slice none 0 0]
  have hs0 : (w.alloc (.cells #[.int .u16 0, .slice none 0 0, .slice none 0 0] 76)).heap.size = w.heap.size + 1 := by simp
  have hND : Hid (outN a b c s = .mk 13 (puts 4 [a, b, c] ++ puts 2 (wid s)) []) := Lib.hid rfl
  have hNL : (outN a b c s).v.length = 12 + 2 * s.length := outN_len a b c s
  have hC := collecting_any 13 (w.alloc (.cells #[.int .u16 0, .slice none 0 0, .slice none 0 0] 76))
  have HNL := Lib.hid hNL
  clear hNL
  generalize hnd : outN a b c s = nd at *
  have HM : Hid (∀ e w', MkP nd w e w' = (Below w.heap.size w w' ∧
  ((chk 4 1 nd = 0 ∧ ∃ A' c', e = .returned (.tuple #[.agg #[hv nd.t, .slice A' nd.v.length c', .slice none 0 0], .bool true]) ∧ w'.ownsRow w.heap.size 5 1 (.slice A' nd.v.length c') nd.v.length (nd.v.map bv)) ∨
   (chk 4 1 nd ≠ 0 ∧ e = .returned (.tuple #[.agg #[.int .u16 0, .slice none 0 0, .slice none 0 0], .bool false]))))) := Lib.hid fun _ _ => rfl
  generalize MkP nd w = R at *
  clear hnd
  go_enter Tryz.func41, Tryz.ntmps41
  go_upto_region 1 with fail
  generalize w.alloc (.cells #[.int .u16 0, .slice none 0 0, .slice none 0 0] 76) = wa at *
  simp only [hs0] at hC
  go_wp2_with fail
  refine hC.mono ?_
  rintro e w1 ⟨rfl, x1, b1⟩
  have B1 := b0.trans (b1.mono (by omega))
  have r1 := r0.below b1 (by omega)
  have hs1 := x1.lt
  clear hC r0 b0
  go_upto_region 2 with fail
  have v2 : Below w1.heap.size w1 (w1.alloc (.cells #[uv a, uv b, uv c] 22)) := (Below.refl _ _).alloc (Nat.le_refl _) _
  have L2 := lies_nums w1 [a, b, c]
  have x2 := x1.below v2 x1.lt
  have r2 := r1.below v2 r1.lt
  have B2 := B1.trans (v2.mono (by omega))
  have HK := Lib.hid <| coll17 4 (.inr (.inr rfl)) (some ⟨w1.heap.size, 0, none⟩) 3 [a, b, c] 13 (w.heap.size + 1) none 0 [] (w.heap.size + 1) (w1.alloc (.cells #[uv a, uv b, uv c] 22)) 0 3 12 rfl rfl rfl x2 (Nat.le_refl _) (World.ownsRow_nil _ _ _ _) L2 (by omega)
  go_wp2_with fail
  generalize w1.alloc (.cells #[uv a, uv b, uv c] 22) = w2 at *
  have hs2 : w.heap.size + 1 < w2.heap.size := x2.lt
  generalize w1.heap.size = g1 at *
  refine HK.out.mono ?_
  rintro e w3 ⟨A3, c3, rfl, x3, o3, b3⟩
  have B3 := B2.trans (b3.mono (by omega))
  have r3 : Whole w3 w.heap.size 76 #[.int .u16 0, .slice none 0 0, .slice none 0 0] := r2.below b3 (by omega)
  have hs3 := x3.lt
  clear HK x2 r2 B2 x1 r1 B1 b1 v2 L2 b3
  have hN := numbersOf17 A ca s w3 ((h.below B3).more B3.size) (by omega)
  go_wp2_with fail
  refine hN.mono ?_
  rintro e w4 ⟨A4, c4, rfl, L4, b4⟩
  have B4 := B3.trans (b4.mono (by omega))
  have x4 := x3.below b4 x3.lt
  have r4 := r3.below b4 (by omega)
  have o4 := own_below' o3 b4
  have hs4 := x4.lt
  clear hN x3 r3 o3 b4 B3
  have HK := Lib.hid <| coll17 2 (by omega) A4 c4 (wid s) 13 (w.heap.size + 1) A3 c3 (puts 4 [a, b, c]) (w.heap.size + 1) w4 12 s.length (12 + 2 * s.length) rfl (wid_len s) (by omega) x4 (Nat.le_refl _) (by simpa using o4) L4 (by omega)
  go_wp2_with fail
  refine HK.out.mono ?_
  rintro e w5 ⟨A5, c5, rfl, x5, o5, b5⟩
  have B5 := B4.trans (b5.mono (by omega))
  have r5 : Whole w5 w.heap.size 76 #[.int .u16 0, .slice none 0 0, .slice none 0 0] := r4.below b5 (by omega)
  have hs5 := x5.lt
  clear HK x4 r4 o4 b5 B4 x5
  have hL5 : (puts 4 [a, b, c] ++ puts 2 (wid s)).length = 12 + 2 * s.length := by have := HNL.out; rw [hND.out] at this; exact this
  have hR := right17_any 13 (puts 4 [a, b, c] ++ puts 2 (wid s)) A5 c5 (w.heap.size + 1) w5 (by rw [hL5]; exact o5) (by omega)
  rw [hL5, ← hND.out] at hR
  have HL5 := Lib.hid hL5
  clear hL5
  go_wp2_with fail
  refine hR.mono ?_
  rintro e w6 ⟨b6, h6⟩
  have B6 := Lib.hid (B5.trans (b6.mono (by omega)))
  have r6 := r5.below b6 (by omega)
  have o6 := Lib.hid (own_base (own_below' o5 b6) (Nat.le_succ _))
  clear hR r5 b6 B5 o5
  have f0 := r6.frozen 0
  have f1 := r6.frozen 1
  have f2 := r6.frozen 2
  obtain ⟨u0, u1, u2⟩ := wh317 r6
  rcases h6 with ⟨hc, rfl⟩ | ⟨hc, rfl⟩
  all_goals
    have HC := Lib.hid hc
    clear hc
    go_wp2_with fail
    refine bodyPost_ret (results_row_tmp rfl _ _ w.heap.size 76 _ _ rfl (((r6.set_ 0 _).set_ 1 _).set_ 2 _) Tryz.underlying76 rfl (by kernel_rfl)) rfl ?_
    rw [HM.out]
    refine ⟨((B6.out.setCell (p := ⟨w.heap.size, 0, none⟩) (Nat.le_refl _) _).setCell (p := ⟨w.heap.size, 1, none⟩) (Nat.le_refl _) _).setCell (p := ⟨w.heap.size, 2, none⟩) (Nat.le_refl _) _, ?_⟩
    first
    | exact .inr ⟨HC.out, rfl⟩
    | refine .inl ⟨HC.out, A5, c5, ?_, ?_⟩
      · rw [HNL.out, hND.out]; rfl
      · rw [HNL.out, hND.out]; exact own_set13 (own_set13 (own_set13 o6.out r6 (by decide)) (r6.set_ 0 _) (by decide)) ((r6.set_ 0 _).set_ 1 _) (by decide)
set_option maxRecDepth 100000 in
set_option maxHeartbeats 8000000 in
theorem incoming17 (a : UInt32) (A : Option Addr) (ca : Nat) (s : List UInt16) (w : World) (h : Lies w w.heap.size A (s.map hv)) (hs : s.length ≤ 40000) : Calls Tryz.prog 42 #[uv a, .slice A s.length ca] w (MkP (incN a s) w) := by
  have b0 : Below w.heap.size w (w.alloc (.cells #[.int .u16 0, .slice none 0 0, .slice none 0 0] 76)) := (Below.refl _ w).alloc (Nat.le_refl _) _
  have r0 := Whole.new w 76 #[.int .u16 0, .slice none 0 0, .slice none 0 0]
  have hs0 : (w.alloc (.cells #[.int .u16 0, .slice none 0 0, .slice none 0 0] 76)).heap.size = w.heap.size + 1 := by simp
  have hND : Hid (incN a s = .mk 14 (puts 4 [a] ++ puts 2 (wid s)) []) := Lib.hid rfl
  have hNL : (incN a s).v.length = 4 + 2 * s.length := incN_len a s
  have hC := collecting_any 14 (w.alloc (.cells #[.int .u16 0, .slice none 0 0, .slice none 0 0] 76))
  have HNL := Lib.hid hNL
  clear hNL
  generalize hnd : incN a s = nd at *
  have HM : Hid (∀ e w', MkP nd w e w' = (Below w.heap.size w w' ∧
  ((chk 4 1 nd = 0 ∧ ∃ A' c', e = .returned (.tuple #[.agg #[hv nd.t, .slice A' nd.v.length c', .slice none 0 0], .bool true]) ∧ w'.ownsRow w.heap.size 5 1 (.slice A' nd.v.length c') nd.v.length (nd.v.map bv)) ∨
   (chk 4 1 nd ≠ 0 ∧ e = .returned (.tuple #[.agg #[.int .u16 0, .slice none 0 0, .slice none 0 0], .bool false]))))) := Lib.hid fun _ _ => rfl
  generalize MkP nd w = R at *
  clear hnd
  go_enter Tryz.func42, Tryz.ntmps42
  go_upto_region 1 with fail
  generalize w.alloc (.cells #[.int .u16 0, .slice none 0 0, .slice none 0 0] 76) = wa at *
  simp only [hs0] at hC
  go_wp2_with fail
  refine hC.mono ?_
  rintro e w1 ⟨rfl, x1, b1⟩
  have B1 := b0.trans (b1.mono (by omega))
  have r1 := r0.below b1 (by omega)
  have hs1 := x1.lt
  clear hC r0 b0
  go_upto_region 2 with fail
  have v2 : Below w1.heap.size w1 (w1.alloc (.cells #[uv a] 22)) := (Below.refl _ _).alloc (Nat.le_refl _) _
  have L2 := lies_nums w1 [a]
  have x2 := x1.below v2 x1.lt
  have r2 := r1.below v2 r1.lt
  have B2 := B1.trans (v2.mono (by omega))
  have HK := Lib.hid <| coll17 4 (.inr (.inr rfl)) (some ⟨w1.heap.size, 0, none⟩) 1 [a] 14 (w.heap.size + 1) none 0 [] (w.heap.size + 1) (w1.alloc (.cells #[uv a] 22)) 0 1 4 rfl rfl rfl x2 (Nat.le_refl _) (World.ownsRow_nil _ _ _ _) L2 (by omega)
  go_wp2_with fail
  generalize w1.alloc (.cells #[uv a] 22) = w2 at *
  have hs2 : w.heap.size + 1 < w2.heap.size := x2.lt
  generalize w1.heap.size = g1 at *
  refine HK.out.mono ?_
  rintro e w3 ⟨A3, c3, rfl, x3, o3, b3⟩
  have B3 := B2.trans (b3.mono (by omega))
  have r3 : Whole w3 w.heap.size 76 #[.int .u16 0, .slice none 0 0, .slice none 0 0] := r2.below b3 (by omega)
  have hs3 := x3.lt
  clear HK x2 r2 B2 x1 r1 B1 b1 v2 L2 b3
  have hN := numbersOf17 A ca s w3 ((h.below B3).more B3.size) (by omega)
  go_wp2_with fail
  refine hN.mono ?_
  rintro e w4 ⟨A4, c4, rfl, L4, b4⟩
  have B4 := B3.trans (b4.mono (by omega))
  have x4 := x3.below b4 x3.lt
  have r4 := r3.below b4 (by omega)
  have o4 := own_below' o3 b4
  have hs4 := x4.lt
  clear hN x3 r3 o3 b4 B3
  have HK := Lib.hid <| coll17 2 (by omega) A4 c4 (wid s) 14 (w.heap.size + 1) A3 c3 (puts 4 [a]) (w.heap.size + 1) w4 4 s.length (4 + 2 * s.length) rfl (wid_len s) (by omega) x4 (Nat.le_refl _) (by simpa using o4) L4 (by omega)
  go_wp2_with fail
  refine HK.out.mono ?_
  rintro e w5 ⟨A5, c5, rfl, x5, o5, b5⟩
  have B5 := B4.trans (b5.mono (by omega))
  have r5 : Whole w5 w.heap.size 76 #[.int .u16 0, .slice none 0 0, .slice none 0 0] := r4.below b5 (by omega)
  have hs5 := x5.lt
  clear HK x4 r4 o4 b5 B4 x5
  have hL5 : (puts 4 [a] ++ puts 2 (wid s)).length = 4 + 2 * s.length := by have := HNL.out; rw [hND.out] at this; exact this
  have hR := right17_any 14 (puts 4 [a] ++ puts 2 (wid s)) A5 c5 (w.heap.size + 1) w5 (by rw [hL5]; exact o5) (by omega)
  rw [hL5, ← hND.out] at hR
  have HL5 := Lib.hid hL5
  clear hL5
  go_wp2_with fail
  refine hR.mono ?_
  rintro e w6 ⟨b6, h6⟩
  have B6 := Lib.hid (B5.trans (b6.mono (by omega)))
  have r6 := r5.below b6 (by omega)
  have o6 := Lib.hid (own_base (own_below' o5 b6) (Nat.le_succ _))
  clear hR r5 b6 B5 o5
  have f0 := r6.frozen 0
  have f1 := r6.frozen 1
  have f2 := r6.frozen 2
  obtain ⟨u0, u1, u2⟩ := wh317 r6
  rcases h6 with ⟨hc, rfl⟩ | ⟨hc, rfl⟩
  all_goals
    have HC := Lib.hid hc
    clear hc
    go_wp2_with fail
    refine bodyPost_ret (results_row_tmp rfl _ _ w.heap.size 76 _ _ rfl (((r6.set_ 0 _).set_ 1 _).set_ 2 _) Tryz.underlying76 rfl (by kernel_rfl)) rfl ?_
    rw [HM.out]
    refine ⟨((B6.out.setCell (p := ⟨w.heap.size, 0, none⟩) (Nat.le_refl _) _).setCell (p := ⟨w.heap.size, 1, none⟩) (Nat.le_refl _) _).setCell (p := ⟨w.heap.size, 2, none⟩) (Nat.le_refl _) _, ?_⟩
    first
    | exact .inr ⟨HC.out, rfl⟩
    | refine .inl ⟨HC.out, A5, c5, ?_, ?_⟩
      · rw [HNL.out, hND.out]; rfl
      · rw [HNL.out, hND.out]; exact own_set13 (own_set13 (own_set13 o6.out r6 (by decide)) (r6.set_ 0 _) (by decide)) ((r6.set_ 0 _).set_ 1 _) (by decide)
set_option maxRecDepth 100000 in
set_option maxHeartbeats 8000000 in
theorem response17 (a b : UInt32) (A : Option Addr) (ca : Nat) (l : List UInt32) (w : World) (h : Lies w w.heap.size A (l.map uv)) (hs : l.length ≤ 20000) : Calls Tryz.prog 43 #[uv a, uv b, .slice A l.length ca] w (MkP (rspN a b l) w) := by
  have b0 : Below w.heap.size w (w.alloc (.cells #[.int .u16 0, .slice none 0 0, .slice none 0 0] 76)) := (Below.refl _ w).alloc (Nat.le_refl _) _
  have r0 := Whole.new w 76 #[.int .u16 0, .slice none 0 0, .slice none 0 0]
  have hs0 : (w.alloc (.cells #[.int .u16 0, .slice none 0 0, .slice none 0 0] 76)).heap.size = w.heap.size + 1 := by simp
  have hND : Hid (rspN a b l = .mk 16 (puts 4 [a, b] ++ puts 4 l) []) := Lib.hid rfl
  have hNL : (rspN a b l).v.length = 8 + 4 * l.length := rspN_len a b l
  have hC := collecting_any 16 (w.alloc (.cells #[.int .u16 0, .slice none 0 0, .slice none 0 0] 76))
  have HNL := Lib.hid hNL
  clear hNL
  generalize hnd : rspN a b l = nd at *
  have HM : Hid (∀ e w', MkP nd w e w' = (Below w.heap.size w w' ∧
  ((chk 4 1 nd = 0 ∧ ∃ A' c', e = .returned (.tuple #[.agg #[hv nd.t, .slice A' nd.v.length c', .slice none 0 0], .bool true]) ∧ w'.ownsRow w.heap.size 5 1 (.slice A' nd.v.length c') nd.v.length (nd.v.map bv)) ∨
   (chk 4 1 nd ≠ 0 ∧ e = .returned (.tuple #[.agg #[.int .u16 0, .slice none 0 0, .slice none 0 0], .bool false]))))) := Lib.hid fun _ _ => rfl
  generalize MkP nd w = R at *
  clear hnd
  go_enter Tryz.func43, Tryz.ntmps43
  go_upto_region 1 with fail
  generalize w.alloc (.cells #[.int .u16 0, .slice none 0 0, .slice none 0 0] 76) = wa at *
  simp only [hs0] at hC
  go_wp2_with fail
  refine hC.mono ?_
  rintro e w1 ⟨rfl, x1, b1⟩
  have B1 := b0.trans (b1.mono (by omega))
  have r1 := r0.below b1 (by omega)
  have hs1 := x1.lt
  clear hC r0 b0
  go_upto_region 2 with fail
  have v2 : Below w1.heap.size w1 (w1.alloc (.cells #[uv a, uv b] 22)) := (Below.refl _ _).alloc (Nat.le_refl _) _
  have L2 := lies_nums w1 [a, b]
  have x2 := x1.below v2 x1.lt
  have r2 := r1.below v2 r1.lt
  have B2 := B1.trans (v2.mono (by omega))
  have HK := Lib.hid <| coll17 4 (.inr (.inr rfl)) (some ⟨w1.heap.size, 0, none⟩) 2 [a, b] 16 (w.heap.size + 1) none 0 [] (w.heap.size + 1) (w1.alloc (.cells #[uv a, uv b] 22)) 0 2 8 rfl rfl rfl x2 (Nat.le_refl _) (World.ownsRow_nil _ _ _ _) L2 (by omega)
  go_wp2_with fail
  generalize w1.alloc (.cells #[uv a, uv b] 22) = w2 at *
  have hs2 : w.heap.size + 1 < w2.heap.size := x2.lt
  generalize w1.heap.size = g1 at *
  refine HK.out.mono ?_
  rintro e w3 ⟨A3, c3, rfl, x3, o3, b3⟩
  have B3 := B2.trans (b3.mono (by omega))
  have r3 : Whole w3 w.heap.size 76 #[.int .u16 0, .slice none 0 0, .slice none 0 0] := r2.below b3 (by omega)
  have hs3 := x3.lt
  clear HK x2 r2 B2 x1 r1 B1 b1 v2 L2 b3
  have L3 := (h.below B3).more B3.size
  have HK := Lib.hid <| coll17 4 (by omega) A ca l 16 (w.heap.size + 1) A3 c3 (puts 4 [a, b]) (w.heap.size + 1) w3 8 l.length (8 + 4 * l.length) rfl rfl (by omega) x3 (Nat.le_refl _) (by simpa using o3) L3 (by omega)
  go_wp2_with fail
  refine HK.out.mono ?_
  rintro e w5 ⟨A5, c5, rfl, x5, o5, b5⟩
  have B5 := B3.trans (b5.mono (by omega))
  have r5 : Whole w5 w.heap.size 76 #[.int .u16 0, .slice none 0 0, .slice none 0 0] := r3.below b5 (by omega)
  have hs5 := x5.lt
  clear HK x3 r3 o3 b5 B3 x5
  have hL5 : (puts 4 [a, b] ++ puts 4 l).length = 8 + 4 * l.length := by have := HNL.out; rw [hND.out] at this; exact this
  have hR := right17_any 16 (puts 4 [a, b] ++ puts 4 l) A5 c5 (w.heap.size + 1) w5 (by rw [hL5]; exact o5) (by omega)
  rw [hL5, ← hND.out] at hR
  have HL5 := Lib.hid hL5
  clear hL5
  go_wp2_with fail
  refine hR.mono ?_
  rintro e w6 ⟨b6, h6⟩
  have B6 := Lib.hid (B5.trans (b6.mono (by omega)))
  have r6 := r5.below b6 (by omega)
  have o6 := Lib.hid (own_base (own_below' o5 b6) (Nat.le_succ _))
  clear hR r5 b6 B5 o5
  have f0 := r6.frozen 0
  have f1 := r6.frozen 1
  have f2 := r6.frozen 2
  obtain ⟨u0, u1, u2⟩ := wh317 r6
  rcases h6 with ⟨hc, rfl⟩ | ⟨hc, rfl⟩
  all_goals
    have HC := Lib.hid hc
    clear hc
    go_wp2_with fail
    refine bodyPost_ret (results_row_tmp rfl _ _ w.heap.size 76 _ _ rfl (((r6.set_ 0 _).set_ 1 _).set_ 2 _) Tryz.underlying76 rfl (by kernel_rfl)) rfl ?_
    rw [HM.out]
    refine ⟨((B6.out.setCell (p := ⟨w.heap.size, 0, none⟩) (Nat.le_refl _) _).setCell (p := ⟨w.heap.size, 1, none⟩) (Nat.le_refl _) _).setCell (p := ⟨w.heap.size, 2, none⟩) (Nat.le_refl _) _, ?_⟩
    first
    | exact .inr ⟨HC.out, rfl⟩
    | refine .inl ⟨HC.out, A5, c5, ?_, ?_⟩
      · rw [HNL.out, hND.out]; rfl
      · rw [HNL.out, hND.out]; exact own_set13 (own_set13 (own_set13 o6.out r6 (by decide)) (r6.set_ 0 _) (by decide)) ((r6.set_ 0 _).set_ 1 _) (by decide)
end Go.Proofs.YtmohbkniekeafaaGreatDoor


