/- Layer 13: the law DataSplits. It writes nothing that was there. -/
import Derived.Test.YtgjmgphmakiffaaGreatDoorQDataY
import Derived.Test.YtgjmgphmakiffaaGreatDoorQDataX
import Derived.Test.YtgjmgphmakiffaaGreatDoorQDataT
import Derived.Test.YtgjmgphmakiffaaGreatDoorQDataD
import Derived.Test.YtgjmgphmakiffaaGreatDoorQNS
import Derived.BigGuard
import Derived.Deep.RegionHeld3







namespace Go.Proofs.YtgjmgphmakiffaaGreatDoor
open Go.ChangeShapes Go.WideShapes Go.ChangeAt Go.RowKit

set_option linter.unusedSimpArgs false
theorem flat_pieces (us : List UInt8) (n : Nat) : ∀ K, ((List.range K).map fun j => (us.drop (j * n)).take n).flatten = us.take (K * n)
  | 0 => by simp
  | K + 1 => by
    rw [List.range_succ, List.map_append, List.flatten_append, flat_pieces us n K, Nat.succ_mul, List.take_add]
    simp
theorem splP_us (p : Pt) (n : Nat) (hn : 1 ≤ n) : ((splP p n).map Pt.us).flatten = p.us := by
  unfold splP
  rw [List.map_map]
  have e : (Pt.us ∘ pieceP p n) = fun j => (p.us.drop (j * n)).take n := rfl
  rw [e, flat_pieces]
  refine List.take_of_length_le ?_
  have h := Nat.div_add_mod (p.us.length + n - 1) n
  have h2 := Nat.mod_lt (p.us.length + n - 1) (show 0 < n by omega)
  rw [Nat.mul_comm] at h
  generalize (p.us.length + n - 1) / n * n = q at *
  omega
theorem splP_one (p : Pt) (n : Nat) (h1 : 1 ≤ p.us.length) (hn : p.us.length ≤ n) : splP p n = [⟨p.inter, p.tsn, p.st, p.sq, p.pr, true, true, p.un, p.nw, p.us⟩] := by
  unfold splP
  have e : (p.us.length + n - 1) / n = 1 := by
    have := Nat.div_eq_of_lt_le (m := p.us.length + n - 1) (n := n) (k := 1) (by omega) (by omega)
    exact this
  rw [e]
  have e2 : (p.us.drop (0 * n)).take n = p.us := by rw [Nat.zero_mul, List.drop_zero]; exact List.take_of_length_le hn
  show [pieceP p n 0] = _
  unfold pieceP
  rw [e2]
  simp [hn]
theorem splP_min (p : Pt) (n m : Nat) (h1 : 1 ≤ p.us.length) (h : n = m ∨ (p.us.length ≤ n ∧ p.us.length ≤ m)) : splP p n = splP p m := by
  rcases h with rfl | ⟨h, h'⟩
  · rfl
  · rw [splP_one p n h1 h, splP_one p m h1 h']
theorem eqfB_self (xs : List Pt) : eqfB xs xs = true := by
  unfold eqfB
  simp only [decide_true, Bool.true_and, List.all_eq_true]
  exact fun i _ => sameB_self _
theorem splP_cons (p : Pt) (n : Nat) (h1 : 1 ≤ p.us.length) (hn : 1 ≤ n) : ∃ t, splP p n = pieceP p n 0 :: t := by
  unfold splP
  have hK : 1 ≤ (p.us.length + n - 1) / n := (Nat.le_div_iff_mul_le (by omega)).2 (by omega)
  obtain ⟨K, hK2⟩ : ∃ K, (p.us.length + n - 1) / n = K + 1 := ⟨_, (Nat.succ_pred_eq_of_pos hK).symm⟩
  rw [hK2, List.range_succ_eq_map]
  exact ⟨_, rfl⟩
theorem jn_split (p : Pt) (n : Nat) (hw : whoB p = true) (hn : 1 ≤ n) (h1 : 1 ≤ p.us.length) : jnB (splP p n) = true ∧ jnP (splP p n) = p := by
  obtain ⟨t, ht⟩ := splP_cons p n h1 hn
  have hu := splP_us p n hn
  have hb : p.bg = true ∧ p.en = true := by
    unfold whoB at hw
    simp only [Bool.and_eq_true] at hw
    exact hw.2
  have hq : jnQ (splP p n) = p := by
    rw [ht] at hu ⊢
    show Pt.mk (pieceP p n 0).inter (pieceP p n 0).tsn (pieceP p n 0).st (pieceP p n 0).sq (pieceP p n 0).pr (pieceP p n 0).bg true (pieceP p n 0).un (pieceP p n 0).nw ((pieceP p n 0 :: t).map Pt.us).flatten = p
    rw [hu]
    obtain ⟨a, b, c, d, e, f, g, u, v, us⟩ := p
    simp only at hb
    obtain ⟨rfl, rfl⟩ := hb
    simp [pieceP]
  have hB : jnB (splP p n) = true := by
    have h2 : jnB (splP p n) = eqfB (splL (jnQ (splP p n)) ((pieceP p n 0).us.length : Int)) (splP p n) := by
      rw [ht]; rfl
    rw [h2, hq]
    have hl : (pieceP p n 0).us.length = min n p.us.length := by rw [pieceP_len, Nat.zero_mul, Nat.sub_zero]
    have hs : splL p ((pieceP p n 0).us.length : Int) = splP p n := by
      unfold splL
      rw [if_pos ⟨hw, by rw [hl]; omega⟩, Int.toNat_natCast, hl]
      exact splP_min p _ _ h1 (by omega)
    rw [hs]
    exact eqfB_self _
  exact ⟨hB, by unfold jnP; rw [hB, if_pos rfl, hq]⟩
theorem spl_tot (ms : List Pm) (p : Pt) (n : Nat) (hn : 1 ≤ n) (h : ms.map Pm.p = splP p n) : tot (ms.map fun m => m.p.us) = p.us.length := by
  have e : (ms.map fun m => m.p.us) = (splP p n).map Pt.us := by rw [← h, List.map_map]; rfl
  unfold tot
  rw [e, splP_us p n hn]
set_option maxRecDepth 100000 in
set_option maxHeartbeats 16000000 in
theorem dsp_law (p : Pt) (A : Option Addr) (c : Nat) (n : Int) (hn2 : n ≤ 9223372036854775807) (w : World) (h : PtL w w.heap.size A c p) (hh : Handle w) :
    Calls Tryz.prog 5 #[ptV p A c, .int .i64 n] w fun e w' => e = .returned (.bool true) ∧ Below w.heap.size w w' := by
  have b0 : Below w.heap.size w (w.alloc (.cells (ptCells p A c) 26)) := (Below.refl _ w).alloc (Nat.le_refl _) _
  have x0 := Whole.new w 26 (ptCells p A c)
  have hp0 := h.on b0
  have H0 := hh.below b0 hh.lt
  have HH := Lib.hid hh
  have HP := Lib.hid h
  clear h hh
  go_enter Tryz.func5, Tryz.ntmps5
  go_wp2_with fail
  generalize w.alloc (.cells (ptCells p A c) 26) = w0 at *
  refine (awake13_any w0 H0).mono ?_
  rintro e w1 ⟨rfl, b1⟩
  have B1 := b0.trans (b1.mono b0.size)
  have x1 := x0.below b1 x0.lt
  have hp1 := hp0.on b1
  have hF1 := few13_any p A c w1
  obtain ⟨q0, q1, q2, q3, q4, q5, q6, q7, q8, q9⟩ := x1.cs10
  cases hf : few13B p with
  | false =>
    rw [hf] at hF1
    clear hf
    go_wp2_with fail
    refine hF1.mono ?_
    rintro e w2 ⟨rfl, b2⟩
    have B2 := B1.trans (b2.mono B1.size)
    go_wp2_with fail
    refine (awake13_any w2 (HH.out.below B2 HH.out.lt)).mono ?_
    rintro e w3 ⟨rfl, b3⟩
    go_wp2_with fail
    go_ret
    exact ⟨rfl, B2.trans (b3.mono B2.size)⟩
  | true =>
    have hu : p.us.length ≤ 1000 := by unfold few13B at hf; simpa using hf
    rw [hf] at hF1
    clear hf
    go_wp2_with fail
    refine hF1.mono ?_
    rintro e w2 ⟨rfl, b2⟩
    have B2 := B1.trans (b2.mono B1.size)
    have x2 := x1.below b2 x1.lt
    have hp2 := hp1.on b2
    clear q0 q1 q2 q3 q4 q5 q6 q7 q8 q9 hF1 x0 x1 hp0 hp1 H0
    obtain ⟨q0, q1, q2, q3, q4, q5, q6, q7, q8, q9⟩ := x2.cs10
    have hSp := dsplit_any p A c n hn2 w2 hp2
    unfold SplR at hSp
    go_wp2_with fail
    refine hSp.mono ?_
    rintro e w3 ⟨b3, A3, c3, ms, rfl, hms, hPs⟩
    have B3 := B2.trans (b3.mono B2.size)
    have x3 := x2.below b3 x2.lt
    have hp3 := hp2.on b3
    clear q0 q1 q2 q3 q4 q5 q6 q7 q8 q9 hSp x2 hp2
    obtain ⟨q0, q1, q2, q3, q4, q5, q6, q7, q8, q9⟩ := x3.cs10
    have hRt := rright_any p A c w3
    have HMS := Lib.hid hms
    have hlm : ms.length = (splL p n).length := by rw [← hms, List.length_map]
    rw [← hlm]
    have HLM := Lib.hid hlm
    clear hms hlm
    by_cases hgood : whoB p = true ∧ 1 ≤ n
    · obtain ⟨hw, hn1⟩ := hgood
      have hW3 : desB p = true ∧ p.bg = true ∧ p.en = true := by
        unfold whoB at hw
        simp only [Bool.and_eq_true] at hw
        exact hw
      have hu1 : 1 ≤ p.us.length := (des_parts hW3.1).1
      obtain ⟨nn, rfl⟩ : ∃ nn : Nat, n = (nn : Int) := ⟨n.toNat, by omega⟩
      obtain ⟨m, hm⟩ : ∃ m : Nat, m = min nn 5000 := ⟨_, rfl⟩
      have hm1 : 1 ≤ m := by omega
      have hm2 : m ≤ 1000000 := by omega
      have hmin : min (nn : Int) 5000 = (m : Int) := by omega
      have hspl : splL p (nn : Int) = splP p m := by
        unfold splL
        rw [if_pos ⟨hw, hn1⟩, Int.toNat_natCast]
        exact splP_min p nn m hu1 (by omega)
      have HMP : Hid (ms.map Pm.p = splP p m) := by unfold Hid; rw [HMS.out, hspl]
      have HJN := Lib.hid (jn_split p m hw hm1 hu1)
      have hnl : ¬ (nn : Int) < 1 := by omega
      rw [hW3.1] at hRt
      have HW3 := Lib.hid hW3
      have hl65 : ms.length ≤ 65535 := by rw [HLM.out]; exact splL_len p (nn : Int)
      clear hw hW3 hspl hm HMS HLM
      go_wp2_with fail
      refine hRt.mono ?_
      rintro e w4 ⟨rfl, b4⟩
      have B4 := B3.trans (b4.mono B3.size)
      have x4 := x3.below b4 x3.lt
      have hp4 := hp3.on b4
      have hPs4 := hPs.on b4
      clear q0 q1 q2 q3 q4 q5 q6 q7 q8 q9 hRt x3 hp3 hPs
      obtain ⟨q0, q1, q2, q3, q4, q5, q6, q7, q8, q9⟩ := x4.cs10
      rw [HW3.out.2.1] at q5
      rw [HW3.out.2.2] at q6
      have hRs := rsplit13_any p A c m hm1 hm2 (by omega) w4 hp4
      unfold SplR at hRs
      go_upto_region 7 with fail
      clear q0 q1 q2 q3 q4 q5 q6 q7 q8 q9
      obtain ⟨q0, q1, q2, q3, q4, q5, q6, q7, q8, q9⟩ := x4.cs10
      go_wp2_with fail
      refine hRs.mono ?_
      rintro e w5 ⟨b5, A5, c5, ms5, rfl, hm5, hP5⟩
      have B5 := B4.trans (b5.mono B4.size)
      have x5 := x4.below b5 x4.lt
      have hp5 := hp4.on b5
      have hPs5 := hPs4.on b5
      have hle : (splP p m).length = ms.length := by rw [← HMP.out, List.length_map]
      have HL5 : Hid (ms5.length = ms.length) := by unfold Hid; rw [← hle, ← hm5, List.length_map]
      have HM5 : Hid (ms5.map Pm.p = ms.map Pm.p) := by unfold Hid; rw [hm5, HMP.out]
      rw [hle]
      have hne0 : ((ms.length : Int) != (ms.length : Int)) = false := by simp
      have HX5 := Lib.hid x5
      have HP5 := Lib.hid hp5
      have HB5 := Lib.hid B5
      clear hle hm5 q0 q1 q2 q3 q4 q5 q6 q7 q8 q9 hRs x4 hp4 hPs4 x5 hp5
      go_upto_region 11 with fail
      go_loopw [7] (fun i wr => ∃ k : Nat, k ≤ ms.length ∧ i = .int .i64 (k : Int) ∧ Below w5.heap.size w5 wr) (fun i _ => ms.length - (intOf i).toNat)
      case atStart => exact ⟨0, Nat.zero_le _, rfl, Below.refl _ _⟩
      case round =>
        obtain ⟨k, hk, rfl, hbel⟩ := hrel
        by_cases hlt : k < ms.length
        · obtain ⟨m1, hm1'⟩ : ∃ m1, ms[k]? = some m1 := ⟨_, List.getElem?_eq_getElem hlt⟩
          obtain ⟨m2, hm2'⟩ : ∃ m2, ms5[k]? = some m2 := ⟨_, List.getElem?_eq_getElem (by rw [HL5.out]; exact hlt)⟩
          have hmm : Hid (m1.p = m2.p) := by
            have e := congrArg (fun l => l[k]?) HM5.out
            simp only [List.getElem?_map, hm1', hm2', Option.map_some, Option.some.injEq] at e
            exact e.symm
          have g1 := (hPs5.on hbel).each m1 (List.mem_of_getElem? hm1')
          have g2 := (hP5.on hbel).each m2 (List.mem_of_getElem? hm2')
          have HC1 := Lib.hid (fun V (hV : Below wr.heap.size wr V) => (((hPs5.on hbel).below hV).cells hm1'))
          have HC2 := Lib.hid (fun V (hV : Below wr.heap.size wr V) => (((hP5.on hbel).below hV).cells hm2'))
          obtain ⟨ad, hA3, hadb, _⟩ := HC1.out wr (Below.refl _ _)
          obtain ⟨ad2, hA5, hadb2, _⟩ := HC2.out wr (Below.refl _ _)
          have HSm : Hid (∀ V, Below wr.heap.size wr V → Calls Tryz.prog 19 #[ptV m1.p m1.A m1.c, ptV m2.p m2.A m2.c] V fun e w' => e = .returned (.bool true) ∧ Below V.heap.size V w') := fun V hV => by
            have h9 := rsame13_any m1.p m2.p (by have := g1.dc; have := g1.dm; omega) m1.A m1.c m2.A m2.c V (g1.on hV) (g2.on hV)
            rw [← hmm.out, ptEq_self] at h9
            rw [← hmm.out]
            exact h9
          have KS : Hid (∀ V, Below wr.heap.size wr V → V.cell? (ad.add (k * 10)) = some (.bool m1.p.inter) ∧ V.cell? ⟨(ad.add (k * 10)).block, (ad.add (k * 10)).off + 1, none⟩ = some (uv m1.p.tsn) ∧ V.cell? ⟨(ad.add (k * 10)).block, (ad.add (k * 10)).off + 2, none⟩ = some (hv m1.p.st) ∧ V.cell? ⟨(ad.add (k * 10)).block, (ad.add (k * 10)).off + 3, none⟩ = some (uv m1.p.sq) ∧ V.cell? ⟨(ad.add (k * 10)).block, (ad.add (k * 10)).off + 4, none⟩ = some (uv m1.p.pr) ∧ V.cell? ⟨(ad.add (k * 10)).block, (ad.add (k * 10)).off + 5, none⟩ = some (.bool m1.p.bg) ∧ V.cell? ⟨(ad.add (k * 10)).block, (ad.add (k * 10)).off + 6, none⟩ = some (.bool m1.p.en) ∧ V.cell? ⟨(ad.add (k * 10)).block, (ad.add (k * 10)).off + 7, none⟩ = some (.bool m1.p.un) ∧ V.cell? ⟨(ad.add (k * 10)).block, (ad.add (k * 10)).off + 8, none⟩ = some (.bool m1.p.nw) ∧ V.cell? ⟨(ad.add (k * 10)).block, (ad.add (k * 10)).off + 9, none⟩ = some (.slice m1.A m1.p.us.length m1.c) ∧ V.cell? (ad2.add (k * 10)) = some (.bool m2.p.inter) ∧ V.cell? ⟨(ad2.add (k * 10)).block, (ad2.add (k * 10)).off + 1, none⟩ = some (uv m2.p.tsn) ∧ V.cell? ⟨(ad2.add (k * 10)).block, (ad2.add (k * 10)).off + 2, none⟩ = some (hv m2.p.st) ∧ V.cell? ⟨(ad2.add (k * 10)).block, (ad2.add (k * 10)).off + 3, none⟩ = some (uv m2.p.sq) ∧ V.cell? ⟨(ad2.add (k * 10)).block, (ad2.add (k * 10)).off + 4, none⟩ = some (uv m2.p.pr) ∧ V.cell? ⟨(ad2.add (k * 10)).block, (ad2.add (k * 10)).off + 5, none⟩ = some (.bool m2.p.bg) ∧ V.cell? ⟨(ad2.add (k * 10)).block, (ad2.add (k * 10)).off + 6, none⟩ = some (.bool m2.p.en) ∧ V.cell? ⟨(ad2.add (k * 10)).block, (ad2.add (k * 10)).off + 7, none⟩ = some (.bool m2.p.un) ∧ V.cell? ⟨(ad2.add (k * 10)).block, (ad2.add (k * 10)).off + 8, none⟩ = some (.bool m2.p.nw) ∧ V.cell? ⟨(ad2.add (k * 10)).block, (ad2.add (k * 10)).off + 9, none⟩ = some (.slice m2.A m2.p.us.length m2.c)) := fun V hV => by
            obtain ⟨d1, e1, _, a0, a1, a2, a3, a4, a5, a6, a7, a8, a9⟩ := HC1.out V hV
            obtain ⟨d2, e2, _, b0, b1, b2, b3, b4, b5, b6, b7, b8, b9⟩ := HC2.out V hV
            rw [hA3] at e1
            rw [hA5] at e2
            cases e1
            cases e2
            exact ⟨a0, a1, a2, a3, a4, a5, a6, a7, a8, a9, b0, b1, b2, b3, b4, b5, b6, b7, b8, b9⟩
          have hi1 : (k : Int) < (ms.length : Int) := by omega
          rw [hA3, hA5]
          have HA3 := Lib.hid hA3
          have HA5 := Lib.hid hA5
          clear g1 g2 HC1 HC2 hm1' hm2' hmm hadb hadb2 hA3 hA5
          go_upto_region 13 with fail
          refine wp_region_held_drew (S := (fun V => V.cell? (ad.add (k * 10)) = some (.bool m1.p.inter) ∧ V.cell? ⟨(ad.add (k * 10)).block, (ad.add (k * 10)).off + 1, none⟩ = some (uv m1.p.tsn) ∧ V.cell? ⟨(ad.add (k * 10)).block, (ad.add (k * 10)).off + 2, none⟩ = some (hv m1.p.st) ∧ V.cell? ⟨(ad.add (k * 10)).block, (ad.add (k * 10)).off + 3, none⟩ = some (uv m1.p.sq) ∧ V.cell? ⟨(ad.add (k * 10)).block, (ad.add (k * 10)).off + 4, none⟩ = some (uv m1.p.pr) ∧ V.cell? ⟨(ad.add (k * 10)).block, (ad.add (k * 10)).off + 5, none⟩ = some (.bool m1.p.bg) ∧ V.cell? ⟨(ad.add (k * 10)).block, (ad.add (k * 10)).off + 6, none⟩ = some (.bool m1.p.en) ∧ V.cell? ⟨(ad.add (k * 10)).block, (ad.add (k * 10)).off + 7, none⟩ = some (.bool m1.p.un) ∧ V.cell? ⟨(ad.add (k * 10)).block, (ad.add (k * 10)).off + 8, none⟩ = some (.bool m1.p.nw) ∧ V.cell? ⟨(ad.add (k * 10)).block, (ad.add (k * 10)).off + 9, none⟩ = some (.slice m1.A m1.p.us.length m1.c) ∧ V.cell? (ad2.add (k * 10)) = some (.bool m2.p.inter) ∧ V.cell? ⟨(ad2.add (k * 10)).block, (ad2.add (k * 10)).off + 1, none⟩ = some (uv m2.p.tsn) ∧ V.cell? ⟨(ad2.add (k * 10)).block, (ad2.add (k * 10)).off + 2, none⟩ = some (hv m2.p.st) ∧ V.cell? ⟨(ad2.add (k * 10)).block, (ad2.add (k * 10)).off + 3, none⟩ = some (uv m2.p.sq) ∧ V.cell? ⟨(ad2.add (k * 10)).block, (ad2.add (k * 10)).off + 4, none⟩ = some (uv m2.p.pr) ∧ V.cell? ⟨(ad2.add (k * 10)).block, (ad2.add (k * 10)).off + 5, none⟩ = some (.bool m2.p.bg) ∧ V.cell? ⟨(ad2.add (k * 10)).block, (ad2.add (k * 10)).off + 6, none⟩ = some (.bool m2.p.en) ∧ V.cell? ⟨(ad2.add (k * 10)).block, (ad2.add (k * 10)).off + 7, none⟩ = some (.bool m2.p.un) ∧ V.cell? ⟨(ad2.add (k * 10)).block, (ad2.add (k * 10)).off + 8, none⟩ = some (.bool m2.p.nw) ∧ V.cell? ⟨(ad2.add (k * 10)).block, (ad2.add (k * 10)).off + 9, none⟩ = some (.slice m2.A m2.p.us.length m2.c))) (by kernel_rfl) (KS.out _ (below_drew (Below.refl _ _))) (fun hHeld => ?_)
          refine take_at (i := 0) (v := ?_) (some 57) rfl (by kernel_rfl) (by kernel_rfl) (by kernel_rfl) (fun _ _ _ h => h) (by kernel_rfl) (Or.inl ⟨by kernel_rfl, ?_⟩) (by assumption) ?_
          rotate_left
          · (intro w hSw; (try dsimp only at hSw); go_simp <;> with_reducible rfl)
          simp only [Act.put, List.setIfInBounds_toArray, List.set_cons_zero, List.set_cons_succ]
          refine take_at (i := 1) (v := ?_) (some 58) rfl (by kernel_rfl) (by kernel_rfl) (by kernel_rfl) (fun _ _ _ h => h) (by kernel_rfl) (Or.inl ⟨by kernel_rfl, ?_⟩) (by assumption) ?_
          rotate_left
          · (intro w hSw; (try dsimp only at hSw); go_simp <;> with_reducible rfl)
          simp only [Act.put, List.setIfInBounds_toArray, List.set_cons_zero, List.set_cons_succ]
          refine take_at (i := 2) (v := ?_) (some 59) rfl (by kernel_rfl) (by kernel_rfl) (by kernel_rfl) (fun _ _ _ h => h) (by kernel_rfl) (Or.inl ⟨by kernel_rfl, ?_⟩) (by assumption) ?_
          rotate_left
          · (intro w hSw; (try dsimp only at hSw); go_simp <;> with_reducible rfl)
          simp only [Act.put, List.setIfInBounds_toArray, List.set_cons_zero, List.set_cons_succ]
          refine take_at (i := 3) (v := ?_) (some 60) rfl (by kernel_rfl) (by kernel_rfl) (by kernel_rfl) (fun _ _ _ h => h) (by kernel_rfl) (Or.inl ⟨by kernel_rfl, ?_⟩) (by assumption) ?_
          rotate_left
          · (intro w hSw; (try dsimp only at hSw); go_simp <;> with_reducible rfl)
          simp only [Act.put, List.setIfInBounds_toArray, List.set_cons_zero, List.set_cons_succ]
          refine take_at (i := 4) (v := ?_) (some 61) rfl (by kernel_rfl) (by kernel_rfl) (by kernel_rfl) (fun _ _ _ h => h) (by kernel_rfl) (Or.inl ⟨by kernel_rfl, ?_⟩) (by assumption) ?_
          rotate_left
          · (intro w hSw; (try dsimp only at hSw); go_simp <;> with_reducible rfl)
          simp only [Act.put, List.setIfInBounds_toArray, List.set_cons_zero, List.set_cons_succ]
          refine take_at (i := 5) (v := ?_) (some 62) rfl (by kernel_rfl) (by kernel_rfl) (by kernel_rfl) (fun _ _ _ h => h) (by kernel_rfl) (Or.inl ⟨by kernel_rfl, ?_⟩) (by assumption) ?_
          rotate_left
          · (intro w hSw; (try dsimp only at hSw); go_simp <;> with_reducible rfl)
          simp only [Act.put, List.setIfInBounds_toArray, List.set_cons_zero, List.set_cons_succ]
          refine take_at (i := 6) (v := ?_) (some 63) rfl (by kernel_rfl) (by kernel_rfl) (by kernel_rfl) (fun _ _ _ h => h) (by kernel_rfl) (Or.inl ⟨by kernel_rfl, ?_⟩) (by assumption) ?_
          rotate_left
          · (intro w hSw; (try dsimp only at hSw); go_simp <;> with_reducible rfl)
          simp only [Act.put, List.setIfInBounds_toArray, List.set_cons_zero, List.set_cons_succ]
          refine take_at (i := 7) (v := ?_) (some 64) rfl (by kernel_rfl) (by kernel_rfl) (by kernel_rfl) (fun _ _ _ h => h) (by kernel_rfl) (Or.inl ⟨by kernel_rfl, ?_⟩) (by assumption) ?_
          rotate_left
          · (intro w hSw; (try dsimp only at hSw); go_simp <;> with_reducible rfl)
          simp only [Act.put, List.setIfInBounds_toArray, List.set_cons_zero, List.set_cons_succ]
          refine wpAnyH_ready (rs := [8]) (by kernel_rfl) (by simp) ?_
          refine AllReadyH.cons rfl (fun K hK => ?_) AllReadyH.nil
          go_simp
          go_at_call 19; (with_reducible refine (HSm.out _ (below_drew (Below.refl _ _))).mono ?_); rintro e w6 ⟨rfl, b6⟩; have R6 : Below wr.heap.size wr w6 := below_undrew13 b6
          go_wp2_with fail
          clear hHeld
          refine hK.out _ _ (KS.out _ R6) (fun hHeld => ?_)
          clear hK K
          try simp only [Act.put, List.setIfInBounds_toArray, List.set_cons_zero, List.set_cons_succ]
          refine take_at (i := 9) (v := ?_) (some 66) rfl (by kernel_rfl) (by kernel_rfl) (by kernel_rfl) (fun _ _ _ h => h) (by kernel_rfl) (Or.inl ⟨by kernel_rfl, ?_⟩) (by assumption) ?_
          rotate_left
          · (intro w hSw; (try dsimp only at hSw); go_simp <;> with_reducible rfl)
          simp only [Act.put, List.setIfInBounds_toArray, List.set_cons_zero, List.set_cons_succ]
          refine wpAnyH_done (by kernel_rfl) ?_ _
          skip
          go_wp2_with fail
          go_roundw
          case rel => exact ⟨k + 1, by omega, by go_num, hbel.trans (R6.mono hbel.size)⟩
          case measure => simp [intOf]; omega
        · obtain rfl : k = ms.length := by omega
          have hi1 : ¬ (ms.length : Int) < (ms.length : Int) := by omega
          have hPs6 := hPs5.on hbel
          have hJ := djoin13_any ms A3 c3 wr hPs6 (by omega) (by rw [spl_tot ms p m hm1 HMP.out]; omega)
          rw [HMP.out] at hJ
          unfold JnR13 at hJ
          rw [HJN.out.1, HJN.out.2] at hJ
          have B6 := HB5.out.trans (hbel.mono HB5.out.size)
          have x6 := HX5.out.below hbel HX5.out.lt
          have hp6 := HP5.out.on hbel
          go_wp2_with fail
          refine hJ.mono ?_
          rintro e w7 ⟨b7, A7, c7, rfl, hp7⟩
          have B7 := B6.trans (b7.mono B6.size)
          have x7 := x6.below b7 x6.lt
          have hq7 := hp6.on b7
          clear x6 hp6 hPs6 hJ B6
          go_upto_region 16 with fail
          have v8 : Below w7.heap.size w7 (w7.alloc (.cells (ptCells p A7 c7) 34)) := (Below.refl _ _).alloc (Nat.le_refl _) _
          have y8 := Whole.new w7 34 (ptCells p A7 c7)
          have x8 := x7.below v8 x7.lt
          have hp8 := hp7.on v8
          have hq8 := hq7.on v8
          have B8 := B7.trans (v8.mono B7.size)
          generalize w7.alloc (.cells (ptCells p A7 c7) 34) = w8 at *
          generalize w7.heap.size = g8 at *
          clear x7 hp7 hq7 B7 v8
          obtain ⟨a0, a1, a2, a3, a4, a5, a6, a7, a8, a9⟩ := x8.cs10
          obtain ⟨d0, d1, d2, d3, d4, d5, d6, d7, d8, d9⟩ := y8.cs10
          have hS := rsame13_any p p (by unfold maxLen; omega) A7 c7 A c w8 hp8 hq8
          rw [ptEq_self] at hS
          go_wp2_with fail
          refine hS.mono ?_
          rintro e w9 ⟨rfl, b9⟩
          go_wp2_with fail
          go_ret
          exact ⟨rfl, B8.trans (b9.mono B8.size)⟩
    · have hz : ms.length = 0 := by
        have : splL p n = [] := by unfold splL; rw [if_neg hgood]
        rw [HLM.out, this]; rfl
      have hne : ¬ (desB p = true ∧ p.bg = true ∧ p.en = true ∧ 1 ≤ n) := fun ⟨a1, a2, a3, a4⟩ => hgood ⟨by unfold whoB; rw [a1, a2, a3]; rfl, a4⟩
      have HZ := Lib.hid hz
      have hz0 : ((ms.length : Int) == 0) = true := by rw [hz]; rfl
      clear hgood hz
      cases hd : desB p with
      | false =>
        rw [hd] at hRt
        clear hd hne
        go_wp2_with fail
        refine hRt.mono ?_
        rintro e w4 ⟨rfl, b4⟩
        go_wp2_with fail
        go_ret
        exact ⟨by first | rfl | (rw [HZ.out]; rfl), B3.trans (b4.mono B3.size)⟩
      | true =>
        rw [hd] at hRt
        go_wp2_with fail
        refine hRt.mono ?_
        rintro e w4 ⟨rfl, b4⟩
        have B4 := B3.trans (b4.mono B3.size)
        have x4 := x3.below b4 x3.lt
        clear q0 q1 q2 q3 q4 q5 q6 q7 q8 q9 hRt
        obtain ⟨q0, q1, q2, q3, q4, q5, q6, q7, q8, q9⟩ := x4.cs10
        cases hb : p.bg with
        | false =>
          rw [hb] at q5
          clear hb hd hne
          go_wp2_with fail
          go_ret
          exact ⟨by first | rfl | (rw [HZ.out]; rfl), B4⟩
        | true =>
          cases he : p.en with
          | false =>
            rw [hb] at q5
            rw [he] at q6
            clear hb he hd hne
            go_wp2_with fail
            go_ret
            exact ⟨by first | rfl | (rw [HZ.out]; rfl), B4⟩
          | true =>
            have hlt : n < 1 := by
              rcases Int.lt_or_le n 1 with h | h
              · exact h
              · exact absurd ⟨hd, hb, he, h⟩ hne
            rw [hb] at q5
            rw [he] at q6
            clear hb he hd hne
            go_wp2_with fail
            go_ret
            exact ⟨by first | rfl | (rw [HZ.out]; rfl), B4⟩
set_option maxRecDepth 100000 in
theorem law_DataSplits {H : Type} {enc : TypeId × Value → H} {W : World} {base : Nat} {v0 v1 : Value} {d0 d1 : DataW H} {p0 p1 : List MemPlace}
    (o0 : Value.okWide Tryz.prog W .any base 26 v0) (h0 : DataW.Trod enc Tryz.prog W 0 (fun _ => true) true 26 v0 d0 p0) (_s0 : Small Tryz.prog 26 d0)
    (o1 : Value.okWide Tryz.prog W .any base 3 v1) (h1 : DataW.Trod enc Tryz.prog W 0 (fun _ => true) true 3 v1 d1 p1) (_s1 : Small Tryz.prog 3 d1) (hL : laidMetH Tryz.prog laidL W) :
    Calls Tryz.prog 5 #[v0, v1] W fun e w' => e = .returned (.bool true) ∧ Below W.heap.size W w' := by
  obtain ⟨p, A, c, rfl, hp⟩ := open_part o0 h0
  obtain ⟨n, rfl, _, _, wn⟩ := open_int Tryz.underlying3 o1 h1
  exact dsp_law p A c n (by have := bounds_i64 wn; omega) W hp (handle_of_laid hL)
end Go.Proofs.YtgjmgphmakiffaaGreatDoor


