/- Layer 12: the reference's counted and odd. They write nothing that was there. -/
/- Layer 12: the reference's wanted (written by tools/gen_chunk_q.py). It writes nothing that was there. -/
import Derived.Test.YtmohbkniekeafaaGreatDoorTChunkO
import Derived.Test.YtmohbkniekeafaaGreatDoorTChunkDK
import Derived.BigGuard

namespace Go.Proofs.YtmohbkniekeafaaGreatDoor
open Go.RowKit

set_option linter.unusedSimpArgs false
set_option maxRecDepth 100000 in
set_option maxHeartbeats 1000000 in
theorem rcounted12 (x : Ck) (hs : x.d.length ≤ 1000000) (h12 : x.t = 3 → 12 ≤ x.d.length ∧ (x.d.length - 12) % 4 = 0) (A : Option Addr) (c : Nat) (w : World) (h : Lies w w.heap.size A (x.d.map bv)) :
    Calls Tryz.prog 90 #[bv x.t, .slice A x.d.length c] w fun e w' => e = .returned (.bool (!cntC x)) ∧ Below w.heap.size w w' := by
  by_cases ht : x.t = 3
  · have h12' := h12 ht
    have ht' : ((x.t.toNat : Int) != 3) = false := by rw [ht]; rfl
    have hF := rnumber12 A c x.d 8 (by omega) (by omega) hs w h
    have HG : Hid (∀ W, Below w.heap.size w W → Calls Tryz.prog 138 #[.slice A x.d.length c, .int .i64 (10 : Int)] W fun e w' => e = .returned (.int .i64 ((num2 x.d 10 : Nat) : Int)) ∧ Below W.heap.size W w') := fun W hW => rnumber12 A c x.d 10 (by omega) (by omega) hs W ((h.below hW).more hW.size)
    have hn1 := num2_lt x.d 8
    have hn2 := num2_lt x.d 10
    unfold cntC
    rw [decide_eq_true ht, Bool.true_and]
    clear h12 h ht
    generalize num2 x.d 8 = n1 at *
    generalize num2 x.d 10 = n2 at *
    obtain ⟨b, hdb⟩ : ∃ b, (!decide (n1 + n2 ≠ (x.d.length - 12) / 4)) = b := ⟨_, rfl⟩
    rw [hdb]
    have hz : ((4 * ((n1 : Int) + (n2 : Int))) == (x.d.length : Int) - 12) = b := by
      rw [← hdb]
      by_cases hq : n1 + n2 = (x.d.length - 12) / 4
      · rw [decide_eq_false (by omega), beq_iff_eq.2 (by omega)]
        rfl
      · rw [decide_eq_true (by omega), beq_eq_false_iff_ne.2 (by omega)]
        rfl
    have HZ := Lib.hid hz
    clear hz hdb
    go_enter Tryz.func90, Tryz.ntmps90
    go_wp2_with fail
    refine hF.mono ?_
    rintro e w1 ⟨rfl, b1⟩
    go_wp2_with fail
    refine (HG.out w1 b1).mono ?_
    rintro e w2 ⟨rfl, b2⟩
    go_wp2_with fail
    go_ret
    exact ⟨ret_bool HZ.out, b1.trans (b2.mono b1.size)⟩
  · have ht' : ((x.t.toNat : Int) != 3) = true := by rw [bne_iff_ne]; exact fun e => ht (UInt8.toNat_inj.1 (by show x.t.toNat = 3; omega))
    unfold cntC
    rw [decide_eq_false ht, Bool.false_and]
    clear h12 h ht
    go_enter Tryz.func90, Tryz.ntmps90
    go_wp2_with fail
    go_ret
    exact ⟨rfl, Below.refl _ _⟩
/-- the offset in the data of a wrong reserved number, or -1 -/
def oddI (x : Ck) : Int := match cvalO x with | some a => (a : Int) - 4 | none => -1
set_option maxRecDepth 100000 in
set_option maxHeartbeats 4000000 in
theorem rodd12 (x : Ck) (hs : x.d.length ≤ 1000000) (h64 : x.t = 64 → 17 ≤ x.d.length) (h194 : x.t = 194 → 4 ≤ x.d.length ∧ (x.d.length - 4) % 8 = 0) (A : Option Addr) (c : Nat) (w : World) (h : Lies w w.heap.size A (x.d.map bv)) :
    Calls Tryz.prog 91 #[bv x.t, .slice A x.d.length c] w fun e w' => e = .returned (.int .i64 (oddI x)) ∧ Below w.heap.size w w' := by
  unfold oddI cvalO
  by_cases ht : x.t = 64
  · rw [if_pos ht]
    have hl := h64 ht
    have hF := rnumber12 A c x.d 6 (by omega) (by omega) hs w h
    have ht' : ((x.t.toNat : Int) == 64) = true := by rw [ht]; rfl
    have ht2 : ((x.t.toNat : Int) == 194) = false := by rw [ht]; rfl
    clear h64 h194 h ht
    generalize num2 x.d 6 = n at *
    by_cases hn : n = 0
    · subst hn
      rw [if_neg (by simp)]
      go_enter Tryz.func91, Tryz.ntmps91
      go_wp2_with fail
      refine hF.mono ?_
      rintro e w1 ⟨rfl, b1⟩
      go_wp2_with fail
      go_loopw [5] (fun i wr => i = .int .i64 6 ∧ Below w.heap.size w wr) (fun _ _ => 0)
      case atStart => exact ⟨rfl, b1⟩
      case round =>
        obtain ⟨rfl, hbel⟩ := hrel
        go_wp2_with fail
        try rw [Exit.noGoto_ret]
        go_ret
        exact ⟨rfl, hbel⟩
    · rw [if_pos hn]
      have hn' : ((n : Int) != 0) = true := by rw [bne_iff_ne]; omega
      go_enter Tryz.func91, Tryz.ntmps91
      go_wp2_with fail
      refine hF.mono ?_
      rintro e w1 ⟨rfl, b1⟩
      go_wp2_with fail
      go_ret
      exact ⟨rfl, b1⟩
  · have ht' : ((x.t.toNat : Int) == 64) = false := by rw [beq_eq_false_iff_ne]; exact fun e => ht (UInt8.toNat_inj.1 (by show x.t.toNat = 64; omega))
    rw [if_neg ht]
    clear h64
    by_cases h2 : x.t = 194
    · rw [if_pos h2]
      obtain ⟨h4, h8⟩ := h194 h2
      have ht2 : ((x.t.toNat : Int) == 194) = true := by rw [h2]; rfl
      have HG : Hid (∀ k, k < (x.d.length - 4) / 8 → 1 < num2 x.d (4 + 8 * k + 2) → (∀ j, j < k → ¬ 1 < num2 x.d (4 + 8 * j + 2)) → (match (if wgOf x.d < x.d.length then some (4 + wgOf x.d + 2) else none : Option Nat) with | some a => (a : Int) - 4 | none => -1) = ((4 + 8 * k + 2 : Nat) : Int)) := fun k h1 h2 h3 => by
        have e : wgOf x.d = 4 + 8 * k := by unfold wgOf; rw [grp_at h1 h2 h3]; rfl
        rw [e, if_pos (by omega)]
        show ((4 + (4 + 8 * k) + 2 : Nat) : Int) - 4 = _
        omega
      have HE : Hid ((∀ j, j < (x.d.length - 4) / 8 → ¬ 1 < num2 x.d (4 + 8 * j + 2)) → (match (if wgOf x.d < x.d.length then some (4 + wgOf x.d + 2) else none : Option Nat) with | some a => (a : Int) - 4 | none => -1) = -1) := fun h => by
        have e : wgOf x.d = 4 + 8 * ((x.d.length - 4) / 8) := by unfold wgOf; rw [grp_none h]; rfl
        rw [e, if_neg (by omega)]
      generalize (match (if wgOf x.d < x.d.length then some (4 + wgOf x.d + 2) else none : Option Nat) with | some a => (a : Int) - 4 | none => -1) = res at *
      have hG : x.d.length = 4 + 8 * ((x.d.length - 4) / 8) := by omega
      generalize (x.d.length - 4) / 8 = G at *
      have HL := Lib.hid hG
      have HA := Lib.hid h
      clear hG h h4 h8 h194 h2 ht
      go_enter Tryz.func91, Tryz.ntmps91
      go_wp2_with fail
      go_loopw [5] (fun i wr => ∃ k : Nat, k ≤ G ∧ i = .int .i64 ((4 + 8 * k + 2 : Nat) : Int) ∧ Hid (∀ j, j < k → ¬ 1 < num2 x.d (4 + 8 * j + 2)) ∧ Below w.heap.size w wr) (fun i _ => x.d.length + 8 - (intOf i).toNat)
      case atStart => exact ⟨0, Nat.zero_le _, rfl, fun j hj => by omega, Below.refl _ _⟩
      case round =>
        obtain ⟨k, hk, rfl, hno, hbel⟩ := hrel
        by_cases hlt : k < G
        · have hl := HL.out
          have hN := rnumber12 A c x.d (4 + 8 * k + 2) (by omega) (by omega) hs wr ((HA.out.below hbel).more hbel.size)
          have e1 : ((4 + 8 * k + 2 : Nat) : Int) < (x.d.length : Int) := by omega
          have HR := Lib.hid (fun h => HG.out k hlt h hno.out)
          have HM : Hid (x.d.length + 8 - (4 + 8 * (k + 1) + 2) < x.d.length + 8 - (4 + 8 * k + 2)) := by unfold Hid; omega
          have HB : Hid (4 + 8 * k + 2 < 2000000) := by unfold Hid; omega
          have HNX : Hid (¬ 1 < num2 x.d (4 + 8 * k + 2) → ∀ j, j < k + 1 → ¬ 1 < num2 x.d (4 + 8 * j + 2)) := fun h j hj => by
            by_cases hjk : j = k
            · subst hjk; exact h
            · exact hno.out j (by omega)
          have HAT : Hid (4 + 8 * (k + 1) + 2 = 4 + 8 * k + 2 + 8) := by unfold Hid; omega
          generalize hat : 4 + 8 * k + 2 = at_ at *
          have hatl := HB.out
          generalize num2 x.d at_ = n at *
          clear hl hat
          go_wp2_with fail
          refine hN.mono ?_
          rintro e w1 ⟨rfl, b1⟩
          have hb1 := hbel.trans (b1.mono hbel.size)
          clear hN
          by_cases h1 : 1 < n
          · have q1 : (1 : Int) < (n : Int) := by omega
            have HRR := Lib.hid (HR.out h1)
            clear h1
            go_wp2_with fail
            try rw [Exit.noGoto_ret]
            go_ret
            exact ⟨by rw [HRR.out]; rfl, hb1⟩
          · have HN2 := Lib.hid (HNX.out h1)
            have q1 : ¬ (1 : Int) < (n : Int) := by omega
            clear h1 HNX HR
            go_wp2_with fail
            go_roundw
            case rel => exact ⟨k + 1, by omega, by rw [HAT.out]; go_num, HN2, hb1⟩
            case measure => simp [intOf]; omega
        · obtain rfl : k = G := by omega
          have hl := HL.out
          have e1 : ¬ ((4 + 8 * k + 2 : Nat) : Int) < (x.d.length : Int) := by omega
          have HRR := Lib.hid (HE.out hno.out)
          generalize 4 + 8 * k + 2 = at_ at *
          clear hl
          go_wp2_with fail
          try rw [Exit.noGoto_ret]
          go_ret
          exact ⟨by rw [HRR.out]; rfl, hbel⟩
    · rw [if_neg h2]
      have ht2 : ((x.t.toNat : Int) == 194) = false := by rw [beq_eq_false_iff_ne]; exact fun e => h2 (UInt8.toNat_inj.1 (by show x.t.toNat = 194; omega))
      clear h194 h2 ht
      go_enter Tryz.func91, Tryz.ntmps91
      go_wp2_with fail
      go_loopw [5] (fun i wr => i = .int .i64 6 ∧ Below w.heap.size w wr) (fun _ _ => 0)
      case atStart => exact ⟨rfl, Below.refl _ _⟩
      case round =>
        obtain ⟨rfl, hbel⟩ := hrel
        go_wp2_with fail
        try rw [Exit.noGoto_ret]
        go_ret
        exact ⟨rfl, hbel⟩
end Go.Proofs.YtmohbkniekeafaaGreatDoor





namespace Go.Proofs.YtmohbkniekeafaaGreatDoor
open Go.RowKit

set_option linter.unusedSimpArgs false
set_option maxRecDepth 100000 in
set_option maxHeartbeats 8000000 in
theorem rwanted12 (f : Kd) (hki : 0 ≤ f.ki ∧ f.ki ≤ 6) (ks : List Nd) (hl : ks.length ≤ 1000000000) (K : Option Addr) (k : Nat) (w : World) (h : Nodes w w.heap.size K ks) :
    Calls Tryz.prog 89 #[f.val, .slice K ks.length k] w fun e w' => e = .returned (.bool (!kidP f.ki ks)) ∧ Below w.heap.size w w' := by
  obtain ⟨ty, nm, ms, lo, hi, un, ki⟩ := f
  unfold Kd.val
  simp only [] at hki ⊢
  have hW := Whole.new w 130 #[bv ty, .string nm, bv ms, .int .i64 lo, .int .i64 hi, .int .i64 un, .int .i64 ki]
  have c6 := hW.cell 6
  have hb : Below w.heap.size w (w.alloc (.cells #[bv ty, .string nm, bv ms, .int .i64 lo, .int .i64 hi, .int .i64 un, .int .i64 ki] 130)) := (Below.refl _ _).alloc (Nat.le_refl _) _
  simp only [List.getElem?_toArray, List.getElem?_cons_zero, List.getElem?_cons_succ] at c6
  have h1 := h.on hb
  clear hW h
  have hkk : ki = 0 ∨ ki = 1 ∨ ki = 2 ∨ ki = 3 ∨ ki = 4 ∨ ki = 5 ∨ ki = 6 := by omega
  clear hki
  by_cases hx : 0 < ks.length
  · obtain ⟨ad, A', c', K', k', n, hK, hb', hn, h0, _, _, _⟩ := h1.at_ hx
    have HB1 := Lib.hid (show begB [1] ks = decide (n.t ∈ ([1] : List UInt16)) by
      have := hn.out
      cases hks : ks with
      | nil => rw [hks] at hx; simp at hx
      | cons m ms => rw [hks] at this; simp at this; subst this; rfl)
    have HB2 := Lib.hid (show begB [5, 6] ks = decide (n.t ∈ ([5, 6] : List UInt16)) by
      have := hn.out
      cases hks : ks with
      | nil => rw [hks] at hx; simp at hx
      | cons m ms => rw [hks] at this; simp at this; subst this; rfl)
    have h0' : (w.alloc (.cells #[bv ty, .string nm, bv ms, .int .i64 lo, .int .i64 hi, .int .i64 un, .int .i64 ki] 130)).cell? ad = some (hv n.t) := by simpa [Addr.add] using h0
    have hx' : (0 : Int) < (ks.length : Int) := by omega
    have HPD : Hid (∀ i, kidP i ks = (decide ((ks.length : Int) < (kins i).2.1) || (decide ((kins i).2.2 < (ks.length : Int)) || ((decide (i = 1) && !begB [1] ks) || (decide (i = 6) && !begB [5, 6] ks))))) := fun _ => rfl
    clear h0 hn hb' h1
    generalize n.t = t at *
    generalize begB [1] ks = g1 at *
    generalize begB [5, 6] ks = g2 at *
    generalize HLL : ks.length = L at *
    subst hK
    rcases hkk with rfl | rfl | rfl | rfl | rfl | rfl | rfl
    · skip
      have e0 : ((L : Int) == 0) = false := (by rw [beq_eq_false_iff_ne]; omega)
      have HP : Hid ((!kidP 0 ks) = false) := by
        unfold Hid
        rw [HPD.out, show kins 0 = (0, 0, 0) from rfl]
        have g1o := HB1.out
        have g2o := HB2.out
        subst g1o
        subst g2o
        have ht1 := @UInt16.toNat_inj t 1
        have ht5 := @UInt16.toNat_inj t 5
        have ht6 := @UInt16.toNat_inj t 6
        simp at *
        first | done | omega | (simp_all; done) | (simp_all; omega)
      clear HPD HB1 HB2
      generalize kidP 0 ks = res at *
      clear hl hx
      go_enter Tryz.func89, Tryz.ntmps89
      go_wp2_with fail
      go_ret
      exact ⟨ret_bool HP.out.symm, hb⟩
    · skip
      by_cases q : L = 1
      · skip
        by_cases r : t.toNat = 1
        · skip
          have e1 : ((L : Int) == 1) = true := (by rw [beq_iff_eq]; omega)
          have t1 : ((t.toNat : Int) == 1) = true := (by rw [beq_iff_eq]; omega)
          have HP : Hid ((!kidP 1 ks) = true) := by
            unfold Hid
            rw [HPD.out, show kins 1 = (1, 1, 1) from rfl]
            have g1o := HB1.out
            have g2o := HB2.out
            subst g1o
            subst g2o
            have ht1 := @UInt16.toNat_inj t 1
            have ht5 := @UInt16.toNat_inj t 5
            have ht6 := @UInt16.toNat_inj t 6
            simp at *
            first | done | omega | (simp_all; done) | (simp_all; omega)
          clear HPD HB1 HB2
          generalize kidP 1 ks = res at *
          clear hl hx
          go_enter Tryz.func89, Tryz.ntmps89
          go_wp2_with fail
          go_ret
          exact ⟨ret_bool HP.out.symm, hb⟩
        · skip
          have e1 : ((L : Int) == 1) = true := (by rw [beq_iff_eq]; omega)
          have t1 : ((t.toNat : Int) == 1) = false := (by rw [beq_eq_false_iff_ne]; omega)
          have HP : Hid ((!kidP 1 ks) = false) := by
            unfold Hid
            rw [HPD.out, show kins 1 = (1, 1, 1) from rfl]
            have g1o := HB1.out
            have g2o := HB2.out
            subst g1o
            subst g2o
            have ht1 := @UInt16.toNat_inj t 1
            have ht5 := @UInt16.toNat_inj t 5
            have ht6 := @UInt16.toNat_inj t 6
            simp at *
            first | done | omega | (simp_all; done) | (simp_all; omega)
          clear HPD HB1 HB2
          generalize kidP 1 ks = res at *
          clear hl hx
          go_enter Tryz.func89, Tryz.ntmps89
          go_wp2_with fail
          go_ret
          exact ⟨ret_bool HP.out.symm, hb⟩
      · skip
        have e1 : ((L : Int) == 1) = false := (by rw [beq_eq_false_iff_ne]; omega)
        have HP : Hid ((!kidP 1 ks) = false) := by
          unfold Hid
          rw [HPD.out, show kins 1 = (1, 1, 1) from rfl]
          have g1o := HB1.out
          have g2o := HB2.out
          subst g1o
          subst g2o
          have ht1 := @UInt16.toNat_inj t 1
          have ht5 := @UInt16.toNat_inj t 5
          have ht6 := @UInt16.toNat_inj t 6
          simp at *
          first | done | omega | (simp_all; done) | (simp_all; omega)
        clear HPD HB1 HB2
        generalize kidP 1 ks = res at *
        clear hl hx
        go_enter Tryz.func89, Tryz.ntmps89
        go_wp2_with fail
        go_ret
        exact ⟨ret_bool HP.out.symm, hb⟩
    · skip
      by_cases q : L ≤ 16384
      · skip
        have e1 : (L : Int) ≤ 16384 := by omega
        have HP : Hid ((!kidP 2 ks) = true) := by
          unfold Hid
          rw [HPD.out, show kins 2 = (1, 0, 16384) from rfl]
          have g1o := HB1.out
          have g2o := HB2.out
          subst g1o
          subst g2o
          have ht1 := @UInt16.toNat_inj t 1
          have ht5 := @UInt16.toNat_inj t 5
          have ht6 := @UInt16.toNat_inj t 6
          simp at *
          first | done | omega | (simp_all; done) | (simp_all; omega)
        clear HPD HB1 HB2
        generalize kidP 2 ks = res at *
        clear hl hx
        go_enter Tryz.func89, Tryz.ntmps89
        go_wp2_with fail
        go_ret
        exact ⟨ret_bool HP.out.symm, hb⟩
      · skip
        have e1 : ¬ (L : Int) ≤ 16384 := by omega
        have HP : Hid ((!kidP 2 ks) = false) := by
          unfold Hid
          rw [HPD.out, show kins 2 = (1, 0, 16384) from rfl]
          have g1o := HB1.out
          have g2o := HB2.out
          subst g1o
          subst g2o
          have ht1 := @UInt16.toNat_inj t 1
          have ht5 := @UInt16.toNat_inj t 5
          have ht6 := @UInt16.toNat_inj t 6
          simp at *
          first | done | omega | (simp_all; done) | (simp_all; omega)
        clear HPD HB1 HB2
        generalize kidP 2 ks = res at *
        clear hl hx
        go_enter Tryz.func89, Tryz.ntmps89
        go_wp2_with fail
        go_ret
        exact ⟨ret_bool HP.out.symm, hb⟩
    · skip
      by_cases q : L ≤ 16384
      · skip
        have e1 : (L : Int) ≤ 16384 := by omega
        have HP : Hid ((!kidP 3 ks) = true) := by
          unfold Hid
          rw [HPD.out, show kins 3 = (2, 0, 16384) from rfl]
          have g1o := HB1.out
          have g2o := HB2.out
          subst g1o
          subst g2o
          have ht1 := @UInt16.toNat_inj t 1
          have ht5 := @UInt16.toNat_inj t 5
          have ht6 := @UInt16.toNat_inj t 6
          simp at *
          first | done | omega | (simp_all; done) | (simp_all; omega)
        clear HPD HB1 HB2
        generalize kidP 3 ks = res at *
        clear hl hx
        go_enter Tryz.func89, Tryz.ntmps89
        go_wp2_with fail
        go_ret
        exact ⟨ret_bool HP.out.symm, hb⟩
      · skip
        have e1 : ¬ (L : Int) ≤ 16384 := by omega
        have HP : Hid ((!kidP 3 ks) = false) := by
          unfold Hid
          rw [HPD.out, show kins 3 = (2, 0, 16384) from rfl]
          have g1o := HB1.out
          have g2o := HB2.out
          subst g1o
          subst g2o
          have ht1 := @UInt16.toNat_inj t 1
          have ht5 := @UInt16.toNat_inj t 5
          have ht6 := @UInt16.toNat_inj t 6
          simp at *
          first | done | omega | (simp_all; done) | (simp_all; omega)
        clear HPD HB1 HB2
        generalize kidP 3 ks = res at *
        clear hl hx
        go_enter Tryz.func89, Tryz.ntmps89
        go_wp2_with fail
        go_ret
        exact ⟨ret_bool HP.out.symm, hb⟩
    · skip
      by_cases q : L ≤ 16384
      · skip
        have e0 : (1 : Int) ≤ (L : Int) := by omega
        have e1 : (L : Int) ≤ 16384 := by omega
        have HP : Hid ((!kidP 4 ks) = true) := by
          unfold Hid
          rw [HPD.out, show kins 4 = (2, 1, 16384) from rfl]
          have g1o := HB1.out
          have g2o := HB2.out
          subst g1o
          subst g2o
          have ht1 := @UInt16.toNat_inj t 1
          have ht5 := @UInt16.toNat_inj t 5
          have ht6 := @UInt16.toNat_inj t 6
          simp at *
          first | done | omega | (simp_all; done) | (simp_all; omega)
        clear HPD HB1 HB2
        generalize kidP 4 ks = res at *
        clear hl hx
        go_enter Tryz.func89, Tryz.ntmps89
        go_wp2_with fail
        go_ret
        exact ⟨ret_bool HP.out.symm, hb⟩
      · skip
        have e0 : (1 : Int) ≤ (L : Int) := by omega
        have e1 : ¬ (L : Int) ≤ 16384 := by omega
        have HP : Hid ((!kidP 4 ks) = false) := by
          unfold Hid
          rw [HPD.out, show kins 4 = (2, 1, 16384) from rfl]
          have g1o := HB1.out
          have g2o := HB2.out
          subst g1o
          subst g2o
          have ht1 := @UInt16.toNat_inj t 1
          have ht5 := @UInt16.toNat_inj t 5
          have ht6 := @UInt16.toNat_inj t 6
          simp at *
          first | done | omega | (simp_all; done) | (simp_all; omega)
        clear HPD HB1 HB2
        generalize kidP 4 ks = res at *
        clear hl hx
        go_enter Tryz.func89, Tryz.ntmps89
        go_wp2_with fail
        go_ret
        exact ⟨ret_bool HP.out.symm, hb⟩
    · skip
      by_cases q : L = 1
      · skip
        have e1 : ((L : Int) == 1) = true := (by rw [beq_iff_eq]; omega)
        have HP : Hid ((!kidP 5 ks) = true) := by
          unfold Hid
          rw [HPD.out, show kins 5 = (1, 1, 2) from rfl]
          have g1o := HB1.out
          have g2o := HB2.out
          subst g1o
          subst g2o
          have ht1 := @UInt16.toNat_inj t 1
          have ht5 := @UInt16.toNat_inj t 5
          have ht6 := @UInt16.toNat_inj t 6
          simp at *
          first | done | omega | (simp_all; done) | (simp_all; omega)
        clear HPD HB1 HB2
        generalize kidP 5 ks = res at *
        clear hl hx
        go_enter Tryz.func89, Tryz.ntmps89
        go_wp2_with fail
        go_ret
        exact ⟨ret_bool HP.out.symm, hb⟩
      · skip
        by_cases r : L = 2
        · skip
          have e1 : ((L : Int) == 1) = false := (by rw [beq_eq_false_iff_ne]; omega)
          have e2 : ((L : Int) == 2) = true := (by rw [beq_iff_eq]; omega)
          have HP : Hid ((!kidP 5 ks) = true) := by
            unfold Hid
            rw [HPD.out, show kins 5 = (1, 1, 2) from rfl]
            have g1o := HB1.out
            have g2o := HB2.out
            subst g1o
            subst g2o
            have ht1 := @UInt16.toNat_inj t 1
            have ht5 := @UInt16.toNat_inj t 5
            have ht6 := @UInt16.toNat_inj t 6
            simp at *
            first | done | omega | (simp_all; done) | (simp_all; omega)
          clear HPD HB1 HB2
          generalize kidP 5 ks = res at *
          clear hl hx
          go_enter Tryz.func89, Tryz.ntmps89
          go_wp2_with fail
          go_ret
          exact ⟨ret_bool HP.out.symm, hb⟩
        · skip
          have e1 : ((L : Int) == 1) = false := (by rw [beq_eq_false_iff_ne]; omega)
          have e2 : ((L : Int) == 2) = false := (by rw [beq_eq_false_iff_ne]; omega)
          have HP : Hid ((!kidP 5 ks) = false) := by
            unfold Hid
            rw [HPD.out, show kins 5 = (1, 1, 2) from rfl]
            have g1o := HB1.out
            have g2o := HB2.out
            subst g1o
            subst g2o
            have ht1 := @UInt16.toNat_inj t 1
            have ht5 := @UInt16.toNat_inj t 5
            have ht6 := @UInt16.toNat_inj t 6
            simp at *
            first | done | omega | (simp_all; done) | (simp_all; omega)
          clear HPD HB1 HB2
          generalize kidP 5 ks = res at *
          clear hl hx
          go_enter Tryz.func89, Tryz.ntmps89
          go_wp2_with fail
          go_ret
          exact ⟨ret_bool HP.out.symm, hb⟩
    · skip
      by_cases q : 2 ≤ L
      · skip
        by_cases r : L ≤ 16384
        · skip
          by_cases s : t.toNat = 5
          · skip
            have e0 : (2 : Int) ≤ (L : Int) := by omega
            have e1 : (L : Int) ≤ 16384 := by omega
            have t1 : ((t.toNat : Int) == 5) = true := (by rw [beq_iff_eq]; omega)
            have HP : Hid ((!kidP 6 ks) = true) := by
              unfold Hid
              rw [HPD.out, show kins 6 = (1, 2, 16384) from rfl]
              have g1o := HB1.out
              have g2o := HB2.out
              subst g1o
              subst g2o
              have ht1 := @UInt16.toNat_inj t 1
              have ht5 := @UInt16.toNat_inj t 5
              have ht6 := @UInt16.toNat_inj t 6
              simp at *
              first | done | omega | (simp_all; done) | (simp_all; omega)
            clear HPD HB1 HB2
            generalize kidP 6 ks = res at *
            clear hl hx
            go_enter Tryz.func89, Tryz.ntmps89
            go_wp2_with fail
            go_ret
            exact ⟨ret_bool HP.out.symm, hb⟩
          · skip
            by_cases u : t.toNat = 6
            · skip
              have e0 : (2 : Int) ≤ (L : Int) := by omega
              have e1 : (L : Int) ≤ 16384 := by omega
              have t1 : ((t.toNat : Int) == 5) = false := (by rw [beq_eq_false_iff_ne]; omega)
              have t2 : ((t.toNat : Int) == 6) = true := (by rw [beq_iff_eq]; omega)
              have HP : Hid ((!kidP 6 ks) = true) := by
                unfold Hid
                rw [HPD.out, show kins 6 = (1, 2, 16384) from rfl]
                have g1o := HB1.out
                have g2o := HB2.out
                subst g1o
                subst g2o
                have ht1 := @UInt16.toNat_inj t 1
                have ht5 := @UInt16.toNat_inj t 5
                have ht6 := @UInt16.toNat_inj t 6
                simp at *
                first | done | omega | (simp_all; done) | (simp_all; omega)
              clear HPD HB1 HB2
              generalize kidP 6 ks = res at *
              clear hl hx
              go_enter Tryz.func89, Tryz.ntmps89
              go_wp2_with fail
              go_ret
              exact ⟨ret_bool HP.out.symm, hb⟩
            · skip
              have e0 : (2 : Int) ≤ (L : Int) := by omega
              have e1 : (L : Int) ≤ 16384 := by omega
              have t1 : ((t.toNat : Int) == 5) = false := (by rw [beq_eq_false_iff_ne]; omega)
              have t2 : ((t.toNat : Int) == 6) = false := (by rw [beq_eq_false_iff_ne]; omega)
              have HP : Hid ((!kidP 6 ks) = false) := by
                unfold Hid
                rw [HPD.out, show kins 6 = (1, 2, 16384) from rfl]
                have g1o := HB1.out
                have g2o := HB2.out
                subst g1o
                subst g2o
                have ht1 := @UInt16.toNat_inj t 1
                have ht5 := @UInt16.toNat_inj t 5
                have ht6 := @UInt16.toNat_inj t 6
                simp at *
                first | done | omega | (simp_all; done) | (simp_all; omega)
              clear HPD HB1 HB2
              generalize kidP 6 ks = res at *
              clear hl hx
              go_enter Tryz.func89, Tryz.ntmps89
              go_wp2_with fail
              go_ret
              exact ⟨ret_bool HP.out.symm, hb⟩
        · skip
          have e0 : (2 : Int) ≤ (L : Int) := by omega
          have e1 : ¬ (L : Int) ≤ 16384 := by omega
          have HP : Hid ((!kidP 6 ks) = false) := by
            unfold Hid
            rw [HPD.out, show kins 6 = (1, 2, 16384) from rfl]
            have g1o := HB1.out
            have g2o := HB2.out
            subst g1o
            subst g2o
            have ht1 := @UInt16.toNat_inj t 1
            have ht5 := @UInt16.toNat_inj t 5
            have ht6 := @UInt16.toNat_inj t 6
            simp at *
            first | done | omega | (simp_all; done) | (simp_all; omega)
          clear HPD HB1 HB2
          generalize kidP 6 ks = res at *
          clear hl hx
          go_enter Tryz.func89, Tryz.ntmps89
          go_wp2_with fail
          go_ret
          exact ⟨ret_bool HP.out.symm, hb⟩
      · skip
        have e0 : ¬ (2 : Int) ≤ (L : Int) := by omega
        have HP : Hid ((!kidP 6 ks) = false) := by
          unfold Hid
          rw [HPD.out, show kins 6 = (1, 2, 16384) from rfl]
          have g1o := HB1.out
          have g2o := HB2.out
          subst g1o
          subst g2o
          have ht1 := @UInt16.toNat_inj t 1
          have ht5 := @UInt16.toNat_inj t 5
          have ht6 := @UInt16.toNat_inj t 6
          simp at *
          first | done | omega | (simp_all; done) | (simp_all; omega)
        clear HPD HB1 HB2
        generalize kidP 6 ks = res at *
        clear hl hx
        go_enter Tryz.func89, Tryz.ntmps89
        go_wp2_with fail
        go_ret
        exact ⟨ret_bool HP.out.symm, hb⟩
  · have hks : ks = [] := by
      cases ks with
      | nil => rfl
      | cons a b => simp at hx
    subst hks
    clear hx h1 hl
    simp only [List.length_nil] at *
    rcases hkk with rfl | rfl | rfl | rfl | rfl | rfl | rfl
    · skip
      have HP : Hid ((!kidP 0 ([] : List Nd)) = true) := by unfold Hid; decide
      generalize kidP 0 ([] : List Nd) = res at *
      go_enter Tryz.func89, Tryz.ntmps89
      go_wp2_with fail
      go_ret
      exact ⟨ret_bool HP.out.symm, hb⟩
    · skip
      have HP : Hid ((!kidP 1 ([] : List Nd)) = false) := by unfold Hid; decide
      generalize kidP 1 ([] : List Nd) = res at *
      go_enter Tryz.func89, Tryz.ntmps89
      go_wp2_with fail
      go_ret
      exact ⟨ret_bool HP.out.symm, hb⟩
    · skip
      have HP : Hid ((!kidP 2 ([] : List Nd)) = true) := by unfold Hid; decide
      generalize kidP 2 ([] : List Nd) = res at *
      go_enter Tryz.func89, Tryz.ntmps89
      go_wp2_with fail
      go_ret
      exact ⟨ret_bool HP.out.symm, hb⟩
    · skip
      have HP : Hid ((!kidP 3 ([] : List Nd)) = true) := by unfold Hid; decide
      generalize kidP 3 ([] : List Nd) = res at *
      go_enter Tryz.func89, Tryz.ntmps89
      go_wp2_with fail
      go_ret
      exact ⟨ret_bool HP.out.symm, hb⟩
    · skip
      have HP : Hid ((!kidP 4 ([] : List Nd)) = false) := by unfold Hid; decide
      generalize kidP 4 ([] : List Nd) = res at *
      go_enter Tryz.func89, Tryz.ntmps89
      go_wp2_with fail
      go_ret
      exact ⟨ret_bool HP.out.symm, hb⟩
    · skip
      have HP : Hid ((!kidP 5 ([] : List Nd)) = false) := by unfold Hid; decide
      generalize kidP 5 ([] : List Nd) = res at *
      go_enter Tryz.func89, Tryz.ntmps89
      go_wp2_with fail
      go_ret
      exact ⟨ret_bool HP.out.symm, hb⟩
    · skip
      have HP : Hid ((!kidP 6 ([] : List Nd)) = false) := by unfold Hid; decide
      generalize kidP 6 ([] : List Nd) = res at *
      go_enter Tryz.func89, Tryz.ntmps89
      go_wp2_with fail
      go_ret
      exact ⟨ret_bool HP.out.symm, hb⟩
end Go.Proofs.YtmohbkniekeafaaGreatDoor


