/- Layer 12: the reference's wanted (written by tools/gen_chunk_q.py). It writes nothing that was there. -/
import Derived.Test.YteknmgmdmjmnmaaGreatDoorUCO
import Derived.Test.YteknmgmdmjmnmaaGreatDoorUCE
import Derived.BigGuard



namespace Go.Proofs.YteknmgmdmjmnmaaGreatDoor
open Go.RowKit

set_option linter.unusedSimpArgs false
set_option maxRecDepth 100000 in
set_option maxHeartbeats 8000000 in
theorem rwanted12 (f : Kd) (hki : 0 ≤ f.ki ∧ f.ki ≤ 6) (ks : List Nd) (hl : ks.length ≤ 1000000000) (K : Option Addr) (k : Nat) (w : World) (h : Nodes w w.heap.size K ks) :
    Calls Tryz.prog 116 #[f.val, .slice K ks.length k] w fun e w' => e = .returned (.bool (!kidP f.ki ks)) ∧ Below w.heap.size w w' := by
  obtain ⟨ty, nm, ms, lo, hi, un, ki⟩ := f
  unfold Kd.val
  simp only [] at hki ⊢
  have hW := Whole.new w 177 #[bv ty, .string nm, bv ms, .int .i64 lo, .int .i64 hi, .int .i64 un, .int .i64 ki]
  have c6 := hW.cell 6
  have hb : Below w.heap.size w (w.alloc (.cells #[bv ty, .string nm, bv ms, .int .i64 lo, .int .i64 hi, .int .i64 un, .int .i64 ki] 177)) := (Below.refl _ _).alloc (Nat.le_refl _) _
  simp only [List.getElem?_toArray, List.getElem?_cons_zero, List.getElem?_cons_succ] at c6
  have h1 := h.on hb
  clear hW h
  have hkk : ki = 0 ∨ ki = 1 ∨ ki = 2 ∨ ki = 3 ∨ ki = 4 ∨ ki = 5 ∨ ki = 6 := by omega
  clear hki
  by_cases hx : 0 < ks.length
  · obtain ⟨ad, A', c', K', k', n, hK, hb', hn, h0, _, _, _⟩ := h1.at_ hx
    have HB1 := Lib.hid (show begB [1] ks = decide (n.t ∈ ([1] : List UInt16)) by
      have := hn.out
      cases hks : ks with
      | nil => rw [hks] at hx; simp at hx
      | cons m ms => rw [hks] at this; simp at this; subst this; rfl)
    have HB2 := Lib.hid (show begB [5, 6] ks = decide (n.t ∈ ([5, 6] : List UInt16)) by
      have := hn.out
      cases hks : ks with
      | nil => rw [hks] at hx; simp at hx
      | cons m ms => rw [hks] at this; simp at this; subst this; rfl)
    have h0' : (w.alloc (.cells #[bv ty, .string nm, bv ms, .int .i64 lo, .int .i64 hi, .int .i64 un, .int .i64 ki] 177)).cell? ad = some (hv n.t) := by simpa [Addr.add] using h0
    have hx' : (0 : Int) < (ks.length : Int) := by omega
    have HPD : Hid (∀ i, kidP i ks = (decide ((ks.length : Int) < (kins i).2.1) || (decide ((kins i).2.2 < (ks.length : Int)) || ((decide (i = 1) && !begB [1] ks) || (decide (i = 6) && !begB [5, 6] ks))))) := fun _ => rfl
    clear h0 hn hb' h1
    generalize n.t = t at *
    generalize begB [1] ks = g1 at *
    generalize begB [5, 6] ks = g2 at *
    generalize HLL : ks.length = L at *
    subst hK
    rcases hkk with rfl | rfl | rfl | rfl | rfl | rfl | rfl
    · skip
      have e0 : ((L : Int) == 0) = false := (by rw [beq_eq_false_iff_ne]; omega)
      have HP : Hid ((!kidP 0 ks) = false) := by
        unfold Hid
        rw [HPD.out, show kins 0 = (0, 0, 0) from rfl]
        have g1o := HB1.out
        have g2o := HB2.out
        subst g1o
        subst g2o
        have ht1 := @UInt16.toNat_inj t 1
        have ht5 := @UInt16.toNat_inj t 5
        have ht6 := @UInt16.toNat_inj t 6
        simp at *
        first | done | omega | (simp_all; done) | (simp_all; omega)
      clear HPD HB1 HB2
      generalize kidP 0 ks = res at *
      clear hl hx
      go_enter Tryz.func116, Tryz.ntmps116
      go_wp2_with fail
      go_ret
      exact ⟨ret_bool HP.out.symm, hb⟩
    · skip
      by_cases q : L = 1
      · skip
        by_cases r : t.toNat = 1
        · skip
          have e1 : ((L : Int) == 1) = true := (by rw [beq_iff_eq]; omega)
          have t1 : ((t.toNat : Int) == 1) = true := (by rw [beq_iff_eq]; omega)
          have HP : Hid ((!kidP 1 ks) = true) := by
            unfold Hid
            rw [HPD.out, show kins 1 = (1, 1, 1) from rfl]
            have g1o := HB1.out
            have g2o := HB2.out
            subst g1o
            subst g2o
            have ht1 := @UInt16.toNat_inj t 1
            have ht5 := @UInt16.toNat_inj t 5
            have ht6 := @UInt16.toNat_inj t 6
            simp at *
            first | done | omega | (simp_all; done) | (simp_all; omega)
          clear HPD HB1 HB2
          generalize kidP 1 ks = res at *
          clear hl hx
          go_enter Tryz.func116, Tryz.ntmps116
          go_wp2_with fail
          go_ret
          exact ⟨ret_bool HP.out.symm, hb⟩
        · skip
          have e1 : ((L : Int) == 1) = true := (by rw [beq_iff_eq]; omega)
          have t1 : ((t.toNat : Int) == 1) = false := (by rw [beq_eq_false_iff_ne]; omega)
          have HP : Hid ((!kidP 1 ks) = false) := by
            unfold Hid
            rw [HPD.out, show kins 1 = (1, 1, 1) from rfl]
            have g1o := HB1.out
            have g2o := HB2.out
            subst g1o
            subst g2o
            have ht1 := @UInt16.toNat_inj t 1
            have ht5 := @UInt16.toNat_inj t 5
            have ht6 := @UInt16.toNat_inj t 6
            simp at *
            first | done | omega | (simp_all; done) | (simp_all; omega)
          clear HPD HB1 HB2
          generalize kidP 1 ks = res at *
          clear hl hx
          go_enter Tryz.func116, Tryz.ntmps116
          go_wp2_with fail
          go_ret
          exact ⟨ret_bool HP.out.symm, hb⟩
      · skip
        have e1 : ((L : Int) == 1) = false := (by rw [beq_eq_false_iff_ne]; omega)
        have HP : Hid ((!kidP 1 ks) = false) := by
          unfold Hid
          rw [HPD.out, show kins 1 = (1, 1, 1) from rfl]
          have g1o := HB1.out
          have g2o := HB2.out
          subst g1o
          subst g2o
          have ht1 := @UInt16.toNat_inj t 1
          have ht5 := @UInt16.toNat_inj t 5
          have ht6 := @UInt16.toNat_inj t 6
          simp at *
          first | done | omega | (simp_all; done) | (simp_all; omega)
        clear HPD HB1 HB2
        generalize kidP 1 ks = res at *
        clear hl hx
        go_enter Tryz.func116, Tryz.ntmps116
        go_wp2_with fail
        go_ret
        exact ⟨ret_bool HP.out.symm, hb⟩
    · skip
      by_cases q : L ≤ 16384
      · skip
        have e1 : (L : Int) ≤ 16384 := by omega
        have HP : Hid ((!kidP 2 ks) = true) := by
          unfold Hid
          rw [HPD.out, show kins 2 = (1, 0, 16384) from rfl]
          have g1o := HB1.out
          have g2o := HB2.out
          subst g1o
          subst g2o
          have ht1 := @UInt16.toNat_inj t 1
          have ht5 := @UInt16.toNat_inj t 5
          have ht6 := @UInt16.toNat_inj t 6
          simp at *
          first | done | omega | (simp_all; done) | (simp_all; omega)
        clear HPD HB1 HB2
        generalize kidP 2 ks = res at *
        clear hl hx
        go_enter Tryz.func116, Tryz.ntmps116
        go_wp2_with fail
        go_ret
        exact ⟨ret_bool HP.out.symm, hb⟩
      · skip
        have e1 : ¬ (L : Int) ≤ 16384 := by omega
        have HP : Hid ((!kidP 2 ks) = false) := by
          unfold Hid
          rw [HPD.out, show kins 2 = (1, 0, 16384) from rfl]
          have g1o := HB1.out
          have g2o := HB2.out
          subst g1o
          subst g2o
          have ht1 := @UInt16.toNat_inj t 1
          have ht5 := @UInt16.toNat_inj t 5
          have ht6 := @UInt16.toNat_inj t 6
          simp at *
          first | done | omega | (simp_all; done) | (simp_all; omega)
        clear HPD HB1 HB2
        generalize kidP 2 ks = res at *
        clear hl hx
        go_enter Tryz.func116, Tryz.ntmps116
        go_wp2_with fail
        go_ret
        exact ⟨ret_bool HP.out.symm, hb⟩
    · skip
      by_cases q : L ≤ 16384
      · skip
        have e1 : (L : Int) ≤ 16384 := by omega
        have HP : Hid ((!kidP 3 ks) = true) := by
          unfold Hid
          rw [HPD.out, show kins 3 = (2, 0, 16384) from rfl]
          have g1o := HB1.out
          have g2o := HB2.out
          subst g1o
          subst g2o
          have ht1 := @UInt16.toNat_inj t 1
          have ht5 := @UInt16.toNat_inj t 5
          have ht6 := @UInt16.toNat_inj t 6
          simp at *
          first | done | omega | (simp_all; done) | (simp_all; omega)
        clear HPD HB1 HB2
        generalize kidP 3 ks = res at *
        clear hl hx
        go_enter Tryz.func116, Tryz.ntmps116
        go_wp2_with fail
        go_ret
        exact ⟨ret_bool HP.out.symm, hb⟩
      · skip
        have e1 : ¬ (L : Int) ≤ 16384 := by omega
        have HP : Hid ((!kidP 3 ks) = false) := by
          unfold Hid
          rw [HPD.out, show kins 3 = (2, 0, 16384) from rfl]
          have g1o := HB1.out
          have g2o := HB2.out
          subst g1o
          subst g2o
          have ht1 := @UInt16.toNat_inj t 1
          have ht5 := @UInt16.toNat_inj t 5
          have ht6 := @UInt16.toNat_inj t 6
          simp at *
          first | done | omega | (simp_all; done) | (simp_all; omega)
        clear HPD HB1 HB2
        generalize kidP 3 ks = res at *
        clear hl hx
        go_enter Tryz.func116, Tryz.ntmps116
        go_wp2_with fail
        go_ret
        exact ⟨ret_bool HP.out.symm, hb⟩
    · skip
      by_cases q : L ≤ 16384
      · skip
        have e0 : (1 : Int) ≤ (L : Int) := by omega
        have e1 : (L : Int) ≤ 16384 := by omega
        have HP : Hid ((!kidP 4 ks) = true) := by
          unfold Hid
          rw [HPD.out, show kins 4 = (2, 1, 16384) from rfl]
          have g1o := HB1.out
          have g2o := HB2.out
          subst g1o
          subst g2o
          have ht1 := @UInt16.toNat_inj t 1
          have ht5 := @UInt16.toNat_inj t 5
          have ht6 := @UInt16.toNat_inj t 6
          simp at *
          first | done | omega | (simp_all; done) | (simp_all; omega)
        clear HPD HB1 HB2
        generalize kidP 4 ks = res at *
        clear hl hx
        go_enter Tryz.func116, Tryz.ntmps116
        go_wp2_with fail
        go_ret
        exact ⟨ret_bool HP.out.symm, hb⟩
      · skip
        have e0 : (1 : Int) ≤ (L : Int) := by omega
        have e1 : ¬ (L : Int) ≤ 16384 := by omega
        have HP : Hid ((!kidP 4 ks) = false) := by
          unfold Hid
          rw [HPD.out, show kins 4 = (2, 1, 16384) from rfl]
          have g1o := HB1.out
          have g2o := HB2.out
          subst g1o
          subst g2o
          have ht1 := @UInt16.toNat_inj t 1
          have ht5 := @UInt16.toNat_inj t 5
          have ht6 := @UInt16.toNat_inj t 6
          simp at *
          first | done | omega | (simp_all; done) | (simp_all; omega)
        clear HPD HB1 HB2
        generalize kidP 4 ks = res at *
        clear hl hx
        go_enter Tryz.func116, Tryz.ntmps116
        go_wp2_with fail
        go_ret
        exact ⟨ret_bool HP.out.symm, hb⟩
    · skip
      by_cases q : L = 1
      · skip
        have e1 : ((L : Int) == 1) = true := (by rw [beq_iff_eq]; omega)
        have HP : Hid ((!kidP 5 ks) = true) := by
          unfold Hid
          rw [HPD.out, show kins 5 = (1, 1, 2) from rfl]
          have g1o := HB1.out
          have g2o := HB2.out
          subst g1o
          subst g2o
          have ht1 := @UInt16.toNat_inj t 1
          have ht5 := @UInt16.toNat_inj t 5
          have ht6 := @UInt16.toNat_inj t 6
          simp at *
          first | done | omega | (simp_all; done) | (simp_all; omega)
        clear HPD HB1 HB2
        generalize kidP 5 ks = res at *
        clear hl hx
        go_enter Tryz.func116, Tryz.ntmps116
        go_wp2_with fail
        go_ret
        exact ⟨ret_bool HP.out.symm, hb⟩
      · skip
        by_cases r : L = 2
        · skip
          have e1 : ((L : Int) == 1) = false := (by rw [beq_eq_false_iff_ne]; omega)
          have e2 : ((L : Int) == 2) = true := (by rw [beq_iff_eq]; omega)
          have HP : Hid ((!kidP 5 ks) = true) := by
            unfold Hid
            rw [HPD.out, show kins 5 = (1, 1, 2) from rfl]
            have g1o := HB1.out
            have g2o := HB2.out
            subst g1o
            subst g2o
            have ht1 := @UInt16.toNat_inj t 1
            have ht5 := @UInt16.toNat_inj t 5
            have ht6 := @UInt16.toNat_inj t 6
            simp at *
            first | done | omega | (simp_all; done) | (simp_all; omega)
          clear HPD HB1 HB2
          generalize kidP 5 ks = res at *
          clear hl hx
          go_enter Tryz.func116, Tryz.ntmps116
          go_wp2_with fail
          go_ret
          exact ⟨ret_bool HP.out.symm, hb⟩
        · skip
          have e1 : ((L : Int) == 1) = false := (by rw [beq_eq_false_iff_ne]; omega)
          have e2 : ((L : Int) == 2) = false := (by rw [beq_eq_false_iff_ne]; omega)
          have HP : Hid ((!kidP 5 ks) = false) := by
            unfold Hid
            rw [HPD.out, show kins 5 = (1, 1, 2) from rfl]
            have g1o := HB1.out
            have g2o := HB2.out
            subst g1o
            subst g2o
            have ht1 := @UInt16.toNat_inj t 1
            have ht5 := @UInt16.toNat_inj t 5
            have ht6 := @UInt16.toNat_inj t 6
            simp at *
            first | done | omega | (simp_all; done) | (simp_all; omega)
          clear HPD HB1 HB2
          generalize kidP 5 ks = res at *
          clear hl hx
          go_enter Tryz.func116, Tryz.ntmps116
          go_wp2_with fail
          go_ret
          exact ⟨ret_bool HP.out.symm, hb⟩
    · skip
      by_cases q : 2 ≤ L
      · skip
        by_cases r : L ≤ 16384
        · skip
          by_cases s : t.toNat = 5
          · skip
            have e0 : (2 : Int) ≤ (L : Int) := by omega
            have e1 : (L : Int) ≤ 16384 := by omega
            have t1 : ((t.toNat : Int) == 5) = true := (by rw [beq_iff_eq]; omega)
            have HP : Hid ((!kidP 6 ks) = true) := by
              unfold Hid
              rw [HPD.out, show kins 6 = (1, 2, 16384) from rfl]
              have g1o := HB1.out
              have g2o := HB2.out
              subst g1o
              subst g2o
              have ht1 := @UInt16.toNat_inj t 1
              have ht5 := @UInt16.toNat_inj t 5
              have ht6 := @UInt16.toNat_inj t 6
              simp at *
              first | done | omega | (simp_all; done) | (simp_all; omega)
            clear HPD HB1 HB2
            generalize kidP 6 ks = res at *
            clear hl hx
            go_enter Tryz.func116, Tryz.ntmps116
            go_wp2_with fail
            go_ret
            exact ⟨ret_bool HP.out.symm, hb⟩
          · skip
            by_cases u : t.toNat = 6
            · skip
              have e0 : (2 : Int) ≤ (L : Int) := by omega
              have e1 : (L : Int) ≤ 16384 := by omega
              have t1 : ((t.toNat : Int) == 5) = false := (by rw [beq_eq_false_iff_ne]; omega)
              have t2 : ((t.toNat : Int) == 6) = true := (by rw [beq_iff_eq]; omega)
              have HP : Hid ((!kidP 6 ks) = true) := by
                unfold Hid
                rw [HPD.out, show kins 6 = (1, 2, 16384) from rfl]
                have g1o := HB1.out
                have g2o := HB2.out
                subst g1o
                subst g2o
                have ht1 := @UInt16.toNat_inj t 1
                have ht5 := @UInt16.toNat_inj t 5
                have ht6 := @UInt16.toNat_inj t 6
                simp at *
                first | done | omega | (simp_all; done) | (simp_all; omega)
              clear HPD HB1 HB2
              generalize kidP 6 ks = res at *
              clear hl hx
              go_enter Tryz.func116, Tryz.ntmps116
              go_wp2_with fail
              go_ret
              exact ⟨ret_bool HP.out.symm, hb⟩
            · skip
              have e0 : (2 : Int) ≤ (L : Int) := by omega
              have e1 : (L : Int) ≤ 16384 := by omega
              have t1 : ((t.toNat : Int) == 5) = false := (by rw [beq_eq_false_iff_ne]; omega)
              have t2 : ((t.toNat : Int) == 6) = false := (by rw [beq_eq_false_iff_ne]; omega)
              have HP : Hid ((!kidP 6 ks) = false) := by
                unfold Hid
                rw [HPD.out, show kins 6 = (1, 2, 16384) from rfl]
                have g1o := HB1.out
                have g2o := HB2.out
                subst g1o
                subst g2o
                have ht1 := @UInt16.toNat_inj t 1
                have ht5 := @UInt16.toNat_inj t 5
                have ht6 := @UInt16.toNat_inj t 6
                simp at *
                first | done | omega | (simp_all; done) | (simp_all; omega)
              clear HPD HB1 HB2
              generalize kidP 6 ks = res at *
              clear hl hx
              go_enter Tryz.func116, Tryz.ntmps116
              go_wp2_with fail
              go_ret
              exact ⟨ret_bool HP.out.symm, hb⟩
        · skip
          have e0 : (2 : Int) ≤ (L : Int) := by omega
          have e1 : ¬ (L : Int) ≤ 16384 := by omega
          have HP : Hid ((!kidP 6 ks) = false) := by
            unfold Hid
            rw [HPD.out, show kins 6 = (1, 2, 16384) from rfl]
            have g1o := HB1.out
            have g2o := HB2.out
            subst g1o
            subst g2o
            have ht1 := @UInt16.toNat_inj t 1
            have ht5 := @UInt16.toNat_inj t 5
            have ht6 := @UInt16.toNat_inj t 6
            simp at *
            first | done | omega | (simp_all; done) | (simp_all; omega)
          clear HPD HB1 HB2
          generalize kidP 6 ks = res at *
          clear hl hx
          go_enter Tryz.func116, Tryz.ntmps116
          go_wp2_with fail
          go_ret
          exact ⟨ret_bool HP.out.symm, hb⟩
      · skip
        have e0 : ¬ (2 : Int) ≤ (L : Int) := by omega
        have HP : Hid ((!kidP 6 ks) = false) := by
          unfold Hid
          rw [HPD.out, show kins 6 = (1, 2, 16384) from rfl]
          have g1o := HB1.out
          have g2o := HB2.out
          subst g1o
          subst g2o
          have ht1 := @UInt16.toNat_inj t 1
          have ht5 := @UInt16.toNat_inj t 5
          have ht6 := @UInt16.toNat_inj t 6
          simp at *
          first | done | omega | (simp_all; done) | (simp_all; omega)
        clear HPD HB1 HB2
        generalize kidP 6 ks = res at *
        clear hl hx
        go_enter Tryz.func116, Tryz.ntmps116
        go_wp2_with fail
        go_ret
        exact ⟨ret_bool HP.out.symm, hb⟩
  · have hks : ks = [] := by
      cases ks with
      | nil => rfl
      | cons a b => simp at hx
    subst hks
    clear hx h1 hl
    simp only [List.length_nil] at *
    rcases hkk with rfl | rfl | rfl | rfl | rfl | rfl | rfl
    · skip
      have HP : Hid ((!kidP 0 ([] : List Nd)) = true) := by unfold Hid; decide
      generalize kidP 0 ([] : List Nd) = res at *
      go_enter Tryz.func116, Tryz.ntmps116
      go_wp2_with fail
      go_ret
      exact ⟨ret_bool HP.out.symm, hb⟩
    · skip
      have HP : Hid ((!kidP 1 ([] : List Nd)) = false) := by unfold Hid; decide
      generalize kidP 1 ([] : List Nd) = res at *
      go_enter Tryz.func116, Tryz.ntmps116
      go_wp2_with fail
      go_ret
      exact ⟨ret_bool HP.out.symm, hb⟩
    · skip
      have HP : Hid ((!kidP 2 ([] : List Nd)) = true) := by unfold Hid; decide
      generalize kidP 2 ([] : List Nd) = res at *
      go_enter Tryz.func116, Tryz.ntmps116
      go_wp2_with fail
      go_ret
      exact ⟨ret_bool HP.out.symm, hb⟩
    · skip
      have HP : Hid ((!kidP 3 ([] : List Nd)) = true) := by unfold Hid; decide
      generalize kidP 3 ([] : List Nd) = res at *
      go_enter Tryz.func116, Tryz.ntmps116
      go_wp2_with fail
      go_ret
      exact ⟨ret_bool HP.out.symm, hb⟩
    · skip
      have HP : Hid ((!kidP 4 ([] : List Nd)) = false) := by unfold Hid; decide
      generalize kidP 4 ([] : List Nd) = res at *
      go_enter Tryz.func116, Tryz.ntmps116
      go_wp2_with fail
      go_ret
      exact ⟨ret_bool HP.out.symm, hb⟩
    · skip
      have HP : Hid ((!kidP 5 ([] : List Nd)) = false) := by unfold Hid; decide
      generalize kidP 5 ([] : List Nd) = res at *
      go_enter Tryz.func116, Tryz.ntmps116
      go_wp2_with fail
      go_ret
      exact ⟨ret_bool HP.out.symm, hb⟩
    · skip
      have HP : Hid ((!kidP 6 ([] : List Nd)) = false) := by unfold Hid; decide
      generalize kidP 6 ([] : List Nd) = res at *
      go_enter Tryz.func116, Tryz.ntmps116
      go_wp2_with fail
      go_ret
      exact ⟨ret_bool HP.out.symm, hb⟩
end Go.Proofs.YteknmgmdmjmnmaaGreatDoor


