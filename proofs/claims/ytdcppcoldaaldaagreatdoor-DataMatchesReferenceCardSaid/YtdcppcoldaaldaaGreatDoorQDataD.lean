/- Layer 13: the law's few, the reference's Same (written by tools/gen_data_d.py). They write nothing that was there. -/
import Derived.Test.YtdcppcoldaaldaaGreatDoorQDA
import Derived.Test.YtdcppcoldaaldaaGreatDoorQA
import Derived.BigGuard



namespace Go.Proofs.YtdcppcoldaaldaaGreatDoor
open Go.RowKit

set_option linter.unusedSimpArgs false
def few13B (p : Pt) : Bool := decide (p.us.length ≤ 1000)
set_option maxRecDepth 100000 in
set_option maxHeartbeats 1000000 in
theorem few13_any (p : Pt) (A : Option Addr) (c : Nat) (w : World) : Calls Tryz.prog 16 #[ptV p A c] w fun e w' => e = .returned (.bool (few13B p)) ∧ Below w.heap.size w w' := by
  have b0 : Below w.heap.size w (w.alloc (.cells (ptCells p A c) 26)) := (Below.refl _ w).alloc (Nat.le_refl _) _
  have x0 := Whole.new w 26 (ptCells p A c)
  unfold few13B
  obtain ⟨inter, tsn, st, sq, pr, bg, en, un, nw, us⟩ := p
  simp only [ptCells, ptV] at *
  obtain ⟨q0, q1, q2, q3, q4, q5, q6, q7, q8, q9⟩ := x0.cs10
  by_cases h : us.length ≤ 1000
  · rw [decide_eq_true h]
    have h1 : (us.length : Int) ≤ 1000 := by omega
    clear h
    go_enter Tryz.func16, Tryz.ntmps16
    go_wp2_with fail
    go_ret
    exact ⟨rfl, b0⟩
  · rw [decide_eq_false h]
    have h1 : ¬ (us.length : Int) ≤ 1000 := by omega
    clear h
    go_enter Tryz.func16, Tryz.ntmps16
    go_wp2_with fail
    go_ret
    exact ⟨rfl, b0⟩
def ptEq (p q : Pt) : Bool := decide (p.inter = q.inter) && (decide (p.tsn = q.tsn) && (decide (p.st = q.st) && (decide (p.sq = q.sq) && (decide (p.pr = q.pr) && (decide (p.bg = q.bg) && (decide (p.en = q.en) && (decide (p.un = q.un) && (decide (p.nw = q.nw) && decide (p.us = q.us)))))))))
theorem ptEq_self (p : Pt) : ptEq p p = true := by unfold ptEq; simp
set_option maxRecDepth 100000 in
set_option maxHeartbeats 8000000 in
theorem rsame13_any (p q : Pt) (hl : p.us.length ≤ maxLen) (A : Option Addr) (c : Nat) (A' : Option Addr) (c' : Nat) (w : World) (hp : PtL w w.heap.size A c p) (hq : PtL w w.heap.size A' c' q) :
    Calls Tryz.prog 21 #[ptV p A c, ptV q A' c'] w fun e w' => e = .returned (.bool (ptEq p q)) ∧ Below w.heap.size w w' := by
  have b0 : Below w.heap.size w ((w.alloc (.cells (ptCells p A c) 26)).alloc (.cells (ptCells q A' c') 26)) := ((Below.refl _ w).alloc (Nat.le_refl _) _).alloc (by simp) _
  have x0 := (Whole.new w 26 (ptCells p A c)).alloc (.cells (ptCells q A' c') 26)
  have y0 := Whole.new (w.alloc (.cells (ptCells p A c) 26)) 26 (ptCells q A' c')
  rw [World.size_alloc] at y0
  have hS := same_any A A' c c' _ p.us q.us _ (hp.on b0).data (hq.on b0).data hl
  clear hp hq hl
  unfold ptEq
  obtain ⟨inter, tsn, st, sq, pr, bg, en, un, nw, us⟩ := p
  obtain ⟨inter', tsn', st', sq', pr', bg', en', un', nw', us'⟩ := q
  simp only [ptCells, ptV] at *
  by_cases h0 : inter = inter'
  · subst h0
    rw [decide_eq_true rfl, Bool.true_and]
    by_cases h1 : tsn = tsn'
    · subst h1
      rw [decide_eq_true rfl, Bool.true_and]
      by_cases h2 : st = st'
      · subst h2
        rw [decide_eq_true rfl, Bool.true_and]
        by_cases h3 : sq = sq'
        · subst h3
          rw [decide_eq_true rfl, Bool.true_and]
          by_cases h4 : pr = pr'
          · subst h4
            rw [decide_eq_true rfl, Bool.true_and]
            by_cases h5 : bg = bg'
            · subst h5
              rw [decide_eq_true rfl, Bool.true_and]
              by_cases h6 : en = en'
              · subst h6
                rw [decide_eq_true rfl, Bool.true_and]
                by_cases h7 : un = un'
                · subst h7
                  rw [decide_eq_true rfl, Bool.true_and]
                  by_cases h8 : nw = nw'
                  · subst h8
                    rw [decide_eq_true rfl, Bool.true_and]
                    obtain ⟨q0, q1, q2, q3, q4, q5, q6, q7, q8, q9⟩ := x0.cs10
                    obtain ⟨r0, r1, r2, r3, r4, r5, r6, r7, r8, r9⟩ := y0.cs10
                    go_enter Tryz.func21, Tryz.ntmps21
                    go_wp2_with fail
                    refine hS.mono ?_
                    rintro e w1 ⟨rfl, qd, rfl⟩
                    go_wp2_with fail
                    go_ret
                    exact ⟨rfl, below_drewN b0 qd⟩
                  · rw [decide_eq_false h8, Bool.false_and]
                    have e8 : (nw == nw') = false := by rw [beq_eq_false_iff_ne]; exact h8
                    clear h8 hS
                    obtain ⟨q0, q1, q2, q3, q4, q5, q6, q7, q8, q9⟩ := x0.cs10
                    obtain ⟨r0, r1, r2, r3, r4, r5, r6, r7, r8, r9⟩ := y0.cs10
                    go_enter Tryz.func21, Tryz.ntmps21
                    go_wp2_with fail
                    go_ret
                    exact ⟨rfl, b0⟩
                · rw [decide_eq_false h7, Bool.false_and]
                  have e7 : (un == un') = false := by rw [beq_eq_false_iff_ne]; exact h7
                  clear h7 hS
                  obtain ⟨q0, q1, q2, q3, q4, q5, q6, q7, q8, q9⟩ := x0.cs10
                  obtain ⟨r0, r1, r2, r3, r4, r5, r6, r7, r8, r9⟩ := y0.cs10
                  go_enter Tryz.func21, Tryz.ntmps21
                  go_wp2_with fail
                  go_ret
                  exact ⟨rfl, b0⟩
              · rw [decide_eq_false h6, Bool.false_and]
                have e6 : (en == en') = false := by rw [beq_eq_false_iff_ne]; exact h6
                clear h6 hS
                obtain ⟨q0, q1, q2, q3, q4, q5, q6, q7, q8, q9⟩ := x0.cs10
                obtain ⟨r0, r1, r2, r3, r4, r5, r6, r7, r8, r9⟩ := y0.cs10
                go_enter Tryz.func21, Tryz.ntmps21
                go_wp2_with fail
                go_ret
                exact ⟨rfl, b0⟩
            · rw [decide_eq_false h5, Bool.false_and]
              have e5 : (bg == bg') = false := by rw [beq_eq_false_iff_ne]; exact h5
              clear h5 hS
              obtain ⟨q0, q1, q2, q3, q4, q5, q6, q7, q8, q9⟩ := x0.cs10
              obtain ⟨r0, r1, r2, r3, r4, r5, r6, r7, r8, r9⟩ := y0.cs10
              go_enter Tryz.func21, Tryz.ntmps21
              go_wp2_with fail
              go_ret
              exact ⟨rfl, b0⟩
          · rw [decide_eq_false h4, Bool.false_and]
            have e4 : ((pr.toNat : Int) == (pr'.toNat : Int)) = false := by rw [beq_eq_false_iff_ne]; exact fun e => h4 (UInt32.toNat_inj.1 (by omega))
            clear h4 hS
            obtain ⟨q0, q1, q2, q3, q4, q5, q6, q7, q8, q9⟩ := x0.cs10
            obtain ⟨r0, r1, r2, r3, r4, r5, r6, r7, r8, r9⟩ := y0.cs10
            go_enter Tryz.func21, Tryz.ntmps21
            go_wp2_with fail
            go_ret
            exact ⟨rfl, b0⟩
        · rw [decide_eq_false h3, Bool.false_and]
          have e3 : ((sq.toNat : Int) == (sq'.toNat : Int)) = false := by rw [beq_eq_false_iff_ne]; exact fun e => h3 (UInt32.toNat_inj.1 (by omega))
          clear h3 hS
          obtain ⟨q0, q1, q2, q3, q4, q5, q6, q7, q8, q9⟩ := x0.cs10
          obtain ⟨r0, r1, r2, r3, r4, r5, r6, r7, r8, r9⟩ := y0.cs10
          go_enter Tryz.func21, Tryz.ntmps21
          go_wp2_with fail
          go_ret
          exact ⟨rfl, b0⟩
      · rw [decide_eq_false h2, Bool.false_and]
        have e2 : ((st.toNat : Int) == (st'.toNat : Int)) = false := by rw [beq_eq_false_iff_ne]; exact fun e => h2 (UInt16.toNat_inj.1 (by omega))
        clear h2 hS
        obtain ⟨q0, q1, q2, q3, q4, q5, q6, q7, q8, q9⟩ := x0.cs10
        obtain ⟨r0, r1, r2, r3, r4, r5, r6, r7, r8, r9⟩ := y0.cs10
        go_enter Tryz.func21, Tryz.ntmps21
        go_wp2_with fail
        go_ret
        exact ⟨rfl, b0⟩
    · rw [decide_eq_false h1, Bool.false_and]
      have e1 : ((tsn.toNat : Int) == (tsn'.toNat : Int)) = false := by rw [beq_eq_false_iff_ne]; exact fun e => h1 (UInt32.toNat_inj.1 (by omega))
      clear h1 hS
      obtain ⟨q0, q1, q2, q3, q4, q5, q6, q7, q8, q9⟩ := x0.cs10
      obtain ⟨r0, r1, r2, r3, r4, r5, r6, r7, r8, r9⟩ := y0.cs10
      go_enter Tryz.func21, Tryz.ntmps21
      go_wp2_with fail
      go_ret
      exact ⟨rfl, b0⟩
  · rw [decide_eq_false h0, Bool.false_and]
    have e0 : (inter == inter') = false := by rw [beq_eq_false_iff_ne]; exact h0
    clear h0 hS
    obtain ⟨q0, q1, q2, q3, q4, q5, q6, q7, q8, q9⟩ := x0.cs10
    obtain ⟨r0, r1, r2, r3, r4, r5, r6, r7, r8, r9⟩ := y0.cs10
    go_enter Tryz.func21, Tryz.ntmps21
    go_wp2_with fail
    go_ret
    exact ⟨rfl, b0⟩
end Go.Proofs.YtdcppcoldaaldaaGreatDoor


