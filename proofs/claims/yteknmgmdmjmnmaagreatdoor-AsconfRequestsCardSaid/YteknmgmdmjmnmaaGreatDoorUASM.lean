/- Layer 18, the reference: Number, IsChange, IsResult, IsRequest, IsAnswer, and the law's same (written by tools/gen_asc_m.py). They write nothing that was there. -/
/- Layer 18, the reference: IsRequest, IsAnswer. They write nothing that was there. -/
/- Layer 18, the reference: Results (written by tools/gen_asc_r.py). It writes nothing that was there. -/
import Derived.Test.YteknmgmdmjmnmaaGreatDoorUASL
import Derived.Test.YteknmgmdmjmnmaaGreatDoorUNodeRAC
import Derived.Test.YteknmgmdmjmnmaaGreatDoorUNF
import Derived.Test.YteknmgmdmjmnmaaGreatDoorUCR
import Derived.Test.YteknmgmdmjmnmaaGreatDoorURefNS
import Derived.BigGuard
import Derived.Deep.CutRange
import Derived.Deep.CutBlock






namespace Go.Proofs.YteknmgmdmjmnmaaGreatDoor
open Go.RowKit Go.Shelf

set_option linter.unusedSimpArgs false
set_option maxRecDepth 100000 in
set_option maxHeartbeats 2000000 in
theorem rnum18_any (d : List UInt8) (h4 : d.length = 4) (A : Option Addr) (c B : Nat) (w : World) (h : Lies w B A (d.map bv)) : Calls Tryz.prog 37 #[.slice A d.length c] w fun e w' => e = .returned (uv (numD d)) ∧ w = w' := by
  have hN : Calls Tryz.prog 77 #[.slice A d.length c, .int .i64 0, .int .i64 4] w fun e w' => e = .returned (.tuple #[uv (numD d), .bool true]) ∧ w = w' := by
    have h1 := rnumber_yes A c B d 0 4 w h (by omega) rfl (by omega)
    have e1 : (numOf ((d.drop 0).take 4) : Int) = ((numD d).toNat : Int) := by unfold numD nrd; rw [u32_ofNat (numOf_lt _)]
    rw [e1] at h1
    exact h1
  clear h4 h
  generalize numD d = x at *
  generalize d.length = n at *
  go_enter Tryz.func37, Tryz.ntmps37
  go_wp2_with fail
  refine hN.mono ?_
  rintro e w1 ⟨rfl, rfl⟩
  go_wp2_with fail
  go_ret
  exact ⟨rfl, rfl⟩
set_option maxRecDepth 100000 in
set_option maxHeartbeats 2000000 in
theorem same18_any (a b : Nd) (A : Option Addr) (c : Nat) (K : Option Addr) (k : Nat) (A' : Option Addr) (c' : Nat) (K' : Option Addr) (k' : Nat) (w : World) (ha : Node w w.heap.size A c K k a) (hb : Node w w.heap.size A' c' K' k' b) :
    Calls Tryz.prog 30 #[ndV a A c K k, ndV b A' c' K' k'] w fun e w' => e = .returned (.bool (beqL [a] [b])) ∧ Below w.heap.size w w' := by
  have b0 : Below w.heap.size w ((w.alloc (.cells #[hv a.t, .slice A a.v.length c, .slice K a.ks.length k] 51)).alloc (.cells #[hv b.t, .slice A' b.v.length c', .slice K' b.ks.length k'] 51)) := ((Below.refl _ w).alloc (Nat.le_refl _) _).alloc (by simp) _
  have x0 := (Whole.new w 51 #[hv a.t, .slice A a.v.length c, .slice K a.ks.length k]).alloc (.cells #[hv b.t, .slice A' b.v.length c', .slice K' b.ks.length k'] 51)
  have y0 := Whole.new (w.alloc (.cells #[hv a.t, .slice A a.v.length c, .slice K a.ks.length k] 51)) 51 #[hv b.t, .slice A' b.v.length c', .slice K' b.ks.length k']
  rw [World.size_alloc] at y0
  have hz0 : w.heap.size + 1 < ((w.alloc (.cells #[hv a.t, .slice A a.v.length c, .slice K a.ks.length k] 51)).alloc (.cells #[hv b.t, .slice A' b.v.length c', .slice K' b.ks.length k'] 51)).heap.size := by simp
  have hab := ha.on b0
  have hbb := hb.on b0
  unfold ndV
  clear ha hb
  go_enter Tryz.func30, Tryz.ntmps30
  go_upto_region 1 with fail
  generalize ((w.alloc (.cells #[hv a.t, .slice A a.v.length c, .slice K a.ks.length k] 51)).alloc (.cells #[hv b.t, .slice A' b.v.length c', .slice K' b.ks.length k'] 51)) = w0 at *
  have HS : Hid (Calls Tryz.prog 70 #[.slice (some ⟨w0.heap.size, 0, none⟩) 1 1, .slice (some ⟨w0.heap.size + 1, 0, none⟩) 1 1] ((w0.alloc (.cells #[hv a.t, .slice A a.v.length c, .slice K a.ks.length k] 51)).alloc (.cells #[hv b.t, .slice A' b.v.length c', .slice K' b.ks.length k'] 51)) fun e w' => e = .returned (.bool (beqL [a] [b])) ∧ Below w.heap.size w w') := by
    have b1 : Below w0.heap.size w0 ((w0.alloc (.cells #[hv a.t, .slice A a.v.length c, .slice K a.ks.length k] 51)).alloc (.cells #[hv b.t, .slice A' b.v.length c', .slice K' b.ks.length k'] 51)) := ((Below.refl _ w0).alloc (Nat.le_refl _) _).alloc (by simp) _
    have hx1 := (Whole.new w0 51 #[hv a.t, .slice A a.v.length c, .slice K a.ks.length k]).alloc (.cells #[hv b.t, .slice A' b.v.length c', .slice K' b.ks.length k'] 51)
    have hy1 := Whole.new (w0.alloc (.cells #[hv a.t, .slice A a.v.length c, .slice K a.ks.length k] 51)) 51 #[hv b.t, .slice A' b.v.length c', .slice K' b.ks.length k']
    rw [World.size_alloc] at hy1
    exact Lib.hid ((rsame_any [a] [b] (some ⟨w0.heap.size, 0, none⟩) (some ⟨w0.heap.size + 1, 0, none⟩) 1 1 _ (nodes_one18 hx1 (hab.on b1)) (nodes_one18 hy1 (hbb.on b1)) (by simp) (by simp)).mono fun e w' h => ⟨h.1, (b0.trans (b1.mono b0.size)).trans (h.2.mono (Nat.le_trans b0.size b1.size))⟩)
  clear hab hbb b0
  obtain ⟨p0, p1, p2⟩ := wh318 x0
  obtain ⟨s0, s1, s2⟩ := wh318 y0
  go_wp2_with fail
  refine HS.out.mono ?_
  rintro e w1 ⟨rfl, b1⟩
  go_wp2_with fail
  go_ret
  exact ⟨rfl, b1⟩
set_option maxRecDepth 100000 in
set_option maxHeartbeats 4000000 in
theorem rchg18_any (n : Nd) (hf : Fine n) (A : Option Addr) (c : Nat) (K : Option Addr) (k : Nat) (w : World) (h : Node w w.heap.size A c K k n) :
    Calls Tryz.prog 28 #[ndV n A c K k] w fun e w' => e = .returned (.bool (chgB n)) ∧ Below w.heap.size w w' := by
  have b0 : Below w.heap.size w (w.alloc (.cells #[hv n.t, .slice A n.v.length c, .slice K n.ks.length k] 51)) := (Below.refl _ w).alloc (Nat.le_refl _) _
  have x0 := Whole.new w 51 #[hv n.t, .slice A n.v.length c, .slice K n.ks.length k]
  have hC := rcheck1_any 1 (.inl rfl) n A c K k _ (h.on b0) hf
  have hs0 : (w.alloc (.cells #[hv n.t, .slice A n.v.length c, .slice K n.ks.length k] 51)).heap.size = w.heap.size + 1 := by simp
  have HR : Hid (chgB n = (isChg n.t && decide (chk 4 1 n = 0))) := Lib.hid rfl
  have HT : Hid (isChg n.t = (decide (n.t = 49153) || decide (n.t = 49154) || decide (n.t = 49156))) := Lib.hid rfl
  unfold ndV at hC ⊢
  clear h hf
  generalize chgB n = r at *
  generalize isChg n.t = tt at *
  generalize chk 4 1 n = cc at *
  generalize n.v.length = lv at *
  generalize n.ks.length = lk at *
  generalize n.t = t at *
  by_cases g0 : t = 49153
  · have k0 : ((t.toNat : Int) == 49153) = true := by rw [beq_iff_eq, g0]; rfl
    obtain rfl : tt = true := by rw [HT.out, decide_eq_true g0]; simp
    by_cases h9 : cc = 0
    · subst h9
      obtain rfl : r = true := by rw [HR.out]; rfl
      clear HR HT g0
      go_enter Tryz.func28, Tryz.ntmps28
      go_upto_region 1 with fail
      generalize w.alloc (.cells #[hv t, .slice A lv c, .slice K lk k] 51) = wa at *
      obtain ⟨q0, q1, q2⟩ := wh318 x0
      go_wp2_with fail
      refine hC.mono ?_
      rintro e w1 ⟨rfl, b1⟩
      have B1 := Lib.hid (b0.trans (b1.mono (by omega)))
      go_wp2_with fail
      go_ret
      exact ⟨rfl, B1.out⟩
    · obtain rfl : r = false := by rw [HR.out, decide_eq_false h9]; rfl
      have e9 : ((cc : Int) == 0) = false := by rw [beq_eq_false_iff_ne]; omega
      clear HR HT g0
      go_enter Tryz.func28, Tryz.ntmps28
      go_upto_region 1 with fail
      generalize w.alloc (.cells #[hv t, .slice A lv c, .slice K lk k] 51) = wa at *
      obtain ⟨q0, q1, q2⟩ := wh318 x0
      go_wp2_with fail
      refine hC.mono ?_
      rintro e w1 ⟨rfl, b1⟩
      have B1 := Lib.hid (b0.trans (b1.mono (by omega)))
      clear h9
      go_wp2_with fail
      go_ret
      exact ⟨rfl, B1.out⟩
  · have k0 : ((t.toNat : Int) == 49153) = false := beq_eq_false_iff_ne.2 fun e => g0 (UInt16.toNat_inj.1 (by show t.toNat = 49153; omega))
    by_cases g1 : t = 49154
    · have k1 : ((t.toNat : Int) == 49154) = true := by rw [beq_iff_eq, g1]; rfl
      obtain rfl : tt = true := by rw [HT.out, decide_eq_true g1]; simp
      by_cases h9 : cc = 0
      · subst h9
        obtain rfl : r = true := by rw [HR.out]; rfl
        clear HR HT g0 g1
        go_enter Tryz.func28, Tryz.ntmps28
        go_upto_region 1 with fail
        generalize w.alloc (.cells #[hv t, .slice A lv c, .slice K lk k] 51) = wa at *
        obtain ⟨q0, q1, q2⟩ := wh318 x0
        go_wp2_with fail
        refine hC.mono ?_
        rintro e w1 ⟨rfl, b1⟩
        have B1 := Lib.hid (b0.trans (b1.mono (by omega)))
        go_wp2_with fail
        go_ret
        exact ⟨rfl, B1.out⟩
      · obtain rfl : r = false := by rw [HR.out, decide_eq_false h9]; rfl
        have e9 : ((cc : Int) == 0) = false := by rw [beq_eq_false_iff_ne]; omega
        clear HR HT g0 g1
        go_enter Tryz.func28, Tryz.ntmps28
        go_upto_region 1 with fail
        generalize w.alloc (.cells #[hv t, .slice A lv c, .slice K lk k] 51) = wa at *
        obtain ⟨q0, q1, q2⟩ := wh318 x0
        go_wp2_with fail
        refine hC.mono ?_
        rintro e w1 ⟨rfl, b1⟩
        have B1 := Lib.hid (b0.trans (b1.mono (by omega)))
        clear h9
        go_wp2_with fail
        go_ret
        exact ⟨rfl, B1.out⟩
    · have k1 : ((t.toNat : Int) == 49154) = false := beq_eq_false_iff_ne.2 fun e => g1 (UInt16.toNat_inj.1 (by show t.toNat = 49154; omega))
      by_cases g2 : t = 49156
      · have k2 : ((t.toNat : Int) == 49156) = true := by rw [beq_iff_eq, g2]; rfl
        obtain rfl : tt = true := by rw [HT.out, decide_eq_true g2]; simp
        by_cases h9 : cc = 0
        · subst h9
          obtain rfl : r = true := by rw [HR.out]; rfl
          clear HR HT g0 g1 g2
          go_enter Tryz.func28, Tryz.ntmps28
          go_upto_region 1 with fail
          generalize w.alloc (.cells #[hv t, .slice A lv c, .slice K lk k] 51) = wa at *
          obtain ⟨q0, q1, q2⟩ := wh318 x0
          go_wp2_with fail
          refine hC.mono ?_
          rintro e w1 ⟨rfl, b1⟩
          have B1 := Lib.hid (b0.trans (b1.mono (by omega)))
          go_wp2_with fail
          go_ret
          exact ⟨rfl, B1.out⟩
        · obtain rfl : r = false := by rw [HR.out, decide_eq_false h9]; rfl
          have e9 : ((cc : Int) == 0) = false := by rw [beq_eq_false_iff_ne]; omega
          clear HR HT g0 g1 g2
          go_enter Tryz.func28, Tryz.ntmps28
          go_upto_region 1 with fail
          generalize w.alloc (.cells #[hv t, .slice A lv c, .slice K lk k] 51) = wa at *
          obtain ⟨q0, q1, q2⟩ := wh318 x0
          go_wp2_with fail
          refine hC.mono ?_
          rintro e w1 ⟨rfl, b1⟩
          have B1 := Lib.hid (b0.trans (b1.mono (by omega)))
          clear h9
          go_wp2_with fail
          go_ret
          exact ⟨rfl, B1.out⟩
      · have k2 : ((t.toNat : Int) == 49156) = false := beq_eq_false_iff_ne.2 fun e => g2 (UInt16.toNat_inj.1 (by show t.toNat = 49156; omega))
        obtain rfl : tt = false := by rw [HT.out, decide_eq_false g0, decide_eq_false g1, decide_eq_false g2]; rfl
        obtain rfl : r = false := by rw [HR.out]; rfl
        clear HR HT hC
        go_enter Tryz.func28, Tryz.ntmps28
        go_upto_region 1 with fail
        generalize w.alloc (.cells #[hv t, .slice A lv c, .slice K lk k] 51) = wa at *
        obtain ⟨q0, q1, q2⟩ := wh318 x0
        go_wp2_with fail
        go_ret
        exact ⟨rfl, b0⟩
set_option maxRecDepth 100000 in
set_option maxHeartbeats 4000000 in
theorem rres18_any (n : Nd) (hf : Fine n) (A : Option Addr) (c : Nat) (K : Option Addr) (k : Nat) (w : World) (h : Node w w.heap.size A c K k n) :
    Calls Tryz.prog 29 #[ndV n A c K k] w fun e w' => e = .returned (.bool (resB n)) ∧ Below w.heap.size w w' := by
  have b0 : Below w.heap.size w (w.alloc (.cells #[hv n.t, .slice A n.v.length c, .slice K n.ks.length k] 51)) := (Below.refl _ w).alloc (Nat.le_refl _) _
  have x0 := Whole.new w 51 #[hv n.t, .slice A n.v.length c, .slice K n.ks.length k]
  have hC := rcheck1_any 1 (.inl rfl) n A c K k _ (h.on b0) hf
  have hs0 : (w.alloc (.cells #[hv n.t, .slice A n.v.length c, .slice K n.ks.length k] 51)).heap.size = w.heap.size + 1 := by simp
  have HR : Hid (resB n = (isRes n.t && decide (chk 4 1 n = 0))) := Lib.hid rfl
  have HT : Hid (isRes n.t = (decide (n.t = 49155) || decide (n.t = 49157))) := Lib.hid (by unfold isRes; exact Bool.or_comm _ _)
  unfold ndV at hC ⊢
  clear h hf
  generalize resB n = r at *
  generalize isRes n.t = tt at *
  generalize chk 4 1 n = cc at *
  generalize n.v.length = lv at *
  generalize n.ks.length = lk at *
  generalize n.t = t at *
  by_cases g0 : t = 49155
  · have k0 : ((t.toNat : Int) == 49155) = true := by rw [beq_iff_eq, g0]; rfl
    obtain rfl : tt = true := by rw [HT.out, decide_eq_true g0]; simp
    by_cases h9 : cc = 0
    · subst h9
      obtain rfl : r = true := by rw [HR.out]; rfl
      clear HR HT g0
      go_enter Tryz.func29, Tryz.ntmps29
      go_upto_region 1 with fail
      generalize w.alloc (.cells #[hv t, .slice A lv c, .slice K lk k] 51) = wa at *
      obtain ⟨q0, q1, q2⟩ := wh318 x0
      go_wp2_with fail
      refine hC.mono ?_
      rintro e w1 ⟨rfl, b1⟩
      have B1 := Lib.hid (b0.trans (b1.mono (by omega)))
      go_wp2_with fail
      go_ret
      exact ⟨rfl, B1.out⟩
    · obtain rfl : r = false := by rw [HR.out, decide_eq_false h9]; rfl
      have e9 : ((cc : Int) == 0) = false := by rw [beq_eq_false_iff_ne]; omega
      clear HR HT g0
      go_enter Tryz.func29, Tryz.ntmps29
      go_upto_region 1 with fail
      generalize w.alloc (.cells #[hv t, .slice A lv c, .slice K lk k] 51) = wa at *
      obtain ⟨q0, q1, q2⟩ := wh318 x0
      go_wp2_with fail
      refine hC.mono ?_
      rintro e w1 ⟨rfl, b1⟩
      have B1 := Lib.hid (b0.trans (b1.mono (by omega)))
      clear h9
      go_wp2_with fail
      go_ret
      exact ⟨rfl, B1.out⟩
  · have k0 : ((t.toNat : Int) == 49155) = false := beq_eq_false_iff_ne.2 fun e => g0 (UInt16.toNat_inj.1 (by show t.toNat = 49155; omega))
    by_cases g1 : t = 49157
    · have k1 : ((t.toNat : Int) == 49157) = true := by rw [beq_iff_eq, g1]; rfl
      obtain rfl : tt = true := by rw [HT.out, decide_eq_true g1]; simp
      by_cases h9 : cc = 0
      · subst h9
        obtain rfl : r = true := by rw [HR.out]; rfl
        clear HR HT g0 g1
        go_enter Tryz.func29, Tryz.ntmps29
        go_upto_region 1 with fail
        generalize w.alloc (.cells #[hv t, .slice A lv c, .slice K lk k] 51) = wa at *
        obtain ⟨q0, q1, q2⟩ := wh318 x0
        go_wp2_with fail
        refine hC.mono ?_
        rintro e w1 ⟨rfl, b1⟩
        have B1 := Lib.hid (b0.trans (b1.mono (by omega)))
        go_wp2_with fail
        go_ret
        exact ⟨rfl, B1.out⟩
      · obtain rfl : r = false := by rw [HR.out, decide_eq_false h9]; rfl
        have e9 : ((cc : Int) == 0) = false := by rw [beq_eq_false_iff_ne]; omega
        clear HR HT g0 g1
        go_enter Tryz.func29, Tryz.ntmps29
        go_upto_region 1 with fail
        generalize w.alloc (.cells #[hv t, .slice A lv c, .slice K lk k] 51) = wa at *
        obtain ⟨q0, q1, q2⟩ := wh318 x0
        go_wp2_with fail
        refine hC.mono ?_
        rintro e w1 ⟨rfl, b1⟩
        have B1 := Lib.hid (b0.trans (b1.mono (by omega)))
        clear h9
        go_wp2_with fail
        go_ret
        exact ⟨rfl, B1.out⟩
    · have k1 : ((t.toNat : Int) == 49157) = false := beq_eq_false_iff_ne.2 fun e => g1 (UInt16.toNat_inj.1 (by show t.toNat = 49157; omega))
      obtain rfl : tt = false := by rw [HT.out, decide_eq_false g0, decide_eq_false g1]; rfl
      obtain rfl : r = false := by rw [HR.out]; rfl
      clear HR HT hC
      go_enter Tryz.func29, Tryz.ntmps29
      go_upto_region 1 with fail
      generalize w.alloc (.cells #[hv t, .slice A lv c, .slice K lk k] 51) = wa at *
      obtain ⟨q0, q1, q2⟩ := wh318 x0
      go_wp2_with fail
      go_ret
      exact ⟨rfl, b0⟩
end Go.Proofs.YteknmgmdmjmnmaaGreatDoor





namespace Go.Proofs.YteknmgmdmjmnmaaGreatDoor
open Go.RowKit Go.Shelf

set_option linter.unusedSimpArgs false
set_option maxRecDepth 100000 in
set_option maxHeartbeats 8000000 in
theorem rreq18_any (x : Ck) (hf : CkFine x) (A : Option Addr) (c : Nat) (K : Option Addr) (k : Nat) (w : World) (h : Chunk w w.heap.size A c K k x) :
    Calls Tryz.prog 35 #[ckV x A c K k] w fun e w' => e = .returned (.bool (reqB x)) ∧ Below w.heap.size w w' := by
  have b0 : Below w.heap.size w (w.alloc (.cells (ckCells x A c K k) 62)) := (Below.refl _ w).alloc (Nat.le_refl _) _
  have x0 := CkBox.new w x A c K k
  have HC : Calls Tryz.prog 75 #[ckV x A c K k] (w.alloc (.cells (ckCells x A c K k) 62)) fun e w' => e = .returned (.int .i64 ((chkC x : Nat) : Int)) ∧ Below (w.alloc (.cells (ckCells x A c K k) 62)).heap.size (w.alloc (.cells (ckCells x A c K k) 62)) w' := rcheck12 x hf A c K k _ (h.on b0)
  have HE : Hid (((x.t = 193 ∧ chkC x = 0) ∧ ∃ (a : Nd) (l : List Nd), x.ks = a :: l ∧ adrB a = true ∧ reqB x = l.all chgB) ∨ (x.t = 193 ∧ chkC x ≠ 0 ∧ reqB x = false) ∨ (x.t ≠ 193 ∧ reqB x = false)) := by
    unfold Hid
    by_cases h1 : x.t = 193
    · by_cases hc : chkC x = 0
      · obtain ⟨_, a, l, hks, _, had, _⟩ := chunk193 h1 hc
        refine .inl ⟨⟨h1, hc⟩, a, l, hks, had, ?_⟩
        rw [req_ref h1 hc, hks]
        rfl
      · exact .inr (.inl ⟨h1, hc, by unfold reqB; rw [decide_eq_false hc]; simp⟩)
    · exact .inr (.inr ⟨h1, by unfold reqB; rw [decide_eq_false h1]; simp⟩)
  have HCH : Hid (∀ (n : Nd) (An : Option Addr) (cn : Nat) (Kn : Option Addr) (kn : Nat) (V : World), n ∈ x.ks → Node V V.heap.size An cn Kn kn n → Calls Tryz.prog 28 #[.agg #[hv n.t, .slice An n.v.length cn, .slice Kn n.ks.length kn]] V fun e w' => e = .returned (.bool (chgB n)) ∧ Below V.heap.size V w') := Lib.hid (fun n An cn Kn kn V hn hN => rchg18_any n (hf.each n hn) An cn Kn kn V hN)
  have HIS : Hid (∀ (n : Nd) (An : Option Addr) (cn : Nat) (Kn : Option Addr) (kn : Nat) (V : World), n ∈ x.ks → Calls Tryz.prog 76 #[.agg #[hv n.t, .slice An n.v.length cn, .slice Kn n.ks.length kn]] V fun e w' => e = .returned (.bool (adrB n)) ∧ Below V.heap.size V w') := Lib.hid (fun n An cn Kn kn V hn => ris_any n An cn Kn kn V (by have := (hf.each n hn).vl; rw [Nd.vlen_eq] at this; omega) (by have := (hf.each n hn).kl; omega))
  have HK := Lib.hid (fun (V : World) (hV : Below w.heap.size w V) => (h.on hV).kids)
  have HKL := Lib.hid hf.ks
  obtain ⟨q0, q1, q2, q3⟩ := x0.cs
  have HB := Lib.hid b0
  have hz : w.heap.size ≤ (w.alloc (.cells (ckCells x A c K k) 62)).heap.size := by simp
  have HZ := Lib.hid hz
  have HX := Lib.hid x0
  clear h hf b0 hz x0
  generalize reqB x = b at *
  generalize chkC x = cc at *
  obtain ⟨t, fl, d, ks⟩ := x
  simp only [ckV, ckCells] at *
  rcases HE.out with ⟨⟨rfl, rfl⟩, a, l, hks, had, hre⟩ | ⟨rfl, hc, rfl⟩ | ⟨h1, rfl⟩
  · have HRE := Lib.hid hre
    have HKS := Lib.hid hks
    have HAD := Lib.hid had
    have HLN : Hid (ks.length = l.length + 1) := Lib.hid (by rw [hks]; rfl)
    have e193 : ((193 : Int) != 193) = false := by simp
    clear HE hre hks had
    go_enter Tryz.func35, Tryz.ntmps35
    go_wp2_with fail
    refine HC.mono ?_
    rintro e w2 ⟨rfl, b2⟩
    have B2 := HB.out.trans (b2.mono HZ.out)
    have X2 : CkBox w2 w.heap.size ⟨193, fl, d, ks⟩ A c K k := CkBox.below HX.out b2
    clear HC q0 q1 q2 q3 HX b2
    obtain ⟨p0, p1, p2, p3⟩ := X2.cs
    obtain ⟨ad, An, cn, Kn, kn, n, hA, hadb, hn, d0, d1, d2, hNd⟩ := (HK.out w2 B2).at_ (k := 0) (by have := HLN.out; omega)
    obtain rfl : n = a := by have h9 := hn.out; rw [HKS.out] at h9; simpa using h9.symm
    subst hA
    have hI := HIS.out n An cn Kn kn w2 (List.mem_of_getElem? hn.out)
    rw [HAD.out] at hI
    have hi0 : (0 : Int) < (ks.length : Int) := by have := HLN.out; omega
    have HX2 := Lib.hid X2
    have f0 : w2.cell? ad = some (hv n.t) := by simpa [Addr.add] using d0
    have f1 : w2.cell? ⟨ad.block, ad.off + 1, none⟩ = some (.slice An n.v.length cn) := by simpa [Addr.add] using d1
    have f2 : w2.cell? ⟨ad.block, ad.off + 2, none⟩ = some (.slice Kn n.ks.length kn) := by simpa [Addr.add] using d2
    clear hn hNd HIS HAD X2 d0 d1 d2
    go_wp2_with fail
    refine hI.mono ?_
    rintro e w3 ⟨rfl, b3⟩
    have B3 := Lib.hid (B2.trans (b3.mono B2.size))
    have X3 : CkBox w3 w.heap.size ⟨193, fl, d, ks⟩ A c (some ad) k := CkBox.below HX2.out b3
    have HX3 := Lib.hid X3
    have hkl : ks.length ≤ 1000 := HKL.out
    clear hI p0 p1 p2 p3 f0 f1 f2 b3 B2 X3 hi0
    go_wp2_with fail
    go_loopw [3] (fun i wr => ∃ j : Nat, 1 ≤ j ∧ j ≤ ks.length ∧ i = .int .i64 (j : Int) ∧ Below w3.heap.size w3 wr ∧ Hid (∀ m ∈ l.take (j - 1), chgB m = true)) (fun i _ => ks.length - (intOf i).toNat)
    case atStart => exact ⟨1, Nat.le_refl _, by have := HLN.out; omega, rfl, Below.refl _ _, Lib.hid (fun m hm => by simp at hm)⟩
    case round =>
      obtain ⟨j, hj1, hj, rfl, hbel, hno⟩ := hrel
      have XR : CkBox wr w.heap.size ⟨193, fl, d, ks⟩ A c (some ad) k := CkBox.below HX3.out hbel
      obtain ⟨p0, p1, p2, p3⟩ := XR.cs
      have HXR := Lib.hid XR
      clear XR
      by_cases hlt : j < ks.length
      · have hi1 : (j : Int) < (ks.length : Int) := by omega
        have HLT := Lib.hid hlt
        have hB := B3.out.trans (hbel.mono B3.out.size)
        obtain ⟨ad', A', c', K', k', m, hA, hadb', hm, d0, d1, d2, hNd⟩ := (HK.out wr hB).at_ (k := j) hlt
        have hA2 := Lib.hid hA
        cases hA
        have hC := HCH.out m A' c' K' k' wr (List.mem_of_getElem? hm.out) hNd
        have hml : Hid (l[j - 1]? = some m) := Lib.hid (by have h9 := hm.out; rw [HKS.out] at h9; obtain ⟨j', rfl⟩ : ∃ j', j = j' + 1 := ⟨j - 1, by omega⟩; simpa using h9)
        clear hA2 hm hNd hB
        cases hin : chgB m with
        | true =>
          rw [hin] at hC
          have HI := Lib.hid hin
          clear hin
          go_wp2_with fail
          refine hC.mono ?_
          rintro e w5 ⟨rfl, b5⟩
          have hb5 := hbel.trans (b5.mono hbel.size)
          have X5 : CkBox w5 w.heap.size ⟨193, fl, d, ks⟩ A c (some ad) k := CkBox.below HXR.out b5
          clear hC d0 d1 d2 b5 hbel
          go_wp2_with fail
          go_roundw
          case rel => exact ⟨j + 1, by omega, by have := HLT.out; omega, by go_num, hb5, Lib.hid (fun y hy => by
            rw [show j + 1 - 1 = (j - 1) + 1 by omega, take_some hml.out] at hy
            rcases List.mem_append.1 hy with h | h
            · exact hno.out y h
            · rw [List.mem_singleton.1 h]; exact HI.out)⟩
          case measure => have := HLT.out; simp [intOf]; omega
        | false =>
          rw [hin] at hC
          have HI := Lib.hid hin
          clear hin
          go_wp2_with fail
          refine hC.mono ?_
          rintro e w5 ⟨rfl, b5⟩
          have hb5 := Lib.hid (B3.out.trans ((hbel.trans (b5.mono hbel.size)).mono B3.out.size))
          clear hC d0 d1 d2 b5 hbel
          go_wp2_with fail
          go_ret
          refine ⟨?_, hb5.out⟩
          rw [HRE.out]
          have : l.all chgB = false := by rw [List.all_eq_false]; exact ⟨m, List.mem_of_getElem? hml.out, by rw [HI.out]; simp⟩
          rw [this]
          rfl
      · have hi1 : ¬ (j : Int) < (ks.length : Int) := by omega
        have hb5 := Lib.hid (B3.out.trans (hbel.mono B3.out.size))
        clear hbel
        go_wp2_with fail
        go_ret
        refine ⟨?_, hb5.out⟩
        rw [HRE.out]
        have : l.all chgB = true := by
          rw [List.all_eq_true]
          intro y hy
          refine hno.out y ?_
          rw [List.take_of_length_le (by have := HLN.out; omega)]
          exact hy
        rw [this]
        rfl
  · have e1 : ((cc : Int) != 0) = true := by rw [bne_iff_ne]; omega
    have e193 : ((193 : Int) != 193) = false := by simp
    clear hc HE
    go_enter Tryz.func35, Tryz.ntmps35
    go_wp2_with fail
    refine HC.mono ?_
    rintro e w2 ⟨rfl, b2⟩
    go_wp2_with fail
    go_ret
    exact ⟨rfl, HB.out.trans (b2.mono HZ.out)⟩
  · have e1 : ((t.toNat : Int) != 193) = true := by rw [bne_iff_ne]; intro e; exact h1 (UInt8.toNat_inj.1 (by have : (193 : UInt8).toNat = 193 := rfl; omega))
    clear h1 HC HE
    go_enter Tryz.func35, Tryz.ntmps35
    go_wp2_with fail
    go_ret
    exact ⟨rfl, HB.out⟩
set_option maxRecDepth 100000 in
set_option maxHeartbeats 8000000 in
theorem rack18_any (x : Ck) (hf : CkFine x) (A : Option Addr) (c : Nat) (K : Option Addr) (k : Nat) (w : World) (h : Chunk w w.heap.size A c K k x) :
    Calls Tryz.prog 36 #[ckV x A c K k] w fun e w' => e = .returned (.bool (ackB x)) ∧ Below w.heap.size w w' := by
  have b0 : Below w.heap.size w (w.alloc (.cells (ckCells x A c K k) 62)) := (Below.refl _ w).alloc (Nat.le_refl _) _
  have x0 := CkBox.new w x A c K k
  have HC : Hid (∀ V, Below w.heap.size w V → Calls Tryz.prog 75 #[ckV x A c K k] V fun e w' => e = .returned (.int .i64 ((chkC x : Nat) : Int)) ∧ Below V.heap.size V w') := Lib.hid (fun V hV => rcheck12 x hf A c K k V (h.on hV))
  have HE : Hid (ackB x = (x.ks.all resB && (decide (x.t = 128) && decide (chkC x = 0)))) := Lib.hid ack_ref
  have HCH : Hid (∀ (n : Nd) (An : Option Addr) (cn : Nat) (Kn : Option Addr) (kn : Nat) (V : World), n ∈ x.ks → Node V V.heap.size An cn Kn kn n → Calls Tryz.prog 29 #[.agg #[hv n.t, .slice An n.v.length cn, .slice Kn n.ks.length kn]] V fun e w' => e = .returned (.bool (resB n)) ∧ Below V.heap.size V w') := Lib.hid (fun n An cn Kn kn V hn hN => rres18_any n (hf.each n hn) An cn Kn kn V hN)
  have HK := Lib.hid (fun (V : World) (hV : Below w.heap.size w V) => (h.on hV).kids)
  have hkl : x.ks.length ≤ 1000 := hf.ks
  obtain ⟨q0, q1, q2, q3⟩ := x0.cs
  have HX := Lib.hid x0
  clear h hf x0
  generalize ackB x = b at *
  generalize chkC x = cc at *
  obtain ⟨t, fl, d, ks⟩ := x
  simp only [ckV, ckCells] at *
  go_enter Tryz.func36, Tryz.ntmps36
  go_upto_region 1 with fail
  generalize w.alloc (.cells #[bv t, bv fl, .slice A d.length c, .slice K ks.length k] 62) = w3 at *
  have HB3 := Lib.hid b0
  clear q0 q1 q2 q3 b0
  go_wp2_with fail
  go_loopw [3] (fun i wr => ∃ j : Nat, j ≤ ks.length ∧ i = .int .i64 (j : Int) ∧ Below w3.heap.size w3 wr ∧ Hid (∀ m ∈ ks.take j, resB m = true)) (fun i _ => ks.length - (intOf i).toNat)
  case atStart => exact ⟨0, Nat.zero_le _, rfl, Below.refl _ _, Lib.hid (fun m hm => by simp at hm)⟩
  case round =>
    obtain ⟨j, hj, rfl, hbel, hno⟩ := hrel
    have XR : CkBox wr w.heap.size ⟨t, fl, d, ks⟩ A c K k := CkBox.below HX.out hbel
    obtain ⟨p0, p1, p2, p3⟩ := XR.cs
    have HXR := Lib.hid XR
    clear XR
    by_cases hlt : j < ks.length
    · have hi1 : (j : Int) < (ks.length : Int) := by omega
      have HLT := Lib.hid hlt
      have hB := HB3.out.trans (hbel.mono HB3.out.size)
      obtain ⟨ad', A', c', K', k', m, hA, hadb', hm, d0, d1, d2, hNd⟩ := (HK.out wr hB).at_ (k := j) hlt
      subst hA
      have hC := HCH.out m A' c' K' k' wr (List.mem_of_getElem? hm.out) hNd
      clear hNd hB
      cases hin : resB m with
      | true =>
        rw [hin] at hC
        have HI := Lib.hid hin
        clear hin
        go_wp2_with fail
        refine hC.mono ?_
        rintro e w5 ⟨rfl, b5⟩
        have hb5 := hbel.trans (b5.mono hbel.size)
        have X5 : CkBox w5 w.heap.size ⟨t, fl, d, ks⟩ A c (some ad') k := CkBox.below HXR.out b5
        clear hC d0 d1 d2 b5 hbel
        go_wp2_with fail
        go_roundw
        case rel => exact ⟨j + 1, by have := HLT.out; omega, by go_num, hb5, Lib.hid (fun y hy => by
          rw [take_some hm.out] at hy
          rcases List.mem_append.1 hy with h | h
          · exact hno.out y h
          · rw [List.mem_singleton.1 h]; exact HI.out)⟩
        case measure => have := HLT.out; simp [intOf]; omega
      | false =>
        rw [hin] at hC
        have HI := Lib.hid hin
        clear hin
        go_wp2_with fail
        refine hC.mono ?_
        rintro e w5 ⟨rfl, b5⟩
        have hb5 := Lib.hid (HB3.out.trans ((hbel.trans (b5.mono hbel.size)).mono HB3.out.size))
        clear hC d0 d1 d2 b5 hbel
        go_wp2_with fail
        go_ret
        refine ⟨?_, hb5.out⟩
        rw [HE.out]
        have h9 : ks.all resB = false := by rw [List.all_eq_false]; exact ⟨m, List.mem_of_getElem? hm.out, by rw [HI.out]; simp⟩
        rw [h9]
        rfl
    · have hi1 : ¬ (j : Int) < (ks.length : Int) := by omega
      have hb5 := Lib.hid (HB3.out.trans (hbel.mono HB3.out.size))
      have hall : Hid (ks.all resB = true) := Lib.hid (by
        rw [List.all_eq_true]
        intro y hy
        refine hno.out y ?_
        rw [List.take_of_length_le (by omega)]
        exact hy)
      have hC := HC.out wr hb5.out
      clear hbel HCH HK hno
      by_cases h1 : t = 128
      · have e1 : ((t.toNat : Int) == 128) = true := by rw [beq_iff_eq, h1]; rfl
        have H1 := Lib.hid h1
        clear h1
        by_cases hc : cc = 0
        · have e2 : ((cc : Int) == 0) = true := by rw [beq_iff_eq]; omega
          have H2 := Lib.hid hc
          clear hc
          go_wp2_with fail
          refine hC.mono ?_
          rintro e w6 ⟨rfl, b6⟩
          have hb6 := Lib.hid (hb5.out.trans (b6.mono hb5.out.size))
          clear hC b6 p0 p1 p2 p3
          go_wp2_with fail
          go_ret
          refine ⟨?_, hb6.out⟩
          rw [HE.out, hall.out, H1.out, H2.out]
          rfl
        · have e2 : ((cc : Int) == 0) = false := beq_eq_false_iff_ne.2 (by omega)
          have H2 := Lib.hid (decide_eq_false hc)
          clear hc
          go_wp2_with fail
          refine hC.mono ?_
          rintro e w6 ⟨rfl, b6⟩
          have hb6 := Lib.hid (hb5.out.trans (b6.mono hb5.out.size))
          clear hC b6 p0 p1 p2 p3
          go_wp2_with fail
          go_ret
          refine ⟨?_, hb6.out⟩
          rw [HE.out, H2.out, Bool.and_false, Bool.and_false]
          rfl
      · have e1 : ((t.toNat : Int) == 128) = false := by rw [beq_eq_false_iff_ne]; intro e; exact h1 (UInt8.toNat_inj.1 (by have : (128 : UInt8).toNat = 128 := rfl; omega))
        have H1 := Lib.hid (decide_eq_false h1)
        clear h1 hC
        go_wp2_with fail
        go_ret
        refine ⟨?_, hb5.out⟩
        rw [HE.out, H1.out, Bool.false_and, Bool.and_false]
        rfl
end Go.Proofs.YteknmgmdmjmnmaaGreatDoor







namespace Go.Proofs.YteknmgmdmjmnmaaGreatDoor
open Go.RowKit

set_option linter.unusedSimpArgs false
theorem outc_take {l : List Nd} {k : Nat} {m : Nd} (h : l[k]? = some m) (x : UInt32) : outc (l.take (k + 1)) x = if outc (l.take k) x ≠ 0 then outc (l.take k) x else if numD m.v = x then (if m.t = 49155 then 2 else 1) else 0 := by
  rw [take_some h]
  unfold outc
  rw [List.find?_append]
  cases hf : (l.take k).find? fun r => decide (numD r.v = x) with
  | some r =>
    simp only [Option.some_or]
    by_cases ht : r.t = 49155
    · simp [ht]
    · simp [ht]
  | none =>
    by_cases hx : numD m.v = x
    · simp [hx]
    · simp [hx]
set_option maxRecDepth 100000 in
set_option maxHeartbeats 16000000 in
theorem rresults18_any (q a : Ck) (hq4 : ∀ n ∈ q.ks.drop 1, n.v.length = 4) (ha4 : ∀ n ∈ a.ks, n.v.length = 4) (hql : q.ks.length ≤ 1000) (hal : a.ks.length ≤ 1000) (hq1 : 1 ≤ q.ks.length) (A : Option Addr) (c : Nat) (K : Option Addr) (k : Nat) (A' : Option Addr) (c' : Nat) (K' : Option Addr) (k' : Nat) (w : World) (hq : Chunk w w.heap.size A c K k q) (ha : Chunk w w.heap.size A' c' K' k' a) :
    Calls Tryz.prog 43 #[ckV q A c K k, ckV a A' c' K' k'] w fun e w' => ∃ A2 c2, e = .returned (.slice A2 (q.ks.drop 1).length c2) ∧ w'.ownsRow w.heap.size 3 1 (.slice A2 (q.ks.drop 1).length c2) (q.ks.drop 1).length ((outL q a).map iv18) ∧ Below w.heap.size w w' := by
  have b0 : Below w.heap.size w ((w.alloc (.cells (ckCells q A c K k) 62)).alloc (.cells (ckCells a A' c' K' k') 62)) := ((Below.refl _ w).alloc (Nat.le_refl _) _).alloc (by simp) _
  have x0 : CkBox _ w.heap.size q A c K k := (CkBox.new w q A c K k).alloc (.cells (ckCells a A' c' K' k') 62)
  have y0 := CkBox.new (w.alloc (.cells (ckCells q A c K k) 62)) a A' c' K' k'
  simp only [World.size_alloc] at y0
  have HKQ := Lib.hid (fun (V : World) (hV : Below w.heap.size w V) => (hq.on hV).kids)
  have HKA := Lib.hid (fun (V : World) (hV : Below w.heap.size w V) => (ha.on hV).kids)
  have HQ4 := Lib.hid hq4
  have HA4 := Lib.hid ha4
  have HOL : Hid (outL q a = (q.ks.drop 1).map fun n => outc a.ks (numD n.v)) := Lib.hid rfl
  clear hq ha hq4 ha4
  generalize outL q a = OL at *
  obtain ⟨t, fl, d, ks⟩ := q
  obtain ⟨t', fl', d', ks'⟩ := a
  simp only [ckV, ckCells] at *
  have HDL : Hid ((ks.drop 1).length + 1 = ks.length) := Lib.hid (by rw [List.length_drop]; omega)
  generalize hdl : (ks.drop 1).length = dl at *
  have HDL2 := Lib.hid hdl
  clear hdl
  go_enter Tryz.func43, Tryz.ntmps43
  go_upto_region 1 with fail
  generalize (w.alloc (.cells #[bv t, bv fl, .slice A d.length c, .slice K ks.length k] 62)).alloc (.cells #[bv t', bv fl', .slice A' d'.length c', .slice K' ks'.length k'] 62) = wa at *
  have X0 : Whole wa w.heap.size 62 #[bv t, bv fl, .slice A d.length c, .slice K ks.length k] := x0
  have Y0 : Whole wa (w.heap.size + 1) 62 #[bv t', bv fl', .slice A' d'.length c', .slice K' ks'.length k'] := y0
  have HB0 := Lib.hid b0
  have KX : Hid (∀ V, Below wa.heap.size wa V → V.cell? ⟨w.heap.size, 3, none⟩ = some (.slice K ks.length k) ∧ V.cell? ⟨w.heap.size + 1, 3, none⟩ = some (.slice K' ks'.length k')) := Lib.hid (fun V hV => ⟨(wh4 (X0.below hV X0.lt)).2.2.2, (wh4 (Y0.below hV Y0.lt)).2.2.2⟩)
  clear x0 y0 X0 Y0 b0
  go_wp2_with fail
  go_loopw [5, 6] (fun v i wr => ∃ (j : Nat) (Al : Option Addr) (cl : Nat), 1 ≤ j ∧ j ≤ ks.length ∧ i = .int .i64 (j : Int) ∧ v = .slice Al (j - 1) cl ∧ Hid (wr.ownsRow wa.heap.size 3 1 (.slice Al (j - 1) cl) (j - 1) ((OL.take (j - 1)).map iv18)) ∧ Below wa.heap.size wa wr) (fun _ i _ => ks.length - (intOf i).toNat)
  case atStart => exact ⟨1, none, 0, Nat.le_refl _, by omega, rfl, rfl, World.ownsRow_nil _ _ _ _, Below.refl _ _⟩
  case round =>
    obtain ⟨j, A2, c2, hj1, hj, rfl, rfl, hown, hbel⟩ := hrel
    have hsz := hbel.size
    obtain ⟨p1, p2⟩ := KX.out wr hbel
    by_cases hlt : j < ks.length
    · have hi1 : (j : Int) < (ks.length : Int) := by omega
      have HLT := Lib.hid hlt
      have hB := HB0.out.trans (hbel.mono HB0.out.size)
      obtain ⟨ad, An, cn, Kn, kn, n, hA, hadb, hn, -, d1, -, hNd⟩ := (HKQ.out wr hB).at_ (k := j) hlt
      subst hA
      have hnd : Hid ((ks.drop 1)[j - 1]? = some n) := Lib.hid (by rw [List.getElem?_drop, show 1 + (j - 1) = j by omega]; exact hn.out)
      have hn4 : Hid (n.v.length = 4) := Lib.hid (HQ4.out n (List.mem_of_getElem? hnd.out))
      have HNL : Hid (∀ V, Below wr.heap.size wr V → Lies V V.heap.size An (n.v.map bv)) := Lib.hid (fun V hV => (hNd.on hV).data)
      have KD : Hid (∀ V, Below wr.heap.size wr V → V.cell? ⟨(ad.add (j * 3)).block, (ad.add (j * 3)).off + 1, none⟩ = some (.slice An n.v.length cn)) := Lib.hid (fun V hV => (hV.cell (by rw [blk_add]; exact hadb)).trans d1)
      have HOE : Hid (OL.take (j - 1 + 1) = OL.take (j - 1) ++ [outc ks' (numD n.v)]) := Lib.hid (take_some (by rw [HOL.out, List.getElem?_map, hnd.out]; rfl))
      have HN1 : Hid (∀ V, Below wr.heap.size wr V → Calls Tryz.prog 37 #[.slice An n.v.length cn] V fun e w' => e = .returned (uv (numD n.v)) ∧ V = w') := Lib.hid (fun V hV => rnum18_any n.v hn4.out An cn V.heap.size V (HNL.out V hV))
      have HBR := Lib.hid hbel
      have HWB := Lib.hid hB
      clear hNd d1 hB hn hnd hn4 HNL hbel
      generalize n.v.length = lv at *
      generalize numD n.v = num at *
      clear p1 p2
      have p1 := (KX.out wr HBR.out).1
      have p2 := (KX.out wr HBR.out).2
      go_upto_block 2 with fail
      go_cut [7, 8] from 16 to 48 (fun r _ wx => r = .int .i64 ((outc ks' num : Nat) : Int) ∧ Hid (Below wr.heap.size wr wx))
      case first =>
        have HP1 := Lib.hid p1
        have HP2 := Lib.hid p2
        clear p1 p2
        go_wp2_with fail
        go_loopw [7, 8] (fun r i wi => ∃ kk : Nat, kk ≤ ks'.length ∧ i = .int .i64 (kk : Int) ∧ r = .int .i64 ((outc (ks'.take kk) num : Nat) : Int) ∧ Hid (Below wr.heap.size wr wi)) (fun _ i _ => ks'.length - (intOf i).toNat)
        case atStart => exact ⟨0, Nat.zero_le _, rfl, rfl, Lib.hid (Below.refl _ _)⟩
        case round =>
          obtain ⟨kk, hkk, rfl, rfl, hbi⟩ := hrel
          have hbw := HBR.out.trans (hbi.out.mono HBR.out.size)
          obtain ⟨p1, p2⟩ := KX.out wr hbw
          by_cases hlt2 : kk < ks'.length
          · have hi2 : (kk : Int) < (ks'.length : Int) := by omega
            have HLT2 := Lib.hid hlt2
            have hB2 := HWB.out.trans (hbi.out.mono HWB.out.size)
            obtain ⟨ad2, Am, cm, Km, km, m, hA2, hadb2, hm, e0, e1, -, hNm⟩ := (HKA.out wr hB2).at_ (k := kk) hlt2
            subst hA2
            have hm4 : Hid (m.v.length = 4) := Lib.hid (HA4.out m (List.mem_of_getElem? hm.out))
            have HN2 : Hid (∀ V, V = wr.drew → Calls Tryz.prog 37 #[.slice Am m.v.length cm] V fun e w' => e = .returned (uv (numD m.v)) ∧ V = w') := Lib.hid (fun V hV => by subst hV; exact rnum18_any m.v hm4.out Am cm wr.heap.size wr.drew hNm.data)
            have hd2 := KD.out wr hbi.out
            have HOT : Hid (outc (ks'.take (kk + 1)) num = if outc (ks'.take kk) num ≠ 0 then outc (ks'.take kk) num else if numD m.v = num then (if m.t = 49155 then 2 else 1) else 0) := Lib.hid (outc_take hm.out num)
            clear hNm hm4 hm hB2
            generalize outc (ks'.take kk) num = r0 at *
            generalize m.v.length = lm at *
            generalize numD m.v = nm at *
            generalize hmt : m.t = mt at *
            have HE0 : Hid (wr.cell? (ad2.add (kk * 3)) = some (hv mt)) := Lib.hid e0
            clear hmt e0
            by_cases h0 : r0 = 0
            · subst h0
              rw [if_neg (by simp)] at HOT
              have z1 : (((0 : Nat) : Int) == 0) = true := rfl
              have HN1w : Hid (∀ V, V = wr.drew → Calls Tryz.prog 37 #[.slice An lv cn] V fun e w' => e = .returned (uv num) ∧ V = w') := Lib.hid (fun V hV => by subst hV; exact HN1.out _ (below_drew hbi.out))
              have hS : Hid (wr.drew.cell? ⟨w.heap.size, 3, none⟩ = some (.slice (some ad) ks.length k) ∧ wr.drew.cell? ⟨w.heap.size + 1, 3, none⟩ = some (.slice (some ad2) ks'.length k') ∧ wr.drew.cell? ⟨(ad.add (j * 3)).block, (ad.add (j * 3)).off + 1, none⟩ = some (.slice An lv cn) ∧ wr.drew.cell? ⟨(ad2.add (kk * 3)).block, (ad2.add (kk * 3)).off + 1, none⟩ = some (.slice Am lm cm)) := Lib.hid ⟨p1, p2, hd2, e1⟩
              go_upto_region 9 with fail
              go_cut [41] from 23 to 41 (fun v wx => v = .bool (decide (nm = num)) ∧ wx = wr.drew)
              case first =>
                have hdd : ((nm.toNat : Int) == (num.toNat : Int)) = decide (nm = num) := by
                  rw [Bool.eq_iff_iff, beq_iff_eq, decide_eq_true_eq]
                  exact ⟨fun h => UInt32.toNat_inj.1 (by omega), fun h => by rw [h]⟩
                refine wp_region_held_drew (S := (fun V => V.cell? ⟨w.heap.size, 3, none⟩ = some (.slice (some ad) ks.length k) ∧ V.cell? ⟨w.heap.size + 1, 3, none⟩ = some (.slice (some ad2) ks'.length k') ∧ V.cell? ⟨(ad.add (j * 3)).block, (ad.add (j * 3)).off + 1, none⟩ = some (.slice An lv cn) ∧ V.cell? ⟨(ad2.add (kk * 3)).block, (ad2.add (kk * 3)).off + 1, none⟩ = some (.slice Am lm cm))) (by kernel_rfl) hS.out (fun hHeld => ?_)
                refine take_at (i := 0) (v := ?_) (some 23) rfl (by kernel_rfl) (by kernel_rfl) (by kernel_rfl) (fun _ _ _ h => h) (by kernel_rfl) (Or.inl ⟨by kernel_rfl, ?_⟩) (by assumption) ?_
                rotate_left
                · (intro w hSw; (try dsimp only at hSw); go_simp <;> with_reducible rfl)
                simp only [Act.put, List.setIfInBounds_toArray, List.set_cons_zero, List.set_cons_succ]
                refine take_at (i := 1) (v := ?_) (some 24) rfl (by kernel_rfl) (by kernel_rfl) (by kernel_rfl) (fun _ _ _ h => h) (by kernel_rfl) (Or.inl ⟨by kernel_rfl, ?_⟩) (by assumption) ?_
                rotate_left
                · (intro w hSw; (try dsimp only at hSw); go_simp <;> with_reducible rfl)
                simp only [Act.put, List.setIfInBounds_toArray, List.set_cons_zero, List.set_cons_succ]
                refine take_at (i := 2) (v := ?_) (some 25) rfl (by kernel_rfl) (by kernel_rfl) (by kernel_rfl) (fun _ _ _ h => h) (by kernel_rfl) (Or.inl ⟨by kernel_rfl, ?_⟩) (by assumption) ?_
                rotate_left
                · (intro w hSw; (try dsimp only at hSw); go_simp <;> with_reducible rfl)
                simp only [Act.put, List.setIfInBounds_toArray, List.set_cons_zero, List.set_cons_succ]
                refine take_at (i := 3) (v := ?_) (some 26) rfl (by kernel_rfl) (by kernel_rfl) (by kernel_rfl) (fun _ _ _ h => h) (by kernel_rfl) (Or.inl ⟨by kernel_rfl, ?_⟩) (by assumption) ?_
                rotate_left
                · (intro w hSw; (try dsimp only at hSw); go_simp <;> with_reducible rfl)
                simp only [Act.put, List.setIfInBounds_toArray, List.set_cons_zero, List.set_cons_succ]
                refine take_at (i := 4) (v := ?_) (some 27) rfl (by kernel_rfl) (by kernel_rfl) (by kernel_rfl) (fun _ _ _ h => h) (by kernel_rfl) (Or.inl ⟨by kernel_rfl, ?_⟩) (by assumption) ?_
                rotate_left
                · (intro w hSw; (try dsimp only at hSw); go_simp <;> with_reducible rfl)
                simp only [Act.put, List.setIfInBounds_toArray, List.set_cons_zero, List.set_cons_succ]
                refine take_at (i := 5) (v := ?_) (some 28) rfl (by kernel_rfl) (by kernel_rfl) (by kernel_rfl) (fun _ _ _ h => h) (by kernel_rfl) (Or.inl ⟨by kernel_rfl, ?_⟩) (by assumption) ?_
                rotate_left
                · (intro w hSw; (try dsimp only at hSw); go_simp <;> with_reducible rfl)
                simp only [Act.put, List.setIfInBounds_toArray, List.set_cons_zero, List.set_cons_succ]
                refine take_at (i := 6) (v := ?_) (some 29) rfl (by kernel_rfl) (by kernel_rfl) (by kernel_rfl) (fun _ _ _ h => h) (by kernel_rfl) (Or.inl ⟨by kernel_rfl, ?_⟩) (by assumption) ?_
                rotate_left
                · (intro w hSw; (try dsimp only at hSw); go_simp <;> with_reducible rfl)
                simp only [Act.put, List.setIfInBounds_toArray, List.set_cons_zero, List.set_cons_succ]
                refine take_at (i := 7) (v := ?_) (some 30) rfl (by kernel_rfl) (by kernel_rfl) (by kernel_rfl) (fun _ _ _ h => h) (by kernel_rfl) (Or.inl ⟨by kernel_rfl, ?_⟩) (by assumption) ?_
                rotate_left
                · (intro w hSw; (try dsimp only at hSw); go_simp <;> with_reducible rfl)
                simp only [Act.put, List.setIfInBounds_toArray, List.set_cons_zero, List.set_cons_succ]
                refine take_at (i := 8) (v := ?_) (some 31) rfl (by kernel_rfl) (by kernel_rfl) (by kernel_rfl) (fun _ _ _ h => h) (by kernel_rfl) (Or.inl ⟨by kernel_rfl, ?_⟩) (by assumption) ?_
                rotate_left
                · (intro w hSw; (try dsimp only at hSw); go_simp <;> with_reducible rfl)
                simp only [Act.put, List.setIfInBounds_toArray, List.set_cons_zero, List.set_cons_succ]
                refine take_at (i := 10) (v := ?_) (some 33) rfl (by kernel_rfl) (by kernel_rfl) (by kernel_rfl) (fun _ _ _ h => h) (by kernel_rfl) (Or.inl ⟨by kernel_rfl, ?_⟩) (by assumption) ?_
                rotate_left
                · (intro w hSw; (try dsimp only at hSw); go_simp <;> with_reducible rfl)
                simp only [Act.put, List.setIfInBounds_toArray, List.set_cons_zero, List.set_cons_succ]
                refine take_at (i := 11) (v := ?_) (some 34) rfl (by kernel_rfl) (by kernel_rfl) (by kernel_rfl) (fun _ _ _ h => h) (by kernel_rfl) (Or.inl ⟨by kernel_rfl, ?_⟩) (by assumption) ?_
                rotate_left
                · (intro w hSw; (try dsimp only at hSw); go_simp <;> with_reducible rfl)
                simp only [Act.put, List.setIfInBounds_toArray, List.set_cons_zero, List.set_cons_succ]
                refine take_at (i := 12) (v := ?_) (some 35) rfl (by kernel_rfl) (by kernel_rfl) (by kernel_rfl) (fun _ _ _ h => h) (by kernel_rfl) (Or.inl ⟨by kernel_rfl, ?_⟩) (by assumption) ?_
                rotate_left
                · (intro w hSw; (try dsimp only at hSw); go_simp <;> with_reducible rfl)
                simp only [Act.put, List.setIfInBounds_toArray, List.set_cons_zero, List.set_cons_succ]
                refine take_at (i := 13) (v := ?_) (some 36) rfl (by kernel_rfl) (by kernel_rfl) (by kernel_rfl) (fun _ _ _ h => h) (by kernel_rfl) (Or.inl ⟨by kernel_rfl, ?_⟩) (by assumption) ?_
                rotate_left
                · (intro w hSw; (try dsimp only at hSw); go_simp <;> with_reducible rfl)
                simp only [Act.put, List.setIfInBounds_toArray, List.set_cons_zero, List.set_cons_succ]
                refine take_at (i := 14) (v := ?_) (some 37) rfl (by kernel_rfl) (by kernel_rfl) (by kernel_rfl) (fun _ _ _ h => h) (by kernel_rfl) (Or.inl ⟨by kernel_rfl, ?_⟩) (by assumption) ?_
                rotate_left
                · (intro w hSw; (try dsimp only at hSw); go_simp <;> with_reducible rfl)
                simp only [Act.put, List.setIfInBounds_toArray, List.set_cons_zero, List.set_cons_succ]
                refine take_at (i := 15) (v := ?_) (some 38) rfl (by kernel_rfl) (by kernel_rfl) (by kernel_rfl) (fun _ _ _ h => h) (by kernel_rfl) (Or.inl ⟨by kernel_rfl, ?_⟩) (by assumption) ?_
                rotate_left
                · (intro w hSw; (try dsimp only at hSw); go_simp <;> with_reducible rfl)
                simp only [Act.put, List.setIfInBounds_toArray, List.set_cons_zero, List.set_cons_succ]
                refine wpAnyH_ready (rs := [9]) (by kernel_rfl) (by simp) ?_
                refine AllReadyH.cons rfl (fun K hK => ?_) AllReadyH.nil
                go_simp
                (with_reducible refine (HN2.out wr.drew rfl).mono ?_); rintro e w6 ⟨rfl, rfl⟩
                go_wp2_with fail
                clear hHeld
                refine hK.out _ _ hS.out (fun hHeld => ?_)
                clear hK K
                try simp only [Act.put, List.setIfInBounds_toArray, List.set_cons_zero, List.set_cons_succ]
                refine wpAnyH_ready (rs := [16]) (by kernel_rfl) (by simp) ?_
                refine AllReadyH.cons rfl (fun K hK => ?_) AllReadyH.nil
                go_simp
                (with_reducible refine (HN1w.out wr.drew rfl).mono ?_); rintro e w6 ⟨rfl, rfl⟩
                go_wp2_with fail
                clear hHeld
                refine hK.out _ _ hS.out (fun hHeld => ?_)
                clear hK K
                try simp only [Act.put, List.setIfInBounds_toArray, List.set_cons_zero, List.set_cons_succ]
                refine take_at (i := 17) (v := ?_) (some 40) rfl (by kernel_rfl) (by kernel_rfl) (by kernel_rfl) (fun _ _ _ h => h) (by kernel_rfl) (Or.inl ⟨by kernel_rfl, ?_⟩) (by assumption) ?_
                rotate_left
                · (intro w hSw; (try dsimp only at hSw); go_simp <;> with_reducible rfl)
                simp only [Act.put, List.setIfInBounds_toArray, List.set_cons_zero, List.set_cons_succ]
                refine take_at (i := 18) (v := ?_) (some 41) rfl (by kernel_rfl) (by kernel_rfl) (by kernel_rfl) (fun _ _ _ h => h) (by kernel_rfl) (Or.inl ⟨by kernel_rfl, ?_⟩) (by assumption) ?_
                rotate_left
                · (intro w hSw; (try dsimp only at hSw); go_simp <;> with_reducible rfl)
                simp only [Act.put, List.setIfInBounds_toArray, List.set_cons_zero, List.set_cons_succ]
                refine wpAnyH_done (by kernel_rfl) ?_ _
                go_wp2_with fail
                go_meet
                exact ⟨by rw [← hdd], rfl⟩
              case rest =>
                obtain ⟨rfl, rfl⟩ := hcut
                have bF := Lib.hid (below_drew hbi.out)
                have f0 : wr.drew.cell? (ad2.add (kk * 3)) = some (hv mt) := HE0.out
                have f2 : wr.drew.cell? ⟨w.heap.size + 1, 3, none⟩ = some (.slice (some ad2) ks'.length k') := p2
                generalize wr.drew = w5 at *
                cases hne : decide (nm = num) with
                | false =>
                  rw [if_neg (of_decide_eq_false hne)] at HOT
                  clear hne
                  go_wp2_with fail
                  go_roundw
                  case rel => exact ⟨kk + 1, by have := HLT2.out; omega, by go_num, by rw [HOT.out], bF⟩
                  case measure => have := HLT2.out; simp [intOf]; omega
                | true =>
                  rw [if_pos (of_decide_eq_true hne)] at HOT
                  clear hne
                  by_cases ht : mt = 49155
                  · rw [if_pos ht] at HOT
                    have e5 : ((mt.toNat : Int) == 49155) = true := by rw [beq_iff_eq, ht]; rfl
                    clear ht
                    go_wp2_with fail
                    go_roundw
                    case rel => exact ⟨kk + 1, by have := HLT2.out; omega, by go_num, by rw [HOT.out]; rfl, bF⟩
                    case measure => have := HLT2.out; simp [intOf]; omega
                  · rw [if_neg ht] at HOT
                    have e5 : ((mt.toNat : Int) == 49155) = false := beq_eq_false_iff_ne.2 fun e => ht (UInt16.toNat_inj.1 (by show mt.toNat = 49155; omega))
                    clear ht
                    go_wp2_with fail
                    go_roundw
                    case rel => exact ⟨kk + 1, by have := HLT2.out; omega, by go_num, by rw [HOT.out]; rfl, bF⟩
                    case measure => have := HLT2.out; simp [intOf]; omega
            · rw [if_pos h0] at HOT
              have z1 : ((r0 : Int) == 0) = false := by rw [beq_eq_false_iff_ne]; omega
              have bF := Lib.hid (below_drew hbi.out)
              clear h0
              go_upto_region 9 with fail
              refine wp_region_held_drew (S := (fun _ => True)) (by kernel_rfl) trivial (fun hHeld => ?_)
              refine take_at (i := 0) (v := ?_) (some 23) rfl (by kernel_rfl) (by kernel_rfl) (by kernel_rfl) (fun _ _ _ h => h) (by kernel_rfl) (Or.inl ⟨by kernel_rfl, ?_⟩) (by assumption) ?_
              rotate_left
              · (intro w hSw; (try dsimp only at hSw); go_simp <;> with_reducible rfl)
              simp only [Act.put, List.setIfInBounds_toArray, List.set_cons_zero, List.set_cons_succ]
              refine take_at (i := 1) (v := ?_) (some 24) rfl (by kernel_rfl) (by kernel_rfl) (by kernel_rfl) (fun _ _ _ h => h) (by kernel_rfl) (Or.inl ⟨by kernel_rfl, ?_⟩) (by assumption) ?_
              rotate_left
              · (intro w hSw; (try dsimp only at hSw); go_simp <;> with_reducible rfl)
              simp only [Act.put, List.setIfInBounds_toArray, List.set_cons_zero, List.set_cons_succ]
              refine take_at (i := 2) (v := ?_) (some 25) rfl (by kernel_rfl) (by kernel_rfl) (by kernel_rfl) (fun _ _ _ h => h) (by kernel_rfl) (Or.inl ⟨by kernel_rfl, ?_⟩) (by assumption) ?_
              rotate_left
              · (intro w hSw; (try dsimp only at hSw); go_simp <;> with_reducible rfl)
              simp only [Act.put, List.setIfInBounds_toArray, List.set_cons_zero, List.set_cons_succ]
              refine take_at (i := 3) (v := undef) (some 26) rfl (by kernel_rfl) (by kernel_rfl) (by kernel_rfl) (fun _ _ _ h => h) (by kernel_rfl) (Or.inr ⟨by kernel_rfl, rfl⟩) (by assumption) ?_
              simp only [Act.put, List.setIfInBounds_toArray, List.set_cons_zero, List.set_cons_succ]
              refine take_at (i := 4) (v := undef) (some 27) rfl (by kernel_rfl) (by kernel_rfl) (by kernel_rfl) (fun _ _ _ h => h) (by kernel_rfl) (Or.inr ⟨by kernel_rfl, rfl⟩) (by assumption) ?_
              simp only [Act.put, List.setIfInBounds_toArray, List.set_cons_zero, List.set_cons_succ]
              refine take_at (i := 5) (v := undef) (some 28) rfl (by kernel_rfl) (by kernel_rfl) (by kernel_rfl) (fun _ _ _ h => h) (by kernel_rfl) (Or.inr ⟨by kernel_rfl, rfl⟩) (by assumption) ?_
              simp only [Act.put, List.setIfInBounds_toArray, List.set_cons_zero, List.set_cons_succ]
              refine take_at (i := 6) (v := undef) (some 29) rfl (by kernel_rfl) (by kernel_rfl) (by kernel_rfl) (fun _ _ _ h => h) (by kernel_rfl) (Or.inr ⟨by kernel_rfl, rfl⟩) (by assumption) ?_
              simp only [Act.put, List.setIfInBounds_toArray, List.set_cons_zero, List.set_cons_succ]
              refine take_at (i := 7) (v := undef) (some 30) rfl (by kernel_rfl) (by kernel_rfl) (by kernel_rfl) (fun _ _ _ h => h) (by kernel_rfl) (Or.inr ⟨by kernel_rfl, rfl⟩) (by assumption) ?_
              simp only [Act.put, List.setIfInBounds_toArray, List.set_cons_zero, List.set_cons_succ]
              refine take_at (i := 8) (v := undef) (some 31) rfl (by kernel_rfl) (by kernel_rfl) (by kernel_rfl) (fun _ _ _ h => h) (by kernel_rfl) (Or.inr ⟨by kernel_rfl, rfl⟩) (by assumption) ?_
              simp only [Act.put, List.setIfInBounds_toArray, List.set_cons_zero, List.set_cons_succ]
              refine take_at (i := 9) (v := undef) (some 32) rfl (by kernel_rfl) (by kernel_rfl) (by kernel_rfl) (fun _ _ _ h => h) (by kernel_rfl) (Or.inr ⟨by kernel_rfl, rfl⟩) (by assumption) ?_
              simp only [Act.put, List.setIfInBounds_toArray, List.set_cons_zero, List.set_cons_succ]
              refine take_at (i := 10) (v := undef) (some 33) rfl (by kernel_rfl) (by kernel_rfl) (by kernel_rfl) (fun _ _ _ h => h) (by kernel_rfl) (Or.inr ⟨by kernel_rfl, rfl⟩) (by assumption) ?_
              simp only [Act.put, List.setIfInBounds_toArray, List.set_cons_zero, List.set_cons_succ]
              refine take_at (i := 11) (v := undef) (some 34) rfl (by kernel_rfl) (by kernel_rfl) (by kernel_rfl) (fun _ _ _ h => h) (by kernel_rfl) (Or.inr ⟨by kernel_rfl, rfl⟩) (by assumption) ?_
              simp only [Act.put, List.setIfInBounds_toArray, List.set_cons_zero, List.set_cons_succ]
              refine take_at (i := 12) (v := undef) (some 35) rfl (by kernel_rfl) (by kernel_rfl) (by kernel_rfl) (fun _ _ _ h => h) (by kernel_rfl) (Or.inr ⟨by kernel_rfl, rfl⟩) (by assumption) ?_
              simp only [Act.put, List.setIfInBounds_toArray, List.set_cons_zero, List.set_cons_succ]
              refine take_at (i := 13) (v := undef) (some 36) rfl (by kernel_rfl) (by kernel_rfl) (by kernel_rfl) (fun _ _ _ h => h) (by kernel_rfl) (Or.inr ⟨by kernel_rfl, rfl⟩) (by assumption) ?_
              simp only [Act.put, List.setIfInBounds_toArray, List.set_cons_zero, List.set_cons_succ]
              refine take_at (i := 14) (v := undef) (some 37) rfl (by kernel_rfl) (by kernel_rfl) (by kernel_rfl) (fun _ _ _ h => h) (by kernel_rfl) (Or.inr ⟨by kernel_rfl, rfl⟩) (by assumption) ?_
              simp only [Act.put, List.setIfInBounds_toArray, List.set_cons_zero, List.set_cons_succ]
              refine take_at (i := 15) (v := undef) (some 38) rfl (by kernel_rfl) (by kernel_rfl) (by kernel_rfl) (fun _ _ _ h => h) (by kernel_rfl) (Or.inr ⟨by kernel_rfl, rfl⟩) (by assumption) ?_
              simp only [Act.put, List.setIfInBounds_toArray, List.set_cons_zero, List.set_cons_succ]
              refine take_at (i := 16) (v := undef) (some 39) rfl (by kernel_rfl) (by kernel_rfl) (by kernel_rfl) (fun _ _ _ h => h) (by kernel_rfl) (Or.inr ⟨by kernel_rfl, rfl⟩) (by assumption) ?_
              simp only [Act.put, List.setIfInBounds_toArray, List.set_cons_zero, List.set_cons_succ]
              refine take_at (i := 17) (v := undef) (some 40) rfl (by kernel_rfl) (by kernel_rfl) (by kernel_rfl) (fun _ _ _ h => h) (by kernel_rfl) (Or.inr ⟨by kernel_rfl, rfl⟩) (by assumption) ?_
              simp only [Act.put, List.setIfInBounds_toArray, List.set_cons_zero, List.set_cons_succ]
              refine take_at (i := 18) (v := ?_) (some 41) rfl (by kernel_rfl) (by kernel_rfl) (by kernel_rfl) (fun _ _ _ h => h) (by kernel_rfl) (Or.inl ⟨by kernel_rfl, ?_⟩) (by assumption) ?_
              rotate_left
              · (intro w hSw; (try dsimp only at hSw); go_simp <;> with_reducible rfl)
              simp only [Act.put, List.setIfInBounds_toArray, List.set_cons_zero, List.set_cons_succ]
              refine wpAnyH_done (by kernel_rfl) ?_ _
              go_wp2_with fail
              go_roundw
              case rel => exact ⟨kk + 1, by have := HLT2.out; omega, by go_num, by rw [HOT.out], bF⟩
              case measure => have := HLT2.out; simp [intOf]; omega
          · obtain rfl : kk = ks'.length := by omega
            have hi2 : ¬ (ks'.length : Int) < (ks'.length : Int) := by omega
            rw [List.take_length]
            go_wp2_with fail
            go_meet
            exact ⟨rfl, hbi⟩
      case rest =>
        obtain ⟨rfl, hbx⟩ := hcut
        have hbw := HBR.out.trans (hbx.out.mono HBR.out.size)
        have hs7 := hbw.size
        have O6 := Lib.hid (own_below' hown.out hbx.out)
        have L6 := Lib.hid (Lies.new1 wc (iv18 (outc ks' num)) 3)
        have O7 := Lib.hid (O6.out.alloc (.cells #[iv18 (outc ks' num)] 3))
        have hj3 : j - 1 ≤ 1000 := by omega
        clear hown p1 p2
        generalize outc ks' num = oc at *
        go_wp2_with (at_builtin; refine wpList_append_lies _ rfl (.tmp 49) (.tmp 51) 75 rfl wa.heap.size 3 _ 8 Tryz.underlying75 intinfo18 rfl _ _ _ rfl O7.out _ _ 1 1 [iv18 oc] rfl rfl L6.out (by intro u hu; rw [List.mem_singleton.1 hu]; rfl) (by omega) (by unfold maxLen; omega) (by simp; omega) ?_; intro A7 c7 w7 hown7 hgrow7 _)
        have H7 : Hid (w7.ownsRow wa.heap.size 3 1 (.slice A7 (j - 1 + 1) c7) (j - 1 + 1) ((OL.take (j - 1 + 1)).map iv18)) := by
          unfold Hid
          rw [HOE.out, List.map_append]
          exact hown7
        have hb7 : Below wa.heap.size wa w7 := (hbw.alloc hs7 _).grown hgrow7 (by simp; omega) (fun q e => (O6.out.lt q e).1)
        clear hown7 hgrow7
        have hj9 : j - 1 + 1 = j + 1 - 1 := by omega
        rw [hj9] at H7
        go_wp2_with fail
        go_roundw
        case rel => exact ⟨j + 1, A7, c7, by omega, by have := HLT.out; omega, by go_num, by rw [show j + 1 - 1 = j by omega], H7, hb7⟩
        case measure => have := HLT.out; simp [intOf]; omega
    · obtain rfl : j = ks.length := by omega
      have hi1 : ¬ (ks.length : Int) < (ks.length : Int) := by omega
      have hlen : ks.length - 1 = dl := by have := HDL.out; omega
      have HE : Hid (wr.ownsRow w.heap.size 3 1 (.slice A2 dl c2) dl (OL.map iv18)) := by
        have h1 := hown.out
        rw [List.take_of_length_le (by rw [HOL.out, List.length_map, HDL2.out]; omega), hlen] at h1
        exact own_base h1 HB0.out.size
      have hbw := Lib.hid (HB0.out.trans (hbel.mono HB0.out.size))
      have HLN := Lib.hid hlen
      clear hown hlen
      go_wp2_with fail
      go_ret
      exact ⟨A2, c2, by rw [← HLN.out]; rfl, HE.out, hbw.out⟩
end Go.Proofs.YteknmgmdmjmnmaaGreatDoor


