/- Layer 12: what the statements call told and coded, for whatever errors. They write nothing that was there. -/
/- Layer 12: what the statements check first (awake). It writes nothing that was there. -/
import Derived.Test.YthkbcpbgoefanaaGreatDoorQE
import Derived.Test.YthkbcpbgoefanaaGreatDoorQNodeE
import Derived.BigGuard
import Derived.Test.YthkbcpbgoefanaaGreatDoorQCG
import Derived.Test.YthkbcpbgoefanaaGreatDoorQCI
import Derived.Test.YthkbcpbgoefanaaGreatDoorQChunkL
import Derived.Test.YthkbcpbgoefanaaGreatDoorQA
import Derived.Deep.RegionHeld3



namespace Go.Proofs.YthkbcpbgoefanaaGreatDoor
open Go.RowKit

theorem eq_codes12 (c d : Int) (w : World) : (binOp .eql 30 (.iface 97 (.int .i64 c)) (.iface 97 (.int .i64 d))).run Tryz.prog w = .ok (.bool (c == d)) w := by
  obtain ⟨i, hi, hc⟩ := Option.map_eq_some_iff.1 (show (Tryz.prog.info? 97).map (fun i => i.comparable) = some true by kernel_rfl)
  have e : ∀ k, (Op.equalIn (k + 2) 30 (.iface 97 (.int .i64 c)) (.iface 97 (.int .i64 d))).run Tryz.prog w = .ok (c == d) w := fun k => by
    simp [Op.equalIn, run_underlying Tryz.underlying30, run_underlying Tryz.underlying97, typeInfo, hi, hc]
  simp only [binOp]
  simp [Op.equal, Op.maxDepth, e 9998]
theorem eq_nil12 (d : Int) (w : World) : (binOp .eql 30 .nilIface (.iface 97 (.int .i64 d))).run Tryz.prog w = .ok (.bool false) w := by kernel_rfl
set_option maxRecDepth 100000 in
theorem coded12 (c d : Nat) (w : World) : Calls Tryz.prog 17 #[codeE c, .int .i64 (d : Int)] w fun e w' => e = .returned (.bool (decide (c = d))) ∧ w = w' := by
  by_cases hd : d = 0
  · subst hd
    by_cases hc : c = 0
    · subst hc
      unfold codeE
      simp only [if_true, decide_true]
      go_enter Tryz.func17, Tryz.ntmps17
      go_wp2_with fail
      go_ret
      exact ⟨rfl, rfl⟩
    · unfold codeE codeV
      rw [if_neg hc, decide_eq_false hc]
      clear hc
      go_enter Tryz.func17, Tryz.ntmps17
      go_wp2_with fail
      go_ret
      exact ⟨rfl, rfl⟩
  · have hz : ((d : Int) == 0) = false := by rw [beq_eq_false_iff_ne]; omega
    by_cases hc : c = 0
    · subst hc
      rw [decide_eq_false (fun e => hd e.symm)]
      unfold codeE
      simp only [if_true]
      have hq2 := eq_nil12 (d : Int) w
      clear hd
      go_enter Tryz.func17, Tryz.ntmps17
      go_wp2_with fail
      go_ret
      exact ⟨rfl, rfl⟩
    · have hq := eq_codes12 (c : Int) (d : Int)
      have he : ((c : Int) == (d : Int)) = decide (c = d) := by
        by_cases h : c = d
        · rw [decide_eq_true h, beq_iff_eq]; omega
        · rw [decide_eq_false h, beq_eq_false_iff_ne]; omega
      rw [he] at hq
      unfold codeE codeV
      rw [if_neg hc]
      generalize decide (c = d) = b at *
      have hq2 := hq w
      clear hd hc he hq
      go_enter Tryz.func17, Tryz.ntmps17
      go_wp2_with fail
      go_ret
      exact ⟨rfl, rfl⟩
theorem At_nil12 (w : World) :
    Calls Tryz.prog 77 #[.nilIface] w fun e w' => e = .returned (.tuple #[.int .i64 0, .bool false]) ∧ Below w.heap.size w w' := by
  go_enter Tryz.func77, Tryz.ntmps77
  go_wp2_with fail
  refine (find_nil _ _ _).mono ?_
  rintro e w1 ⟨rfl, b1⟩
  go_wp2_with fail
  go_ret2
  exact ⟨rfl, ((Below.refl _ _).alloc (Nat.le_refl _) _).trans (b1.mono (by simp))⟩
/-- an error with its offset, or none -/
def errO : Option (Nat × Nat) → Value
  | none => .nilIface
  | some p => faultV (p.1 : Int) (p.2 : Int)
def tolB (o : Option (Nat × Nat)) (c a : Nat) : Bool := match o with
  | none => decide (c = 0)
  | some p => decide (c ≠ 0) && (decide (p.1 = c) && decide (p.2 = a))
set_option maxRecDepth 100000 in
set_option maxHeartbeats 1000000 in
theorem told12 (o : Option (Nat × Nat)) (c a : Nat) (w : World) (hh : Handle w) : Calls Tryz.prog 26 #[errO o, .int .i64 (c : Int), .int .i64 (a : Int)] w fun e w' => e = .returned (.bool (tolB o c a)) ∧ Below w.heap.size w w' := by
  by_cases hc : c = 0
  · subst hc
    cases o with
    | none =>
      unfold errO tolB
      simp only [decide_true]
      go_enter Tryz.func26, Tryz.ntmps26
      go_wp2_with fail
      go_ret
      exact ⟨rfl, Below.refl _ _⟩
    | some p =>
      unfold errO tolB faultV
      simp only [ne_eq, not_true_eq_false, decide_false, Bool.false_and]
      go_enter Tryz.func26, Tryz.ntmps26
      go_wp2_with fail
      go_ret
      exact ⟨rfl, Below.refl _ _⟩
  · have hz : ((c : Int) == 0) = false := by rw [beq_eq_false_iff_ne]; omega
    cases o with
    | none =>
      unfold errO tolB
      simp only []
      rw [decide_eq_false hc]
      have hC := Code_nil
      have hA := At_nil12
      clear hc
      go_enter Tryz.func26, Tryz.ntmps26
      go_wp2_with fail
      refine (hC _).mono ?_
      rintro e w2 ⟨rfl, b2⟩
      go_wp2_with fail
      refine (hA _).mono ?_
      rintro e w3 ⟨rfl, b3⟩
      go_wp2_with fail
      go_ret
      exact ⟨rfl, b2.trans (b3.mono b2.size)⟩
    | some p =>
      obtain ⟨p1, p2⟩ := p
      unfold errO tolB
      simp only []
      rw [decide_eq_true hc, Bool.true_and]
      have hC := Code_any true (p1 : Int) (p2 : Int) w hh
      have hA := fun W hW => At_fault (p1 : Int) (p2 : Int) W hW
      simp only [baseV, if_true] at hC
      have e1 : ((p1 : Int) == (c : Int)) = decide (p1 = c) := by
        by_cases h : p1 = c
        · rw [decide_eq_true h, beq_iff_eq]; omega
        · rw [decide_eq_false h, beq_eq_false_iff_ne]; omega
      have e2 : ((p2 : Int) == (a : Int)) = decide (p2 = a) := by
        by_cases h : p2 = a
        · rw [decide_eq_true h, beq_iff_eq]; omega
        · rw [decide_eq_false h, beq_eq_false_iff_ne]; omega
      cases h1 : decide (p1 = c) with
      | false =>
        rw [h1] at e1
        simp only [Bool.false_and]
        clear hc h1
        go_enter Tryz.func26, Tryz.ntmps26
        go_wp2_with fail
        refine hC.mono ?_
        rintro e w2 ⟨rfl, b2⟩
        go_wp2_with fail
        refine (hA _ (hh.below b2 hh.lt)).mono ?_
        rintro e w3 ⟨rfl, b3⟩
        go_wp2_with fail
        go_ret
        exact ⟨rfl, b2.trans (b3.mono b2.size)⟩
      | true =>
        rw [h1] at e1
        simp only [Bool.true_and]
        rw [← e2]
        clear hc h1 e2
        go_enter Tryz.func26, Tryz.ntmps26
        go_wp2_with fail
        refine hC.mono ?_
        rintro e w2 ⟨rfl, b2⟩
        go_wp2_with fail
        refine (hA _ (hh.below b2 hh.lt)).mono ?_
        rintro e w3 ⟨rfl, b3⟩
        go_wp2_with fail
        go_ret
        exact ⟨rfl, b2.trans (b3.mono b2.size)⟩
end Go.Proofs.YthkbcpbgoefanaaGreatDoor









namespace Go.Proofs.YthkbcpbgoefanaaGreatDoor
open Go.RowKit

set_option linter.unusedSimpArgs false
def ck0 : Ck := ⟨7, 0, [0, 0, 0, 9], []⟩
def ck1 : Ck := ⟨7, 0, [], []⟩
theorem fine0 : CkFine ck0 := ⟨by decide, by decide, by intro k hk; cases hk⟩
theorem fine1 : CkFine ck1 := ⟨by decide, by decide, by intro k hk; cases hk⟩
theorem aw_chk : chkC ck0 = 0 := by decide +kernel
theorem aw_chk1 : chkC ck1 = 7 := by decide +kernel
theorem aw_B : ckB ck0 = [7, 0, 0, 8, 0, 0, 0, 9] := by decide +kernel
theorem aw_sz : csz ck0 = 8 := by decide +kernel
theorem pa_nil12 (c : Int) : pa 4 c [] = .ok [] := pa_good 4 c [] (by simp)
theorem aw_front : frontC [7, 0, 0, 8, 0, 0, 0, 9] = ck0 := by
  unfold frontC
  rw [show frO [7, 0, 0, 8, 0, 0, 0, 9] = 8 by decide +kernel]
  rfl
theorem aw_pa : cpa [7, 0, 0, 8, 0, 0, 0, 9] = .ok ck0 := by
  unfold cpa
  rw [if_neg (by decide +kernel), aw_front, show ck4 ck0 = none by decide +kernel]
  simp only []
  rw [show frO [7, 0, 0, 8, 0, 0, 0, 9] = 8 by decide +kernel, show ([7, 0, 0, 8, 0, 0, 0, 9] : List UInt8).drop 8 = [] by rfl, pa_nil12]
  simp only []
  rw [if_neg (by decide +kernel)]
  rfl
theorem aw_front2 : frontC [7, 1, 0, 8, 0, 0, 0, 9] = ⟨7, 1, [0, 0, 0, 9], []⟩ := by
  unfold frontC
  rw [show frO [7, 1, 0, 8, 0, 0, 0, 9] = 8 by decide +kernel]
  rfl
theorem aw_pbad : cpa [7, 1, 0, 8, 0, 0, 0, 9] = .bad 6 1 := by
  unfold cpa
  rw [if_neg (by decide +kernel), aw_front2, show ck4 ⟨7, 1, [0, 0, 0, 9], []⟩ = some (6, 1) by decide +kernel]
theorem aw_par : parB 7 = false := by decide +kernel
theorem csame_t (A : Option Addr) (c : Nat) (K : Option Addr) (k : Nat) (A' : Option Addr) (c' : Nat) (K' : Option Addr) (k' : Nat) (w : World) (ha : Chunk w w.heap.size A c K k ck0) (hb : Chunk w w.heap.size A' c' K' k' ck0) :
    Calls Tryz.prog 33 #[ckV ck0 A c K k, ckV ck0 A' c' K' k'] w fun e w' => e = .returned (.bool true) ∧ Below w.heap.size w w' := by
  have h := csame_any ck0 ck0 (by decide) (by intro n hn; cases hn) A c K k A' c' K' k' w ha hb
  rwa [ckEq_self] at h
theorem cclone_0 (A : Option Addr) (c : Nat) (K : Option Addr) (k : Nat) (w : World) (h : Chunk w w.heap.size A c K k ck0) :
    Calls Tryz.prog 29 #[ckV ck0 A c K k] w fun e w' => ∃ A' c' K' k', e = .returned (ckV ck0 A' c' K' k') ∧ Chunk w' w'.heap.size A' c' K' k' ck0 ∧ Below w.heap.size w w' := by
  refine (cclone_any ck0 (by decide) (by decide) (by intro n hn; cases hn) A c K k w h).mono ?_
  rintro e w' ⟨A', c', K', k', h1, h2, h3⟩
  exact ⟨A', c', K', k', h1, h2.chunk (fun b hb => hb.2), h3⟩
theorem cparams_0 (A : Option Addr) (c : Nat) (K : Option Addr) (k : Nat) (w : World) (h : Chunk w w.heap.size A c K k ck0) :
    Calls Tryz.prog 30 #[ckV ck0 A c K k] w fun e w' => (∃ A' c', e = .returned (.slice A' 0 c')) ∧ Below w.heap.size w w' := by
  refine (cparams_any ck0 (by decide) (by intro n hn; cases hn) A c K k w h).mono ?_
  rintro e w' ⟨A', c', h1, _, _, _, h5⟩
  exact ⟨⟨A', c', h1⟩, h5⟩
set_option maxRecDepth 100000 in
set_option maxHeartbeats 8000000 in
theorem cawake_any (w : World) (hh : Handle w) : Calls Tryz.prog 13 #[] w fun e w' => e = .returned (.bool true) ∧ Below w.heap.size w w' := by
  have bA : Below w.heap.size w ((w.alloc (.cells #[.int .u8 0, .int .u8 0, .int .u8 0, .int .u8 9] 5)).alloc (.cells #[.int .u8 7, .int .u8 0, .slice (some ⟨w.heap.size, 0, none⟩) 4 4, .slice none 0 0] 25)) := ((Below.refl _ w).alloc (Nat.le_refl _) _).alloc (by simp) _
  have x0 : CkBox ((w.alloc (.cells #[.int .u8 0, .int .u8 0, .int .u8 0, .int .u8 9] 5)).alloc (.cells #[.int .u8 7, .int .u8 0, .slice (some ⟨w.heap.size, 0, none⟩) 4 4, .slice none 0 0] 25)) (w.heap.size + 1) ck0 (some ⟨w.heap.size, 0, none⟩) 4 none 0 := by
    have := Whole.new (w.alloc (.cells #[.int .u8 0, .int .u8 0, .int .u8 0, .int .u8 9] 5)) 25 #[.int .u8 7, .int .u8 0, .slice (some ⟨w.heap.size, 0, none⟩) 4 4, .slice none 0 0]
    rw [World.size_alloc] at this
    exact this
  have hsz : ((w.alloc (.cells #[.int .u8 0, .int .u8 0, .int .u8 0, .int .u8 9] 5)).alloc (.cells #[.int .u8 7, .int .u8 0, .slice (some ⟨w.heap.size, 0, none⟩) 4 4, .slice none 0 0] 25)).heap.size = w.heap.size + 1 + 1 := by simp
  have h0 : Chunk ((w.alloc (.cells #[.int .u8 0, .int .u8 0, .int .u8 0, .int .u8 9] 5)).alloc (.cells #[.int .u8 7, .int .u8 0, .slice (some ⟨w.heap.size, 0, none⟩) 4 4, .slice none 0 0] 25)) ((w.alloc (.cells #[.int .u8 0, .int .u8 0, .int .u8 0, .int .u8 9] 5)).alloc (.cells #[.int .u8 7, .int .u8 0, .slice (some ⟨w.heap.size, 0, none⟩) 4 4, .slice none 0 0] 25)).heap.size (some ⟨w.heap.size, 0, none⟩) 4 none 0 ck0 := by
    refine ⟨?_, by decide, by simp [maxLen], Nodes.nil _ _ _, by decide, Nat.zero_le _⟩
    have h1 := Lies.newN w ([0, 0, 0, 9].map bv) 5
    have hb1 := (Below.refl _ (w.alloc (.cells #[.int .u8 0, .int .u8 0, .int .u8 0, .int .u8 9] 5))).alloc (Nat.le_refl _) (.cells #[.int .u8 7, .int .u8 0, .slice (some ⟨w.heap.size, 0, none⟩) 4 4, .slice none 0 0] 25)
    exact ((h1.more (by simp : w.heap.size + 1 ≤ (w.alloc (.cells #[.int .u8 0, .int .u8 0, .int .u8 0, .int .u8 9] 5)).heap.size)).below hb1).more hb1.size
  have hE := cencode_any ck0 fine0 (some ⟨w.heap.size, 0, none⟩) 4 none 0 _ h0 (hh.below bA hh.lt)
  unfold CEncR at hE
  rw [aw_chk, aw_B, aw_sz] at hE
  obtain ⟨q0, q1, q2, q3⟩ := x0.cs
  go_enter Tryz.func13, Tryz.ntmps13
  go_wp2_with fail
  generalize (w.alloc (.cells #[.int .u8 0, .int .u8 0, .int .u8 0, .int .u8 9] 5)).alloc (.cells #[.int .u8 7, .int .u8 0, .slice (some ⟨w.heap.size, 0, none⟩) 4 4, .slice none 0 0] 25) = w1 at *
  refine Calls.mono hE ?_
  rintro e w2 ⟨b2, ⟨hne, _⟩ | ⟨_, A2, c2, rfl, L2, cc2, m2⟩⟩
  · exact absurd rfl hne
  have B2 := bA.trans (b2.mono bA.size)
  have x2 := x0.below b2
  have h2 := h0.on b2
  have H2 := hh.below B2 hh.lt
  have hP := cparse_any A2 c2 [7, 0, 0, 8, 0, 0, 0, 9] w2 H2 L2 cc2 m2 (by simp)
  unfold CPaR at hP
  rw [aw_pa] at hP
  clear hE q0 q1 q2 q3
  simp only [codeE, if_true]
  go_wp2_with fail
  refine Calls.mono hP ?_
  rintro e w3 ⟨b3, A3, c3, K3, k3, rfl, hS3⟩
  have hC3 := hS3.chunk (B := w3.heap.size) (fun b hb => hb.2)
  have bn3 := (Below.refl _ w3).alloc (Nat.le_refl _) (.cells (ckCells ck0 A3 c3 K3 k3) 25)
  have y4 := CkBox.new w3 ck0 A3 c3 K3 k3
  have b34 := b3.trans (bn3.mono b3.size)
  have B4 := B2.trans (b34.mono B2.size)
  have x4 := x2.below b34
  have h4 := h2.on b34
  have hC4 := hC3.on bn3
  have L4 := (L2.below b34).more b34.size
  have H4 := hh.below B4 hh.lt
  have bn4 := (Below.refl _ (w3.alloc (.cells (ckCells ck0 A3 c3 K3 k3) 25))).alloc (Nat.le_refl _) (.cells #[.int .u8 7, .int .u8 1, .int .u8 0, .int .u8 8, .int .u8 0, .int .u8 0, .int .u8 0, .int .u8 9] 5)
  have hP2 := cparse_any (some ⟨(w3.alloc (.cells (ckCells ck0 A3 c3 K3 k3) 25)).heap.size, 0, none⟩) 8 [7, 1, 0, 8, 0, 0, 0, 9] ((w3.alloc (.cells (ckCells ck0 A3 c3 K3 k3) 25)).alloc (.cells #[.int .u8 7, .int .u8 1, .int .u8 0, .int .u8 8, .int .u8 0, .int .u8 0, .int .u8 0, .int .u8 9] 5)) (H4.below bn4 H4.lt) ((Lies.newN _ ([7, 1, 0, 8, 0, 0, 0, 9].map bv) 5).more (by simp)) (by simp) (by simp [maxLen]) (by simp)
  unfold CPaR at hP2
  rw [aw_pbad] at hP2
  simp only [World.size_alloc] at hP2
  clear hP hS3 hC3
  go_wp2_with fail
  refine Calls.mono hP2 ?_
  rintro e w5 ⟨b5, rfl⟩
  have bn4' : Below (w3.alloc (.cells (ckCells ck0 A3 c3 K3 k3) 25)).heap.size (w3.alloc (.cells (ckCells ck0 A3 c3 K3 k3) 25)) w5 := bn4.trans (b5.mono (by simp))
  have bn5 := (Below.refl _ w5).alloc (Nat.le_refl _) (.cells #[.int .u8 0, .int .u8 0, .slice none 0 0, .slice none 0 0] 25)
  have b46 := bn4'.trans (bn5.mono bn4'.size)
  have B6 := B4.trans (b46.mono B4.size)
  have x6 := x4.below b46
  have y6 := y4.below b46
  have h6 := h4.on b46
  have hC6 := hC4.on b46
  have L6 := (L4.below b46).more b46.size
  have H6 := hh.below B6 hh.lt
  have HB6 := Lib.hid B6
  clear hP2 bn4' bn4 b5 bn5 b46 B4 x4 y4 h4 hC4 L4 H4 b34 bn3 b3 B2 x2 h2 L2 H2 b2
  simp only [faultV]
  have KS : Hid (∀ V, Below (w5.alloc (.cells #[.int .u8 0, .int .u8 0, .slice none 0 0, .slice none 0 0] 25)).heap.size (w5.alloc (.cells #[.int .u8 0, .int .u8 0, .slice none 0 0, .slice none 0 0] 25)) V → (V.cell? ⟨w.heap.size + 1, 0, none⟩ = some (bv ck0.t) ∧ V.cell? ⟨w.heap.size + 1, 1, none⟩ = some (bv ck0.fl) ∧ V.cell? ⟨w.heap.size + 1, 2, none⟩ = some (.slice (some ⟨w.heap.size, 0, none⟩) ck0.d.length 4) ∧ V.cell? ⟨w.heap.size + 1, 3, none⟩ = some (.slice none ck0.ks.length 0)) ∧
      V.cell? ⟨w3.heap.size, 0, none⟩ = some (bv ck0.t) ∧ V.cell? ⟨w3.heap.size, 1, none⟩ = some (bv ck0.fl) ∧ V.cell? ⟨w3.heap.size, 2, none⟩ = some (.slice A3 ck0.d.length c3) ∧ V.cell? ⟨w3.heap.size, 3, none⟩ = some (.slice K3 ck0.ks.length k3)) := fun V hV => ⟨(x6.below hV).cs, (y6.below hV).cs⟩
  have HS : Hid (Calls Tryz.prog 22 #[.slice A2 8 c2, .slice (some ⟨(w5.alloc (.cells #[.int .u8 0, .int .u8 0, .slice none 0 0, .slice none 0 0] 25)).heap.size, 0, none⟩) 8 8] ((w5.alloc (.cells #[.int .u8 0, .int .u8 0, .slice none 0 0, .slice none 0 0] 25)).alloc (.cells #[.int .u8 7, .int .u8 0, .int .u8 0, .int .u8 8, .int .u8 0, .int .u8 0, .int .u8 0, .int .u8 9] 5)).drew fun e w' => e = .returned (.bool true) ∧ Below (w5.alloc (.cells #[.int .u8 0, .int .u8 0, .slice none 0 0, .slice none 0 0] 25)).heap.size (w5.alloc (.cells #[.int .u8 0, .int .u8 0, .slice none 0 0, .slice none 0 0] 25)) w') := by
    have hb : Below (w5.alloc (.cells #[.int .u8 0, .int .u8 0, .slice none 0 0, .slice none 0 0] 25)).heap.size (w5.alloc (.cells #[.int .u8 0, .int .u8 0, .slice none 0 0, .slice none 0 0] 25)) ((w5.alloc (.cells #[.int .u8 0, .int .u8 0, .slice none 0 0, .slice none 0 0] 25)).alloc (.cells (([7, 0, 0, 8, 0, 0, 0, 9] : List UInt8).map bv).toArray 5)).drew := below_drew ((Below.refl _ _).alloc (Nat.le_refl _) _)
    have h1 := same_any A2 (some ⟨(w5.alloc (.cells #[.int .u8 0, .int .u8 0, .slice none 0 0, .slice none 0 0] 25)).heap.size, 0, none⟩) c2 8 ((w5.alloc (.cells #[.int .u8 0, .int .u8 0, .slice none 0 0, .slice none 0 0] 25)).heap.size + 1) [7, 0, 0, 8, 0, 0, 0, 9] [7, 0, 0, 8, 0, 0, 0, 9] ((w5.alloc (.cells #[.int .u8 0, .int .u8 0, .slice none 0 0, .slice none 0 0] 25)).alloc (.cells (([7, 0, 0, 8, 0, 0, 0, 9] : List UInt8).map bv).toArray 5)).drew ((L6.below hb).more (by omega)) ((Lies.newN (w5.alloc (.cells #[.int .u8 0, .int .u8 0, .slice none 0 0, .slice none 0 0] 25)) (([7, 0, 0, 8, 0, 0, 0, 9] : List UInt8).map bv) 5).keep fun _ _ => rfl) (by simp [maxLen])
    refine Calls.mono (R := fun e w' => e = .returned (.bool (decide (([7, 0, 0, 8, 0, 0, 0, 9] : List UInt8) = [7, 0, 0, 8, 0, 0, 0, 9]))) ∧ ∃ q, w' = (((w5.alloc (.cells #[.int .u8 0, .int .u8 0, .slice none 0 0, .slice none 0 0] 25)).alloc (.cells (([7, 0, 0, 8, 0, 0, 0, 9] : List UInt8).map bv).toArray 5)).drew).drewN q) h1 ?_
    rintro e w' ⟨rfl, q, rfl⟩
    exact ⟨rfl, below_drewN hb q⟩
  have HN := Lib.hid (fun (V : World) (hV : Below (w5.alloc (.cells #[.int .u8 0, .int .u8 0, .slice none 0 0, .slice none 0 0] 25)).heap.size (w5.alloc (.cells #[.int .u8 0, .int .u8 0, .slice none 0 0, .slice none 0 0] 25)) V) => csame_t A3 c3 K3 k3 (some ⟨w.heap.size, 0, none⟩) 4 none 0 V (hC6.on hV) (h6.on hV))
  have HT : Hid (∀ V, Below (w5.alloc (.cells #[.int .u8 0, .int .u8 0, .slice none 0 0, .slice none 0 0] 25)).heap.size (w5.alloc (.cells #[.int .u8 0, .int .u8 0, .slice none 0 0, .slice none 0 0] 25)) V → Calls Tryz.prog 26 #[.iface 161 (.agg #[.int .i64 6, .int .i64 1]), .int .i64 6, .int .i64 1] V fun e w' => e = .returned (.bool true) ∧ Below V.heap.size V w') := fun V hV => told12 (some (6, 1)) 6 1 V (H6.below hV H6.lt)
  have HZ : Hid (∀ V, Below (w5.alloc (.cells #[.int .u8 0, .int .u8 0, .slice none 0 0, .slice none 0 0] 25)).heap.size (w5.alloc (.cells #[.int .u8 0, .int .u8 0, .slice none 0 0, .slice none 0 0] 25)) V → Calls Tryz.prog 19 #[ckV ck0 (some ⟨w.heap.size, 0, none⟩) 4 none 0] V fun e w' => e = .returned (.int .i64 8) ∧ Below V.heap.size V w') := fun V hV => by
    have h9 := csize_any ck0 fine0 (some ⟨w.heap.size, 0, none⟩) 4 none 0 V (h6.on hV)
    rwa [aw_sz] at h9
  have HC : Hid (∀ V, Below (w5.alloc (.cells #[.int .u8 0, .int .u8 0, .slice none 0 0, .slice none 0 0] 25)).heap.size (w5.alloc (.cells #[.int .u8 0, .int .u8 0, .slice none 0 0, .slice none 0 0] 25)) V → Calls Tryz.prog 18 #[ckV ck0 (some ⟨w.heap.size, 0, none⟩) 4 none 0] V fun e w' => e = .returned .nilIface ∧ Below V.heap.size V w') := fun V hV => by
    have h9 := ccheck_any ck0 fine0 (some ⟨w.heap.size, 0, none⟩) 4 none 0 V (h6.on hV) (H6.below hV H6.lt)
    rwa [aw_chk] at h9
  have HC1 : Hid (∀ V, Below (w5.alloc (.cells #[.int .u8 0, .int .u8 0, .slice none 0 0, .slice none 0 0] 25)).heap.size (w5.alloc (.cells #[.int .u8 0, .int .u8 0, .slice none 0 0, .slice none 0 0] 25)) V → Calls Tryz.prog 18 #[.agg #[.int .u8 7, .int .u8 0, .slice none 0 0, .slice none 0 0]] V fun e w' => e = .returned (.iface 97 (.int .i64 7)) ∧ Below V.heap.size V w') := fun V hV => by
    have h9 := ccheck_any ck1 fine1 none 0 none 0 V ⟨Lies.nil, Nat.le_refl _, Nat.zero_le _, Nodes.nil _ _ _, Nat.le_refl _, Nat.zero_le _⟩ (H6.below hV H6.lt)
    rw [aw_chk1] at h9
    exact h9
  have HCo : Hid (∀ V : World, Calls Tryz.prog 17 #[.iface 97 (.int .i64 7), .int .i64 7] V fun e w' => e = .returned (.bool true) ∧ V = w') := fun V => coded12 7 7 V
  have HLc := Lib.hid (fun (V : World) (hV : Below (w5.alloc (.cells #[.int .u8 0, .int .u8 0, .slice none 0 0, .slice none 0 0] 25)).heap.size (w5.alloc (.cells #[.int .u8 0, .int .u8 0, .slice none 0 0, .slice none 0 0] 25)) V) => cclone_0 (some ⟨w.heap.size, 0, none⟩) 4 none 0 V (h6.on hV))
  have HM := Lib.hid (fun (V : World) (hV : Below (w5.alloc (.cells #[.int .u8 0, .int .u8 0, .slice none 0 0, .slice none 0 0] 25)).heap.size (w5.alloc (.cells #[.int .u8 0, .int .u8 0, .slice none 0 0, .slice none 0 0] 25)) V) A c K k (hc : Chunk V V.heap.size A c K k ck0) => csame_t A c K k (some ⟨w.heap.size, 0, none⟩) 4 none 0 V hc (h6.on hV))
  have HPr := Lib.hid (fun (V : World) (hV : Below (w5.alloc (.cells #[.int .u8 0, .int .u8 0, .slice none 0 0, .slice none 0 0] 25)).heap.size (w5.alloc (.cells #[.int .u8 0, .int .u8 0, .slice none 0 0, .slice none 0 0] 25)) V) => cparams_0 (some ⟨w.heap.size, 0, none⟩) 4 none 0 V (h6.on hV))
  obtain ⟨⟨p0, p1, p2, p3⟩, r0, r1, r2, r3⟩ := KS.out _ (Below.refl _ _)
  clear x6 y6 h6 hC6 L6 H6
  go_wp2_with fail
  generalize (w5.alloc (.cells #[.int .u8 0, .int .u8 0, .slice none 0 0, .slice none 0 0] 25)) = w6 at *
  go_region_held3 (fun V => (V.cell? ⟨w.heap.size + 1, 0, none⟩ = some (bv ck0.t) ∧ V.cell? ⟨w.heap.size + 1, 1, none⟩ = some (bv ck0.fl) ∧ V.cell? ⟨w.heap.size + 1, 2, none⟩ = some (.slice (some ⟨w.heap.size, 0, none⟩) ck0.d.length 4) ∧ V.cell? ⟨w.heap.size + 1, 3, none⟩ = some (.slice none ck0.ks.length 0)) ∧ V.cell? ⟨w3.heap.size, 0, none⟩ = some (bv ck0.t) ∧ V.cell? ⟨w3.heap.size, 1, none⟩ = some (bv ck0.fl) ∧ V.cell? ⟨w3.heap.size, 2, none⟩ = some (.slice A3 ck0.d.length c3) ∧ V.cell? ⟨w3.heap.size, 3, none⟩ = some (.slice K3 ck0.ks.length k3))
    (first | exact KS.out _ (below_drew (Below.refl _ _)) | exact KS.out _ (below_drew ((Below.refl _ _).alloc (Nat.le_refl _) _)) | exact S4 | exact S5 | exact S6 | exact S7 | exact S8 | exact S9 | exact S10 | exact S11 | exact S12 | go_keep)
    (first
    | (go_at_call 22; with_reducible refine HS.out.mono ?_; rintro e v4 ⟨rfl, R4⟩; have S4 := KS.out _ R4)
    | (go_at_call 33; with_reducible refine (HN.out v4 R4).mono ?_; rintro e v5 ⟨rfl, b5⟩; have R5 := R4.trans (b5.mono R4.size); have S5 := KS.out _ R5)
    | (go_at_call 26; with_reducible refine (HT.out v5 R5).mono ?_; rintro e v6 ⟨rfl, b6⟩; have R6 := R5.trans (b6.mono R5.size); have S6 := KS.out _ R6)
    | (go_at_call 19; with_reducible refine (HZ.out v6 R6).mono ?_; rintro e v7 ⟨rfl, b7⟩; have R7 := R6.trans (b7.mono R6.size); have S7 := KS.out _ R7)
    | (go_at_call 18; with_reducible refine (HC.out v7 R7).mono ?_; rintro e v8 ⟨rfl, b8⟩; have R8 := R7.trans (b8.mono R7.size); have S8 := KS.out _ R8)
    | (go_at_call 18; with_reducible refine (HC1.out v8 R8).mono ?_; rintro e v9 ⟨rfl, b9⟩; have R9 := R8.trans (b9.mono R8.size); have S9 := KS.out _ R9)
    | (go_at_call 17; with_reducible refine (HCo.out v9).mono ?_; rintro e v9' ⟨rfl, rfl⟩)
    | (go_at_call 29; with_reducible refine (HLc.out v9 R9).mono ?_; rintro e v10 ⟨Ac, cc, Kc, kc, rfl, hCc, b10⟩; have R10 := R9.trans (b10.mono R9.size); have S10 := KS.out _ R10)
    | (go_at_call 33; with_reducible refine (HM.out v10 R10 Ac cc Kc kc hCc).mono ?_; rintro e v11 ⟨rfl, b11⟩; have R11 := R10.trans (b11.mono R10.size); have S11 := KS.out _ R11)
    | (go_at_call 30; with_reducible refine (HPr.out v11 R11).mono ?_; rintro e v12 ⟨⟨Ap, cp, rfl⟩, b12⟩; have R12 := R11.trans (b12.mono R11.size); have S12 := KS.out _ R12)
    | fail)
  go_wp2_with fail
  go_ret
  exact ⟨rfl, HB6.out.trans (R12.mono HB6.out.size)⟩
end Go.Proofs.YthkbcpbgoefanaaGreatDoor


