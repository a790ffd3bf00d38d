/- Layer 12: the check of the kids. It writes nothing that was there. -/
/- Layer 12: numbers of two bytes; the groups of an i-forward-tsn chunk; the checks of counts and values. They write nothing that was there. -/
/- Layer 12: the first check that a chunk does not pass: Check's seven, Parse's four. It writes nothing that was there. -/
/- Layer 12: Check and Encode. They write nothing that was there. -/
import Derived.Test.YteknmgmdmjmnmaaGreatDoorUCA
import Derived.BigGuard
import Derived.Test.YteknmgmdmjmnmaaGreatDoorUW
import Derived.WalkMore
import Derived.Test.YteknmgmdmjmnmaaGreatDoorUTA
import Derived.Test.YteknmgmdmjmnmaaGreatDoorUNF
import Derived.Test.YteknmgmdmjmnmaaGreatDoorUNA
import Derived.Test.YteknmgmdmjmnmaaGreatDoorUTC
import Derived.Deep.RegionHeld3


namespace Go.Proofs.YteknmgmdmjmnmaaGreatDoor
open Go.RowKit

/-- the kids are not as many, or not of the types, that the form wants -/
def kidP (ki : Int) (ks : List Nd) : Bool := decide ((ks.length : Int) < (kins ki).2.1) || (decide ((kins ki).2.2 < (ks.length : Int)) || ((decide (ki = 1) && !begB [1] ks) || (decide (ki = 6) && !begB [5, 6] ks)))
def kidB (x : Ck) : Bool := kidP (kdOf x.t).ki x.ks
set_option maxRecDepth 100000 in
set_option maxHeartbeats 4000000 in
theorem checkKids_any (x : Ck) (_hx : x.ks.length ≤ 100000000) (A : Option Addr) (c : Nat) (K : Option Addr) (k : Nat) (w : World) (h : Nodes w w.heap.size K x.ks) :
    Calls Tryz.prog 127 #[ckV x A c K k] w fun e w' => e = .returned (errV (kidB x) 7 0) ∧ Below w.heap.size w w' := by
  have hO := kof12 x.t
  have hI := kinside_any (kdOf x.t).ki
  have b0 : Below w.heap.size w (w.alloc (.cells (ckCells x A c K k) 62)) := (Below.refl _ w).alloc (Nat.le_refl _) _
  have x0 := CkBox.new w x A c K k
  have HN := New_any 7 0
  have h0 := h.on b0
  have HK : Hid (∀ W, Below (w.alloc (.cells (ckCells x A c K k) 62)).heap.size (w.alloc (.cells (ckCells x A c K k) 62)) W → Nodes W W.heap.size K x.ks) := fun W hW => h0.on hW
  unfold kidB
  generalize kdOf x.t = f at *
  generalize kn x.t = kb at *
  obtain ⟨ty, nm, mk, lo, hi, un, ki⟩ := f
  unfold Kd.val at hO
  simp only [] at hO hI ⊢
  have hki : kins 1 = (1, 1, 1) ∧ kins 6 = (1, 2, 16384) := by decide
  have HPD : Hid (kidP ki x.ks = (decide ((x.ks.length : Int) < (kins ki).2.1) || (decide ((kins ki).2.2 < (x.ks.length : Int)) || ((decide (ki = 1) && !begB [1] x.ks) || (decide (ki = 6) && !begB [5, 6] x.ks))))) := rfl
  obtain ⟨q0, q1, q2, q3⟩ := x0.cs
  clear h h0
  by_cases c1 : (x.ks.length : Int) < (kins ki).2.1
  · have HP := Lib.hid (show kidP ki x.ks = true by rw [HPD.out, decide_eq_true c1]; rfl)
    generalize kidP ki x.ks = res at *
    clear HPD hki
    generalize kins ki = q at *
    obtain ⟨qa, qb, qc⟩ := q
    simp only [] at hI c1
    go_enter Tryz.func127, Tryz.ntmps127
    go_wp2_with fail
    generalize w.alloc (.cells (ckCells x A c K k) 62) = w0 at *
    refine (hO _).mono ?_
    rintro e w1 ⟨rfl, b1⟩
    have hW1 := Whole.new w1 220 #[bv ty, .string nm, bv mk, .int .i64 lo, .int .i64 hi, .int .i64 un, .int .i64 ki]
    have b2 := b1.alloc b1.size (.cells #[bv ty, .string nm, bv mk, .int .i64 lo, .int .i64 hi, .int .i64 un, .int .i64 ki] 220)
    have hb1 := b0.trans (b2.mono b0.size)
    have x1 := x0.below b2
    have n1 := HK.out _ b2
    clear q0 q1 q2 q3
    obtain ⟨q0, q1, q2, q3⟩ := x1.cs
    obtain ⟨d0, d1, d2, d3, d4, d5, d6⟩ := hW1.kd7
    go_wp2_with (first | (refine wpList_new_kd rfl 220 _ _ rfl w1 _ _ rfl rfl rfl (by kernel_rfl) rfl ?_) | (go_at_call 163; refine (hI _).mono ?_; rintro e w3 ⟨rfl, rfl⟩))
    refine (HN _).mono ?_
    rintro e w4 ⟨rfl, rfl⟩
    go_wp2_with fail
    go_ret
    exact ⟨by rw [HP.out]; rfl, hb1⟩

  by_cases c2 : (kins ki).2.2 < (x.ks.length : Int)
  · have HP := Lib.hid (show kidP ki x.ks = true by rw [HPD.out, decide_eq_true c2, Bool.true_or, Bool.or_true])
    generalize kidP ki x.ks = res at *
    clear HPD hki
    generalize kins ki = q at *
    obtain ⟨qa, qb, qc⟩ := q
    simp only [] at hI c1 c2
    go_enter Tryz.func127, Tryz.ntmps127
    go_wp2_with fail
    generalize w.alloc (.cells (ckCells x A c K k) 62) = w0 at *
    refine (hO _).mono ?_
    rintro e w1 ⟨rfl, b1⟩
    have hW1 := Whole.new w1 220 #[bv ty, .string nm, bv mk, .int .i64 lo, .int .i64 hi, .int .i64 un, .int .i64 ki]
    have b2 := b1.alloc b1.size (.cells #[bv ty, .string nm, bv mk, .int .i64 lo, .int .i64 hi, .int .i64 un, .int .i64 ki] 220)
    have hb1 := b0.trans (b2.mono b0.size)
    have x1 := x0.below b2
    have n1 := HK.out _ b2
    clear q0 q1 q2 q3
    obtain ⟨q0, q1, q2, q3⟩ := x1.cs
    obtain ⟨d0, d1, d2, d3, d4, d5, d6⟩ := hW1.kd7
    go_wp2_with (first | (refine wpList_new_kd rfl 220 _ _ rfl w1 _ _ rfl rfl rfl (by kernel_rfl) rfl ?_) | (go_at_call 163; refine (hI _).mono ?_; rintro e w3 ⟨rfl, rfl⟩))
    refine (HN _).mono ?_
    rintro e w4 ⟨rfl, rfl⟩
    go_wp2_with fail
    go_ret
    exact ⟨by rw [HP.out]; rfl, hb1⟩

  by_cases c3 : ki = 1
  · subst c3
    have hpos : 0 < x.ks.length := by rw [hki.1] at c1; simp only [] at c1; omega
    cases hbg : begB [1] x.ks with
    | true =>
      have HP := Lib.hid (show kidP 1 x.ks = false by rw [HPD.out, decide_eq_false c1, decide_eq_false c2, hbg]; rfl)
      generalize kidP 1 x.ks = res at *
      clear HPD hki
      rw [show kins 1 = (1, 1, 1) from rfl] at hI c1 c2
      simp only [] at hI c1 c2
      have e1 := decide_eq_false c1
      have e2 := decide_eq_false c2
      clear c1 c2
      go_enter Tryz.func127, Tryz.ntmps127
      go_wp2_with fail
      generalize w.alloc (.cells (ckCells x A c K k) 62) = w0 at *
      refine (hO _).mono ?_
      rintro e w1 ⟨rfl, b1⟩
      have hW1 := Whole.new w1 220 #[bv ty, .string nm, bv mk, .int .i64 lo, .int .i64 hi, .int .i64 un, .int .i64 1]
      have b2 := b1.alloc b1.size (.cells #[bv ty, .string nm, bv mk, .int .i64 lo, .int .i64 hi, .int .i64 un, .int .i64 1] 220)
      have hb1 := b0.trans (b2.mono b0.size)
      have x1 := x0.below b2
      have n1 := HK.out _ b2
      clear q0 q1 q2 q3
      obtain ⟨q0, q1, q2, q3⟩ := x1.cs
      obtain ⟨d0, d1, d2, d3, d4, d5, d6⟩ := hW1.kd7
      have b3 := (Below.refl _ (w1.alloc (.cells #[bv ty, .string nm, bv mk, .int .i64 lo, .int .i64 hi, .int .i64 un, .int .i64 1] 220))).alloc (Nat.le_refl _) (.cells #[.int .u16 1] 37)
      have hz2 : (w1.alloc (.cells #[bv ty, .string nm, bv mk, .int .i64 lo, .int .i64 hi, .int .i64 un, .int .i64 1] 220)).heap.size = w1.heap.size + 1 := by simp
      have HBG : Calls Tryz.prog 164 #[.slice (some ⟨w1.heap.size + 1, 0, none⟩) 1 1, .pointer (some ⟨w.heap.size, 0, none⟩)] ((w1.alloc (.cells #[bv ty, .string nm, bv mk, .int .i64 lo, .int .i64 hi, .int .i64 un, .int .i64 1] 220)).alloc (.cells #[.int .u16 1] 37)) fun e w' => e = .returned (.bool (begB [1] x.ks)) ∧ ((w1.alloc (.cells #[bv ty, .string nm, bv mk, .int .i64 lo, .int .i64 hi, .int .i64 un, .int .i64 1] 220)).alloc (.cells #[.int .u16 1] 37)) = w' := by
        have hL := Lies.newN (w1.alloc (.cells #[bv ty, .string nm, bv mk, .int .i64 lo, .int .i64 hi, .int .i64 un, .int .i64 1] 220)) (([1] : List UInt16).map hv) 37
        rw [hz2] at hL
        exact begins_any [1] (by simp) x hpos A c K k w.heap.size (some ⟨w1.heap.size + 1, 0, none⟩) 1 ((w1.alloc (.cells #[bv ty, .string nm, bv mk, .int .i64 lo, .int .i64 hi, .int .i64 un, .int .i64 1] 220)).alloc (.cells #[.int .u16 1] 37)) (x1.below b3) (n1.on b3) (hL.more (by simp))
      have hb3 := hb1.trans (b3.mono hb1.size)
      have d6' : ((w1.alloc (.cells #[bv ty, .string nm, bv mk, .int .i64 lo, .int .i64 hi, .int .i64 un, .int .i64 1] 220)).alloc (.cells #[.int .u16 1] 37)).cell? ⟨w1.heap.size, 6, none⟩ = some (.int .i64 1) := (b3.cell (p := ⟨w1.heap.size, 6, none⟩) (by simp)).trans d6
      rw [hbg] at HBG
      clear hbg
      clear b3
      go_wp2_with (first | (refine wpList_new_kd rfl 220 _ _ rfl w1 _ _ rfl rfl rfl (by kernel_rfl) rfl ?_) | (go_at_call 163; refine (hI _).mono ?_; rintro e w3 ⟨rfl, rfl⟩))
      refine HBG.mono ?_
      rintro e w5 ⟨rfl, rfl⟩
      go_wp2_with fail
      go_ret
      exact ⟨by rw [HP.out]; rfl, hb3⟩

    | false =>
      have HP := Lib.hid (show kidP 1 x.ks = true by rw [HPD.out, decide_eq_false c1, decide_eq_false c2, hbg]; rfl)
      generalize kidP 1 x.ks = res at *
      clear HPD hki
      rw [show kins 1 = (1, 1, 1) from rfl] at hI c1 c2
      simp only [] at hI c1 c2
      have e1 := decide_eq_false c1
      have e2 := decide_eq_false c2
      clear c1 c2
      go_enter Tryz.func127, Tryz.ntmps127
      go_wp2_with fail
      generalize w.alloc (.cells (ckCells x A c K k) 62) = w0 at *
      refine (hO _).mono ?_
      rintro e w1 ⟨rfl, b1⟩
      have hW1 := Whole.new w1 220 #[bv ty, .string nm, bv mk, .int .i64 lo, .int .i64 hi, .int .i64 un, .int .i64 1]
      have b2 := b1.alloc b1.size (.cells #[bv ty, .string nm, bv mk, .int .i64 lo, .int .i64 hi, .int .i64 un, .int .i64 1] 220)
      have hb1 := b0.trans (b2.mono b0.size)
      have x1 := x0.below b2
      have n1 := HK.out _ b2
      clear q0 q1 q2 q3
      obtain ⟨q0, q1, q2, q3⟩ := x1.cs
      obtain ⟨d0, d1, d2, d3, d4, d5, d6⟩ := hW1.kd7
      have b3 := (Below.refl _ (w1.alloc (.cells #[bv ty, .string nm, bv mk, .int .i64 lo, .int .i64 hi, .int .i64 un, .int .i64 1] 220))).alloc (Nat.le_refl _) (.cells #[.int .u16 1] 37)
      have hz2 : (w1.alloc (.cells #[bv ty, .string nm, bv mk, .int .i64 lo, .int .i64 hi, .int .i64 un, .int .i64 1] 220)).heap.size = w1.heap.size + 1 := by simp
      have HBG : Calls Tryz.prog 164 #[.slice (some ⟨w1.heap.size + 1, 0, none⟩) 1 1, .pointer (some ⟨w.heap.size, 0, none⟩)] ((w1.alloc (.cells #[bv ty, .string nm, bv mk, .int .i64 lo, .int .i64 hi, .int .i64 un, .int .i64 1] 220)).alloc (.cells #[.int .u16 1] 37)) fun e w' => e = .returned (.bool (begB [1] x.ks)) ∧ ((w1.alloc (.cells #[bv ty, .string nm, bv mk, .int .i64 lo, .int .i64 hi, .int .i64 un, .int .i64 1] 220)).alloc (.cells #[.int .u16 1] 37)) = w' := by
        have hL := Lies.newN (w1.alloc (.cells #[bv ty, .string nm, bv mk, .int .i64 lo, .int .i64 hi, .int .i64 un, .int .i64 1] 220)) (([1] : List UInt16).map hv) 37
        rw [hz2] at hL
        exact begins_any [1] (by simp) x hpos A c K k w.heap.size (some ⟨w1.heap.size + 1, 0, none⟩) 1 ((w1.alloc (.cells #[bv ty, .string nm, bv mk, .int .i64 lo, .int .i64 hi, .int .i64 un, .int .i64 1] 220)).alloc (.cells #[.int .u16 1] 37)) (x1.below b3) (n1.on b3) (hL.more (by simp))
      have hb3 := hb1.trans (b3.mono hb1.size)
      have d6' : ((w1.alloc (.cells #[bv ty, .string nm, bv mk, .int .i64 lo, .int .i64 hi, .int .i64 un, .int .i64 1] 220)).alloc (.cells #[.int .u16 1] 37)).cell? ⟨w1.heap.size, 6, none⟩ = some (.int .i64 1) := (b3.cell (p := ⟨w1.heap.size, 6, none⟩) (by simp)).trans d6
      rw [hbg] at HBG
      clear hbg
      clear b3
      go_wp2_with (first | (refine wpList_new_kd rfl 220 _ _ rfl w1 _ _ rfl rfl rfl (by kernel_rfl) rfl ?_) | (go_at_call 163; refine (hI _).mono ?_; rintro e w3 ⟨rfl, rfl⟩))
      refine HBG.mono ?_
      rintro e w5 ⟨rfl, rfl⟩
      go_wp2_with fail
      refine (HN _).mono ?_
      rintro e w4 ⟨rfl, rfl⟩
      go_wp2_with fail
      go_ret
      exact ⟨by rw [HP.out]; rfl, hb3⟩

  by_cases c4 : ki = 6
  · subst c4
    have hpos : 0 < x.ks.length := by rw [hki.2] at c1; simp only [] at c1; omega
    cases hbg : begB [5, 6] x.ks with
    | true =>
      have HP := Lib.hid (show kidP 6 x.ks = false by rw [HPD.out, decide_eq_false c1, decide_eq_false c2, hbg]; rfl)
      generalize kidP 6 x.ks = res at *
      clear HPD hki
      rw [show kins 6 = (1, 2, 16384) from rfl] at hI c1 c2
      simp only [] at hI c1 c2
      have e1 := decide_eq_false c1
      have e2 := decide_eq_false c2
      clear c1 c2
      go_enter Tryz.func127, Tryz.ntmps127
      go_wp2_with fail
      generalize w.alloc (.cells (ckCells x A c K k) 62) = w0 at *
      refine (hO _).mono ?_
      rintro e w1 ⟨rfl, b1⟩
      have hW1 := Whole.new w1 220 #[bv ty, .string nm, bv mk, .int .i64 lo, .int .i64 hi, .int .i64 un, .int .i64 6]
      have b2 := b1.alloc b1.size (.cells #[bv ty, .string nm, bv mk, .int .i64 lo, .int .i64 hi, .int .i64 un, .int .i64 6] 220)
      have hb1 := b0.trans (b2.mono b0.size)
      have x1 := x0.below b2
      have n1 := HK.out _ b2
      clear q0 q1 q2 q3
      obtain ⟨q0, q1, q2, q3⟩ := x1.cs
      obtain ⟨d0, d1, d2, d3, d4, d5, d6⟩ := hW1.kd7
      have b3 := (Below.refl _ (w1.alloc (.cells #[bv ty, .string nm, bv mk, .int .i64 lo, .int .i64 hi, .int .i64 un, .int .i64 6] 220))).alloc (Nat.le_refl _) (.cells #[.int .u16 5, .int .u16 6] 37)
      have hz2 : (w1.alloc (.cells #[bv ty, .string nm, bv mk, .int .i64 lo, .int .i64 hi, .int .i64 un, .int .i64 6] 220)).heap.size = w1.heap.size + 1 := by simp
      have HBG : Calls Tryz.prog 164 #[.slice (some ⟨w1.heap.size + 1, 0, none⟩) 2 2, .pointer (some ⟨w.heap.size, 0, none⟩)] ((w1.alloc (.cells #[bv ty, .string nm, bv mk, .int .i64 lo, .int .i64 hi, .int .i64 un, .int .i64 6] 220)).alloc (.cells #[.int .u16 5, .int .u16 6] 37)) fun e w' => e = .returned (.bool (begB [5, 6] x.ks)) ∧ ((w1.alloc (.cells #[bv ty, .string nm, bv mk, .int .i64 lo, .int .i64 hi, .int .i64 un, .int .i64 6] 220)).alloc (.cells #[.int .u16 5, .int .u16 6] 37)) = w' := by
        have hL := Lies.newN (w1.alloc (.cells #[bv ty, .string nm, bv mk, .int .i64 lo, .int .i64 hi, .int .i64 un, .int .i64 6] 220)) (([5, 6] : List UInt16).map hv) 37
        rw [hz2] at hL
        exact begins_any [5, 6] (by simp) x hpos A c K k w.heap.size (some ⟨w1.heap.size + 1, 0, none⟩) 2 ((w1.alloc (.cells #[bv ty, .string nm, bv mk, .int .i64 lo, .int .i64 hi, .int .i64 un, .int .i64 6] 220)).alloc (.cells #[.int .u16 5, .int .u16 6] 37)) (x1.below b3) (n1.on b3) (hL.more (by simp))
      have hb3 := hb1.trans (b3.mono hb1.size)
      have d6' : ((w1.alloc (.cells #[bv ty, .string nm, bv mk, .int .i64 lo, .int .i64 hi, .int .i64 un, .int .i64 6] 220)).alloc (.cells #[.int .u16 5, .int .u16 6] 37)).cell? ⟨w1.heap.size, 6, none⟩ = some (.int .i64 6) := (b3.cell (p := ⟨w1.heap.size, 6, none⟩) (by simp)).trans d6
      rw [hbg] at HBG
      clear hbg
      clear b3
      go_wp2_with (first | (refine wpList_new_kd rfl 220 _ _ rfl w1 _ _ rfl rfl rfl (by kernel_rfl) rfl ?_) | (go_at_call 163; refine (hI _).mono ?_; rintro e w3 ⟨rfl, rfl⟩))
      refine HBG.mono ?_
      rintro e w5 ⟨rfl, rfl⟩
      go_wp2_with fail
      go_ret
      exact ⟨by rw [HP.out]; rfl, hb3⟩

    | false =>
      have HP := Lib.hid (show kidP 6 x.ks = true by rw [HPD.out, decide_eq_false c1, decide_eq_false c2, hbg]; rfl)
      generalize kidP 6 x.ks = res at *
      clear HPD hki
      rw [show kins 6 = (1, 2, 16384) from rfl] at hI c1 c2
      simp only [] at hI c1 c2
      have e1 := decide_eq_false c1
      have e2 := decide_eq_false c2
      clear c1 c2
      go_enter Tryz.func127, Tryz.ntmps127
      go_wp2_with fail
      generalize w.alloc (.cells (ckCells x A c K k) 62) = w0 at *
      refine (hO _).mono ?_
      rintro e w1 ⟨rfl, b1⟩
      have hW1 := Whole.new w1 220 #[bv ty, .string nm, bv mk, .int .i64 lo, .int .i64 hi, .int .i64 un, .int .i64 6]
      have b2 := b1.alloc b1.size (.cells #[bv ty, .string nm, bv mk, .int .i64 lo, .int .i64 hi, .int .i64 un, .int .i64 6] 220)
      have hb1 := b0.trans (b2.mono b0.size)
      have x1 := x0.below b2
      have n1 := HK.out _ b2
      clear q0 q1 q2 q3
      obtain ⟨q0, q1, q2, q3⟩ := x1.cs
      obtain ⟨d0, d1, d2, d3, d4, d5, d6⟩ := hW1.kd7
      have b3 := (Below.refl _ (w1.alloc (.cells #[bv ty, .string nm, bv mk, .int .i64 lo, .int .i64 hi, .int .i64 un, .int .i64 6] 220))).alloc (Nat.le_refl _) (.cells #[.int .u16 5, .int .u16 6] 37)
      have hz2 : (w1.alloc (.cells #[bv ty, .string nm, bv mk, .int .i64 lo, .int .i64 hi, .int .i64 un, .int .i64 6] 220)).heap.size = w1.heap.size + 1 := by simp
      have HBG : Calls Tryz.prog 164 #[.slice (some ⟨w1.heap.size + 1, 0, none⟩) 2 2, .pointer (some ⟨w.heap.size, 0, none⟩)] ((w1.alloc (.cells #[bv ty, .string nm, bv mk, .int .i64 lo, .int .i64 hi, .int .i64 un, .int .i64 6] 220)).alloc (.cells #[.int .u16 5, .int .u16 6] 37)) fun e w' => e = .returned (.bool (begB [5, 6] x.ks)) ∧ ((w1.alloc (.cells #[bv ty, .string nm, bv mk, .int .i64 lo, .int .i64 hi, .int .i64 un, .int .i64 6] 220)).alloc (.cells #[.int .u16 5, .int .u16 6] 37)) = w' := by
        have hL := Lies.newN (w1.alloc (.cells #[bv ty, .string nm, bv mk, .int .i64 lo, .int .i64 hi, .int .i64 un, .int .i64 6] 220)) (([5, 6] : List UInt16).map hv) 37
        rw [hz2] at hL
        exact begins_any [5, 6] (by simp) x hpos A c K k w.heap.size (some ⟨w1.heap.size + 1, 0, none⟩) 2 ((w1.alloc (.cells #[bv ty, .string nm, bv mk, .int .i64 lo, .int .i64 hi, .int .i64 un, .int .i64 6] 220)).alloc (.cells #[.int .u16 5, .int .u16 6] 37)) (x1.below b3) (n1.on b3) (hL.more (by simp))
      have hb3 := hb1.trans (b3.mono hb1.size)
      have d6' : ((w1.alloc (.cells #[bv ty, .string nm, bv mk, .int .i64 lo, .int .i64 hi, .int .i64 un, .int .i64 6] 220)).alloc (.cells #[.int .u16 5, .int .u16 6] 37)).cell? ⟨w1.heap.size, 6, none⟩ = some (.int .i64 6) := (b3.cell (p := ⟨w1.heap.size, 6, none⟩) (by simp)).trans d6
      rw [hbg] at HBG
      clear hbg
      clear b3
      go_wp2_with (first | (refine wpList_new_kd rfl 220 _ _ rfl w1 _ _ rfl rfl rfl (by kernel_rfl) rfl ?_) | (go_at_call 163; refine (hI _).mono ?_; rintro e w3 ⟨rfl, rfl⟩))
      refine HBG.mono ?_
      rintro e w5 ⟨rfl, rfl⟩
      go_wp2_with fail
      refine (HN _).mono ?_
      rintro e w4 ⟨rfl, rfl⟩
      go_wp2_with fail
      go_ret
      exact ⟨by rw [HP.out]; rfl, hb3⟩

  have HP := Lib.hid (show kidP ki x.ks = false by rw [HPD.out, decide_eq_false c1, decide_eq_false c2, decide_eq_false c3, decide_eq_false c4]; rfl)
  have c3' : (ki == 1) = false := by rw [beq_eq_false_iff_ne]; exact c3
  have c4' : (ki == 6) = false := by rw [beq_eq_false_iff_ne]; exact c4
  generalize kidP ki x.ks = res at *
  clear HPD hki c3 c4
  generalize kins ki = q at *
  obtain ⟨qa, qb, qc⟩ := q
  simp only [] at hI c1 c2
  have e1 := decide_eq_false c1
  have e2 := decide_eq_false c2
  clear c1 c2
  go_enter Tryz.func127, Tryz.ntmps127
  go_wp2_with fail
  generalize w.alloc (.cells (ckCells x A c K k) 62) = w0 at *
  refine (hO _).mono ?_
  rintro e w1 ⟨rfl, b1⟩
  have hW1 := Whole.new w1 220 #[bv ty, .string nm, bv mk, .int .i64 lo, .int .i64 hi, .int .i64 un, .int .i64 ki]
  have b2 := b1.alloc b1.size (.cells #[bv ty, .string nm, bv mk, .int .i64 lo, .int .i64 hi, .int .i64 un, .int .i64 ki] 220)
  have hb1 := b0.trans (b2.mono b0.size)
  have x1 := x0.below b2
  have n1 := HK.out _ b2
  clear q0 q1 q2 q3
  obtain ⟨q0, q1, q2, q3⟩ := x1.cs
  obtain ⟨d0, d1, d2, d3, d4, d5, d6⟩ := hW1.kd7
  go_wp2_with (first | (refine wpList_new_kd rfl 220 _ _ rfl w1 _ _ rfl rfl rfl (by kernel_rfl) rfl ?_) | (go_at_call 163; refine (hI _).mono ?_; rintro e w3 ⟨rfl, rfl⟩))
  go_ret
  exact ⟨by rw [HP.out]; rfl, hb1⟩

end Go.Proofs.YteknmgmdmjmnmaaGreatDoor






namespace Go.Proofs.YteknmgmdmjmnmaaGreatDoor
open Go.RowKit

/-- the number of two bytes at a place -/
def num2 (d : List UInt8) (i : Nat) : Nat := 256 * (d.getD i 0).toNat + (d.getD (i + 1) 0).toNat
theorem num2_lt (d : List UInt8) (i : Nat) : num2 d i < 65536 := by
  have h1 := (d.getD i 0).toNat_lt
  have h2 := (d.getD (i + 1) 0).toNat_lt
  unfold num2
  omega
theorem drop_two {d : List UInt8} {i : Nat} (h : i + 2 ≤ d.length) : (d.drop i).take 2 = [d.getD i 0, d.getD (i + 1) 0] := by
  apply List.ext_getElem?
  intro j
  match j with
  | 0 => simp [List.getElem?_drop, List.getElem?_eq_getElem (show i < d.length by omega)]
  | 1 => simp [List.getElem?_drop, List.getElem?_eq_getElem (show i + 1 < d.length by omega)]
  | j + 2 => rw [List.getElem?_take, if_neg (by omega)]; rfl
theorem numOf_twoE (a b : UInt8) : numOf [a, b] = 256 * a.toNat + b.toNat := by
  have h1 := a.toNat_lt
  have h2 := b.toNat_lt
  simp [numOf, numStep]
  omega
theorem nums2_one {d : List UInt8} {i : Nat} (h : i + 2 ≤ d.length) : nums 2 ((d.drop i).take 2) = [UInt32.ofNat (num2 d i)] := by
  rw [drop_two h]
  unfold nums numAt num2
  simp [List.range_succ, numOf_twoE]
theorem drop_four {d : List UInt8} {i : Nat} (h : i + 4 ≤ d.length) : (d.drop i).take 4 = (d.drop i).take 2 ++ (d.drop (i + 2)).take 2 := by
  rw [drop_two (by omega), drop_two (by omega)]
  apply List.ext_getElem?
  intro j
  match j with
  | 0 => simp [List.getElem?_drop, List.getElem?_eq_getElem (show i < d.length by omega)]
  | 1 => simp [List.getElem?_drop, List.getElem?_eq_getElem (show i + 1 < d.length by omega)]
  | 2 => simp [List.getElem?_drop, List.getElem?_eq_getElem (show i + 2 < d.length by omega)]
  | 3 => simp [List.getElem?_drop, List.getElem?_eq_getElem (show i + 3 < d.length by omega)]
  | j + 4 => rw [List.getElem?_take, if_neg (by omega)]; rfl
theorem nums2_two {d : List UInt8} {i : Nat} (h : i + 4 ≤ d.length) : nums 2 ((d.drop i).take 4) = [UInt32.ofNat (num2 d i), UInt32.ofNat (num2 d (i + 2))] := by
  rw [drop_four h, drop_two (by omega), drop_two (by omega)]
  unfold nums numAt num2
  simp [List.range_succ, numOf_twoE]
theorem uv_num2 (d : List UInt8) (i : Nat) : uv (UInt32.ofNat (num2 d i)) = .int .u32 ((num2 d i : Nat) : Int) := by
  have h := num2_lt d i
  unfold uv
  congr 1
  simp
  omega
theorem lies_piece {w : World} {B : Nat} {ad : Addr} {d : List UInt8} (h : Lies w B (some ad) (d.map bv)) (i m : Nat) : Lies w B (some (ad.add i)) (((d.drop i).take m).map bv) := by
  intro hne
  have hd : d.map bv ≠ [] := fun e => hne (by rw [List.map_eq_nil_iff] at e; rw [e]; simp)
  obtain ⟨ad', e, hb, hc⟩ := h hd
  cases e
  refine ⟨_, rfl, by rw [blk_add]; exact hb, fun j u hu => ?_⟩
  have hj : (d.map bv)[i + j]? = some u := by
    rw [List.getElem?_map, List.getElem?_take] at hu
    rw [List.getElem?_map]
    split at hu
    · rw [List.getElem?_drop] at hu; exact hu
    · cases hu
  rw [add_add']
  exact hc _ _ hj
/-- the library of numbers, for two bytes of some bytes -/
theorem two_any (ad : Addr) (d : List UInt8) (i c : Nat) (hc : 2 ≤ c) (hi : i + 2 ≤ d.length) (w : World) (h : Lies w w.heap.size (some ad) (d.map bv)) :
    Calls Tryz.prog 85 #[.int .i64 2, .slice (some (ad.add i)) 2 c] w fun e w' => ∃ g c', e = .returned (.slice (some ⟨g, 0, none⟩) 1 c') ∧ w'.cell? ⟨g, 0, none⟩ = some (.int .u32 ((num2 d i : Nat) : Int)) ∧ Below w.heap.size w w' := by
  have hl : ((d.drop i).take 2).length = 2 := by rw [drop_two hi]; rfl
  have h1 := numbersF_any 2 (by decide) (some (ad.add i)) c ((d.drop i).take 2) w (lies_piece h i 2) (by rw [hl]) (by rw [hl]; omega) (by rw [hl]; exact hc)
  rw [nums2_one hi, hl] at h1
  refine h1.mono ?_
  rintro e w' ⟨A', c', rfl, hown, hb⟩
  rcases hown.2 with ⟨_, q⟩ | ⟨g, cap, cur, q1, q2⟩
  · omega
  · simp only [Value.slice.injEq] at q1
    obtain ⟨rfl, _, rfl⟩ := q1
    refine ⟨g, c', rfl, ?_, hb⟩
    have := hown.cells (g := g) rfl 0 _ rfl
    rw [uv_num2] at this
    simpa [Addr.add] using this
theorem four_any (ad : Addr) (d : List UInt8) (i c : Nat) (hc : 4 ≤ c) (hi : i + 4 ≤ d.length) (w : World) (h : Lies w w.heap.size (some ad) (d.map bv)) :
    Calls Tryz.prog 85 #[.int .i64 2, .slice (some (ad.add i)) 4 c] w fun e w' => ∃ g c', e = .returned (.slice (some ⟨g, 0, none⟩) 2 c') ∧ w'.cell? ⟨g, 0, none⟩ = some (.int .u32 ((num2 d i : Nat) : Int)) ∧ w'.cell? ⟨g, 1, none⟩ = some (.int .u32 ((num2 d (i + 2) : Nat) : Int)) ∧ Below w.heap.size w w' := by
  have hl : ((d.drop i).take 4).length = 4 := by rw [drop_four hi, drop_two (by omega), drop_two (by omega)]; rfl
  have h1 := numbersF_any 2 (by decide) (some (ad.add i)) c ((d.drop i).take 4) w (lies_piece h i 4) (by rw [hl]) (by rw [hl]; omega) (by rw [hl]; exact hc)
  rw [nums2_two hi, hl] at h1
  refine h1.mono ?_
  rintro e w' ⟨A', c', rfl, hown, hb⟩
  rcases hown.2 with ⟨_, q⟩ | ⟨g, cap, cur, q1, q2⟩
  · omega
  · simp only [Value.slice.injEq] at q1
    obtain ⟨rfl, _, rfl⟩ := q1
    have t0 := hown.cells (g := g) rfl 0 _ rfl
    have t1 := hown.cells (g := g) rfl 1 _ rfl
    rw [uv_num2] at t0 t1
    refine ⟨g, c', rfl, by simpa [Addr.add] using t0, by simpa [Addr.add] using t1, hb⟩
/-! ### Counts -/
def cntC (x : Ck) : Bool := decide (x.t = 3) && decide (num2 x.d 8 + num2 x.d 10 ≠ (x.d.length - 12) / 4)
set_option maxRecDepth 100000 in
set_option maxHeartbeats 2000000 in
theorem checkCount_any (x : Ck) (hx : x.d.length ≤ 1000000) (h12 : x.t = 3 → 12 ≤ x.d.length) (A : Option Addr) (c : Nat) (K : Option Addr) (k : Nat) (w : World) (h : Chunk w w.heap.size A c K k x) :
    Calls Tryz.prog 128 #[ckV x A c K k] w fun e w' => e = .returned (errV (cntC x) 8 12) ∧ Below w.heap.size w w' := by
  have b0 : Below w.heap.size w (w.alloc (.cells (ckCells x A c K k) 62)) := (Below.refl _ w).alloc (Nat.le_refl _) _
  have x0 := CkBox.new w x A c K k
  have HN := New_any 8 12
  obtain ⟨q0, q1, q2, q3⟩ := x0.cs
  by_cases ht : x.t = 3
  · have h12' := h12 ht
    have ht' : ((x.t.toNat : Int) != 3) = false := by rw [ht]; rfl
    obtain ⟨ad, rfl, hadb, _⟩ := h.data (fun e => by rw [List.map_eq_nil_iff] at e; rw [e] at h12'; simp at h12')
    have hF := four_any ad x.d 8 (c - 8) (by have := h.dc; omega) (by omega) _ (h.on b0).data
    have hc12 : (12 : Int) ≤ (c : Int) := by have := h.dc; omega
    have hn1 := num2_lt x.d 8
    have hn2 := num2_lt x.d 10
    unfold cntC
    rw [decide_eq_true ht, Bool.true_and]
    clear h12 h ht
    generalize num2 x.d 8 = n1 at *
    generalize num2 x.d 10 = n2 at *
    obtain ⟨b, hdb⟩ : ∃ b, decide (n1 + n2 ≠ (x.d.length - 12) / 4) = b := ⟨_, rfl⟩
    rw [hdb]
    have HDB := Lib.hid hdb
    clear hdb
    go_enter Tryz.func128, Tryz.ntmps128
    go_wp2_with fail
    generalize w.alloc (.cells (ckCells x (some ad) c K k) 62) = w0 at *
    refine hF.mono ?_
    rintro e w1 ⟨g, c', rfl, r0, r1, b1⟩
    have x1 := x0.below b1
    clear q0 q1 q2 q3
    obtain ⟨q0, q1, q2, q3⟩ := x1.cs
    have hb1 := b0.trans (b1.mono b0.size)
    go_wp2_with fail
    go_region_held3 (fun W => W.cell? ⟨g, 0, none⟩ = some (.int .u32 (n1 : Int)) ∧ W.cell? ⟨g, 1, none⟩ = some (.int .u32 (n2 : Int)) ∧ W.cell? ⟨w.heap.size, 2, none⟩ = some (.slice (some ad) x.d.length c)) (go_keep) (fail)
    have hz : (IntKind.i64.wrap (IntKind.u32.wrap ((n1 : Int) + (n2 : Int))) != IntKind.i64.wrap ((IntKind.i64.wrap ((x.d.length : Int) - 12)).tdiv 4)) = decide (n1 + n2 ≠ (x.d.length - 12) / 4) := by
      rw [show IntKind.u32.wrap ((n1 : Int) + (n2 : Int)) = (n1 : Int) + (n2 : Int) by unfold IntKind.wrap IntKind.bits; simp; omega, show IntKind.i64.wrap ((n1 : Int) + (n2 : Int)) = (n1 : Int) + (n2 : Int) by unfold IntKind.wrap IntKind.bits; simp; omega,
        show IntKind.i64.wrap ((x.d.length : Int) - 12) = ((x.d.length - 12 : Nat) : Int) by unfold IntKind.wrap IntKind.bits; simp; omega,
        show (((x.d.length - 12 : Nat) : Int)).tdiv 4 = (((x.d.length - 12) / 4 : Nat) : Int) by rw [Int.tdiv_eq_ediv_of_nonneg (by omega)]; omega]
      have hm : (x.d.length - 12) / 4 ≤ 1000000 := by omega
      generalize (x.d.length - 12) / 4 = m at *
      rw [show IntKind.i64.wrap (m : Int) = (m : Int) by unfold IntKind.wrap IntKind.bits; simp; omega]
      by_cases hq : n1 + n2 = m
      · rw [decide_eq_false (by omega), bne_eq_false_iff_eq]
        omega
      · rw [decide_eq_true (by omega), bne_iff_ne]
        omega
    rw [hz, HDB.out]
    clear hz hc12 hF HDB
    cases b with
    | false =>
      go_wp2_with fail
      go_ret
      exact ⟨rfl, below_drew hb1⟩
    | true =>
      go_wp2_with fail
      refine (HN _).mono ?_
      rintro e w4 ⟨rfl, rfl⟩
      go_wp2_with fail
      go_ret
      exact ⟨rfl, below_drew hb1⟩
  · have ht' : ((x.t.toNat : Int) != 3) = true := by rw [bne_iff_ne]; exact fun e => ht (UInt8.toNat_inj.1 (by show x.t.toNat = 3; omega))
    unfold cntC
    rw [decide_eq_false ht, Bool.false_and]
    clear h12 h ht
    go_enter Tryz.func128, Tryz.ntmps128
    go_wp2_with fail
    go_ret
    exact ⟨rfl, b0⟩
/-! ### Groups -/
/-- the first group whose number is too great -/
def grp (d : List UInt8) : Option Nat := (List.range ((d.length - 4) / 8)).find? fun g => decide (1 < num2 d (4 + 8 * g + 2))
def wgOf (d : List UInt8) : Nat := 4 + 8 * (grp d).getD ((d.length - 4) / 8)
theorem grp_at {d : List UInt8} {k : Nat} (hk : k < (d.length - 4) / 8) (h : 1 < num2 d (4 + 8 * k + 2)) (hno : ∀ j, j < k → ¬ 1 < num2 d (4 + 8 * j + 2)) : grp d = some k := by
  unfold grp
  rw [List.find?_eq_some_iff_getElem]
  refine ⟨by simpa using h, k, by simpa using hk, by simp, fun j hj => ?_⟩
  have := hno j hj
  simpa using this
theorem grp_none {d : List UInt8} (hno : ∀ j, j < (d.length - 4) / 8 → ¬ 1 < num2 d (4 + 8 * j + 2)) : grp d = none := by
  unfold grp
  rw [List.find?_eq_none]
  intro j hj
  have := hno j (by simpa using hj)
  simpa using this
set_option maxRecDepth 100000 in
set_option maxHeartbeats 4000000 in
theorem wrongGroup_any (d : List UInt8) (hd : d.length ≤ 1000000) (h4 : 4 ≤ d.length) (h8 : (d.length - 4) % 8 = 0) (A : Option Addr) (c : Nat) (hc : d.length ≤ c) (w : World) (h : Lies w w.heap.size A (d.map bv)) :
    Calls Tryz.prog 166 #[.slice A d.length c] w fun e w' => e = .returned (.int .i64 ((wgOf d : Nat) : Int)) ∧ Below w.heap.size w w' := by
  obtain ⟨ad, rfl, hadb, _⟩ := h (fun e => by rw [List.map_eq_nil_iff] at e; rw [e] at h4; simp at h4)
  have HG : Hid (∀ k, k < (d.length - 4) / 8 → 1 < num2 d (4 + 8 * k + 2) → (∀ j, j < k → ¬ 1 < num2 d (4 + 8 * j + 2)) → wgOf d = 4 + 8 * k) := fun k h1 h2 h3 => by unfold wgOf; rw [grp_at h1 h2 h3]; rfl
  have HE : Hid ((∀ j, j < (d.length - 4) / 8 → ¬ 1 < num2 d (4 + 8 * j + 2)) → wgOf d = 4 + 8 * ((d.length - 4) / 8)) := fun h => by unfold wgOf; rw [grp_none h]; rfl
  generalize wgOf d = res at *
  have hG : d.length = 4 + 8 * ((d.length - 4) / 8) := by omega
  generalize (d.length - 4) / 8 = G at *
  have HL := Lib.hid hG
  have HA := Lib.hid h
  clear hG h
  go_enter Tryz.func166, Tryz.ntmps166
  go_wp2
  go_step3
  go_wp2_with fail
  go_step3
  go_wp2_with fail
  go_loopw [3] (fun i wr => ∃ k : Nat, k ≤ G ∧ i = .int .i64 ((4 + 8 * k : Nat) : Int) ∧ Hid (∀ j, j < k → ¬ 1 < num2 d (4 + 8 * j + 2)) ∧ Below w.heap.size w wr) (fun i _ => d.length + 8 - (intOf i).toNat)
  case atStart => exact ⟨0, Nat.zero_le _, rfl, fun j hj => by omega, Below.refl _ _⟩
  case round =>
    obtain ⟨k, hk, rfl, hno, hbel⟩ := hrel
    by_cases hlt : k < G
    · have hl := HL.out
      have hN := two_any ad d (4 + 8 * k + 2) (c - (4 + 8 * k + 2)) (by omega) (by omega) wr ((HA.out.below hbel).more hbel.size)
      have e1 : ((4 + 8 * k : Nat) : Int) < (d.length : Int) := by omega
      have HR := Lib.hid (fun h => HG.out k hlt h hno.out)
      have HM : Hid (d.length + 8 - (4 + 8 * (k + 1)) < d.length + 8 - (4 + 8 * k)) := by unfold Hid; omega
      have e2 : (0 : Int) ≤ ((4 + 8 * k : Nat) : Int) + 2 := by omega
      have e3 : ((4 + 8 * k : Nat) : Int) + 4 ≤ (c : Int) := by omega
      have HB : Hid (4 + 8 * k < 2000000) := by unfold Hid; omega
      have HNX : Hid (¬ 1 < num2 d (4 + 8 * k + 2) → ∀ j, j < k + 1 → ¬ 1 < num2 d (4 + 8 * j + 2)) := fun h j hj => by
        by_cases hjk : j = k
        · subst hjk; exact h
        · exact hno.out j (by omega)
      have HAT : Hid (4 + 8 * (k + 1) = 4 + 8 * k + 8) := by unfold Hid; omega
      generalize hat : 4 + 8 * k = at_ at *
      have hatl := HB.out
      generalize num2 d (at_ + 2) = n at *
      clear hl hat
      go_wp2_with fail
      refine hN.mono ?_
      rintro e w1 ⟨g, c', rfl, r0, b1⟩
      have hb1 := hbel.trans (b1.mono hbel.size)
      clear hN
      by_cases h1 : 1 < n
      · have q0 : ((n : Int) == 0) = false := by rw [beq_eq_false_iff_ne]; omega
        have q1 : ((n : Int) == 1) = false := by rw [beq_eq_false_iff_ne]; omega
        have HRR := Lib.hid (HR.out h1)
        clear h1
        go_wp2_with fail
        try rw [Exit.noGoto_ret]
        go_ret
        exact ⟨by rw [HRR.out]; rfl, hb1⟩
      · have HN2 := Lib.hid (HNX.out h1)
        have h01 : n = 0 ∨ n = 1 := by omega
        clear h1 HNX HR
        rcases h01 with rfl | rfl
        · go_wp2_with fail
          go_roundw
          case rel => exact ⟨k + 1, by omega, by rw [HAT.out]; go_num, HN2, hb1⟩
          case measure => simp [intOf]; omega
        · go_wp2_with fail
          go_roundw
          case rel => exact ⟨k + 1, by omega, by rw [HAT.out]; go_num, HN2, hb1⟩
          case measure => simp [intOf]; omega
    · obtain rfl : k = G := by omega
      have hl := HL.out
      have e1 : ¬ ((4 + 8 * k : Nat) : Int) < (d.length : Int) := by omega
      have HRR := Lib.hid (HE.out hno.out)
      generalize 4 + 8 * k = at_ at *
      clear hl
      go_wp2_with fail
      try rw [Exit.noGoto_ret]
      go_ret
      exact ⟨by rw [HRR.out]; rfl, hbel⟩
/-! ### Values -/
def cvalO (x : Ck) : Option Nat := if x.t = 64 then (if num2 x.d 6 ≠ 0 then some 10 else none) else if x.t = 194 then (if wgOf x.d < x.d.length then some (4 + wgOf x.d + 2) else none) else none
def cvalV : Option Nat → Value
  | some a => faultV 11 (a : Int)
  | none => .nilIface
theorem byte_cell {w : World} {B : Nat} {ad : Addr} {d : List UInt8} (h : Lies w B (some ad) (d.map bv)) {i : Nat} (hi : i < d.length) (h0 : 0 < i) : w.cell? ⟨ad.block, ad.off + i, none⟩ = some (bv (d.getD i 0)) := by
  obtain ⟨ad', e, _, hc⟩ := h (fun e => by rw [List.map_eq_nil_iff] at e; rw [e] at hi; simp at hi)
  cases e
  have := hc i (bv (d.getD i 0)) (by rw [List.getElem?_map, List.getElem?_eq_getElem hi]; simp [hi])
  have hi0 : ¬ i = 0 := by omega
  simpa [Addr.add, hi0] using this
set_option maxRecDepth 100000 in
set_option maxHeartbeats 4000000 in
theorem checkValue_any (x : Ck) (hx : x.d.length ≤ 1000000) (h64 : x.t = 64 → 17 ≤ x.d.length) (h194 : x.t = 194 → 4 ≤ x.d.length ∧ (x.d.length - 4) % 8 = 0) (A : Option Addr) (c : Nat) (K : Option Addr) (k : Nat) (w : World) (h : Chunk w w.heap.size A c K k x) :
    Calls Tryz.prog 129 #[ckV x A c K k] w fun e w' => e = .returned (cvalV (cvalO x)) ∧ Below w.heap.size w w' := by
  have b0 : Below w.heap.size w (w.alloc (.cells (ckCells x A c K k) 62)) := (Below.refl _ w).alloc (Nat.le_refl _) _
  have x0 := CkBox.new w x A c K k
  have HN := New_any 11 10
  obtain ⟨q0, q1, q2, q3⟩ := x0.cs
  unfold cvalO
  by_cases ht : x.t = 64
  · rw [if_pos ht]
    have hl := h64 ht
    obtain ⟨ad, rfl, hadb, _⟩ := h.data (fun e => by rw [List.map_eq_nil_iff] at e; rw [e] at hl; simp at hl)
    have d6 := byte_cell (h.on b0).data (i := 6) (by omega) (by omega)
    have d7 := byte_cell (h.on b0).data (i := 7) (by omega) (by omega)
    have ht' : ((x.t.toNat : Int) == 64) = true := by rw [ht]; rfl
    have i6 : (6 : Int) < (x.d.length : Int) := by omega
    have i7 : (7 : Int) < (x.d.length : Int) := by omega
    have hn : num2 x.d 6 = 256 * (x.d.getD 6 0).toNat + (x.d.getD 7 0).toNat := rfl
    rw [hn]
    clear hn ht h64 h194 h
    generalize x.d.getD 6 0 = b6 at *
    generalize x.d.getD 7 0 = b7 at *
    by_cases z6 : b6.toNat = 0
    · have z6' : ((b6.toNat : Int) != 0) = false := by rw [bne_eq_false_iff_eq]; omega
      by_cases z7 : b7.toNat = 0
      · have z7' : ((b7.toNat : Int) != 0) = false := by rw [bne_eq_false_iff_eq]; omega
        rw [if_neg (by omega)]
        clear z6 z7
        go_enter Tryz.func129, Tryz.ntmps129
        go_wp2_with fail
        go_ret
        exact ⟨rfl, b0⟩
      · have z7' : ((b7.toNat : Int) != 0) = true := by rw [bne_iff_ne]; omega
        rw [if_pos (by omega)]
        clear z6 z7
        go_enter Tryz.func129, Tryz.ntmps129
        go_wp2_with fail
        refine (HN _).mono ?_
        rintro e w4 ⟨rfl, rfl⟩
        go_wp2_with fail
        go_ret
        exact ⟨rfl, b0⟩
    · have z6' : ((b6.toNat : Int) != 0) = true := by rw [bne_iff_ne]; omega
      rw [if_pos (by omega)]
      clear z6
      go_enter Tryz.func129, Tryz.ntmps129
      go_wp2_with fail
      refine (HN _).mono ?_
      rintro e w4 ⟨rfl, rfl⟩
      go_wp2_with fail
      go_ret
      exact ⟨rfl, b0⟩
  · rw [if_neg ht]
    have ht0 : ((x.t.toNat : Int) == 64) = false := by rw [beq_eq_false_iff_ne]; exact fun e => ht (UInt8.toNat_inj.1 (by show x.t.toNat = 64; omega))
    clear ht h64
    by_cases ht : x.t = 194
    · rw [if_pos ht]
      have ht' : ((x.t.toNat : Int) == 194) = true := by rw [ht]; rfl
      obtain ⟨g4, g8⟩ := h194 ht
      have hW := wrongGroup_any x.d hx g4 g8 A c h.dc _ (h.on b0).data
      have HNw := fun a => New_any 11 a
      have hwl : wgOf x.d ≤ x.d.length := by
        unfold wgOf
        cases hg : grp x.d with
        | none => simp; omega
        | some g =>
          have := List.mem_of_find?_eq_some hg
          rw [List.mem_range] at this
          simp
          omega
      clear ht h194 h g4 g8
      generalize wgOf x.d = r at *
      by_cases hr : r < x.d.length
      · rw [if_pos hr]
        have hr' : (r : Int) < (x.d.length : Int) := by omega
        have e1 : IntKind.i64.wrap (IntKind.i64.wrap (4 + (r : Int)) + 2) = ((4 + r + 2 : Nat) : Int) := by unfold IntKind.wrap IntKind.bits; simp; omega
        have HE := Lib.hid e1
        clear hr e1
        go_enter Tryz.func129, Tryz.ntmps129
        go_wp2_with fail
        generalize w.alloc (.cells (ckCells x A c K k) 62) = w0 at *
        refine hW.mono ?_
        rintro e w1 ⟨rfl, b1⟩
        have x1 := x0.below b1
        clear q0 q1 q2 q3
        obtain ⟨q0, q1, q2, q3⟩ := x1.cs
        go_wp2_with fail
        refine (HNw _ _).mono ?_
        rintro e w4 ⟨rfl, rfl⟩
        go_wp2_with fail
        go_ret
        exact ⟨by first | (rw [← HE.out]; rfl) | rfl, b0.trans (b1.mono b0.size)⟩
      · rw [if_neg hr]
        have hr' : ¬ (r : Int) < (x.d.length : Int) := by omega
        clear hr
        go_enter Tryz.func129, Tryz.ntmps129
        go_wp2_with fail
        generalize w.alloc (.cells (ckCells x A c K k) 62) = w0 at *
        refine hW.mono ?_
        rintro e w1 ⟨rfl, b1⟩
        have x1 := x0.below b1
        clear q0 q1 q2 q3
        obtain ⟨q0, q1, q2, q3⟩ := x1.cs
        go_wp2_with fail
        go_ret
        exact ⟨rfl, b0.trans (b1.mono b0.size)⟩
    · rw [if_neg ht]
      have ht1 : ((x.t.toNat : Int) == 194) = false := by rw [beq_eq_false_iff_ne]; exact fun e => ht (UInt8.toNat_inj.1 (by show x.t.toNat = 194; omega))
      clear ht h194 h
      go_enter Tryz.func129, Tryz.ntmps129
      go_wp2_with fail
      go_ret
      exact ⟨rfl, b0⟩
end Go.Proofs.YteknmgmdmjmnmaaGreatDoor





namespace Go.Proofs.YteknmgmdmjmnmaaGreatDoor
open Go.RowKit

set_option linter.unusedSimpArgs false
theorem da_fits {x : Ck} (h : daB x = false) (hk : kn x.t = true) : kfitsB (kdOf x.t) (x.d.length : Int) = true := by
  unfold daB at h
  rw [hk, Bool.true_and] at h
  simpa using h
theorem kfits_of {f : Kd} {n : Int} (h : kfitsB f n = true) : f.lo ≤ n ∧ n ≤ f.hi ∧ (n - f.lo) % f.un = 0 := by
  unfold kfitsB at h
  simp only [Bool.and_eq_true, decide_eq_true_eq, beq_iff_eq] at h
  exact ⟨h.1.1, h.1.2, h.2⟩
theorem da_sack {x : Ck} (h : daB x = false) (ht : x.t = 3) : 12 ≤ x.d.length ∧ (x.d.length - 12) % 4 = 0 := by
  obtain ⟨h1, _, h3⟩ := kfits_of (da_fits h (by rw [ht]; decide))
  rw [ht] at h1 h3
  rw [show (kdOf 3).lo = 12 by decide] at h1 h3
  rw [show (kdOf 3).un = 4 by decide] at h3
  omega
theorem da_idata {x : Ck} (h : daB x = false) (ht : x.t = 64) : 17 ≤ x.d.length := by
  obtain ⟨h1, _, _⟩ := kfits_of (da_fits h (by rw [ht]; decide))
  rw [ht] at h1
  rw [show (kdOf 64).lo = 17 by decide] at h1
  omega
theorem da_ifwd {x : Ck} (h : daB x = false) (ht : x.t = 194) : 4 ≤ x.d.length ∧ (x.d.length - 4) % 8 = 0 := by
  obtain ⟨h1, _, h3⟩ := kfits_of (da_fits h (by rw [ht]; decide))
  rw [ht] at h1 h3
  rw [show (kdOf 194).lo = 4 by decide] at h1 h3
  rw [show (kdOf 194).un = 8 by decide] at h3
  omega
/-- the error of the first check that a chunk does not pass, of 7 -/
def ckE7 (x : Ck) : Value := if flB x = true then faultV 6 1 else (if daB x = true then faultV 7 0 else (if kidB x = true then faultV 7 0 else (if cntC x = true then faultV 8 12 else (match cvalO x with | some a => faultV 11 (a : Int) | none => (if chkL (kc x.t) x.ks ≠ 0 then codeV ((chkL (kc x.t) x.ks : Nat) : Int) else (if 65535 < csz x then codeV 4 else (.nilIface)))))))
def ckFs7 : List Value := [.func (.func 125) #[] #[], .func (.func 126) #[] #[], .func (.func 127) #[] #[], .func (.func 128) #[] #[], .func (.func 129) #[] #[], .func (.func 130) #[] #[], .func (.func 131) #[] #[]]
structure Pas7 (x : Ck) (i : Nat) : Prop where
  p0 : 0 < i → flB x = false
  p1 : 1 < i → daB x = false
  p2 : 2 < i → kidB x = false
  p3 : 3 < i → cntC x = false
  p4 : 4 < i → cvalO x = none
  p5 : 5 < i → chkL (kc x.t) x.ks = 0
  p6 : 6 < i → ¬ 65535 < csz x
set_option maxRecDepth 100000 in
set_option maxHeartbeats 8000000 in
theorem first7_any (x : Ck) (hf : CkFine x) (A : Option Addr) (c : Nat) (K : Option Addr) (k : Nat) (g : Nat) (w : World) (h : Chunk w w.heap.size A c K k x) (hg : g < w.heap.size) (hc : ∀ (j : Nat) (u : Value), ckFs7[j]? = some u → w.cell? ⟨g, j, none⟩ = some u) :
    Calls Tryz.prog 124 #[ckV x A c K k, .slice (some ⟨g, 0, none⟩) 7 7] w fun e w' => e = .returned (ckE7 x) ∧ Below w.heap.size w w' := by
  have b0 : Below w.heap.size w (w.alloc (.cells (ckCells x A c K k) 62)) := (Below.refl _ w).alloc (Nat.le_refl _) _
  have x0 := CkBox.new w x A c K k
  have HF : Hid (∀ W, Below w.heap.size w W → ∀ (j : Nat) (u : Value), ckFs7[j]? = some u → W.cell? ⟨g, j, none⟩ = some u) := fun W hW j u hu => (hW.cell (p := ⟨g, j, none⟩) hg).trans (hc j u hu)
  have H0 : Hid (∀ W, Below w.heap.size w W → Calls Tryz.prog 125 #[ckV x A c K k] W fun e w' => e = .returned (errV (flB x) 6 1) ∧ Below W.heap.size W w') := fun W hW => checkFlags_any x A c K k W
  have H1 : Hid (∀ W, Below w.heap.size w W → Calls Tryz.prog 126 #[ckV x A c K k] W fun e w' => e = .returned (errV (daB x) 7 0) ∧ Below W.heap.size W w') := fun W hW => checkData_any x A c K k W
  have H2 : Hid (∀ W, Below w.heap.size w W → Calls Tryz.prog 127 #[ckV x A c K k] W fun e w' => e = .returned (errV (kidB x) 7 0) ∧ Below W.heap.size W w') := fun W hW => checkKids_any x (Nat.le_trans hf.ks (by decide)) A c K k W (h.on hW).kids
  have H3 : Hid (daB x = false → ∀ W, Below w.heap.size w W → Calls Tryz.prog 128 #[ckV x A c K k] W fun e w' => e = .returned (errV (cntC x) 8 12) ∧ Below W.heap.size W w') := fun hda W hW => checkCount_any x hf.d (fun ht => (da_sack hda ht).1) A c K k W (h.on hW)
  have H4 : Hid (daB x = false → ∀ W, Below w.heap.size w W → Calls Tryz.prog 129 #[ckV x A c K k] W fun e w' => e = .returned (cvalV (cvalO x)) ∧ Below W.heap.size W w') := fun hda W hW => checkValue_any x hf.d (fun ht => da_idata hda ht) (fun ht => da_ifwd hda ht) A c K k W (h.on hW)
  have H5 : Hid (∀ W, Below w.heap.size w W → Calls Tryz.prog 130 #[ckV x A c K k] W fun e w' => e = .returned (codeE (chkL (kc x.t) x.ks)) ∧ Below W.heap.size W w') := fun W hW => checkInside_any x hf A c K k W (h.on hW)
  have H6 : Hid (∀ W, Below w.heap.size w W → Calls Tryz.prog 131 #[ckV x A c K k] W fun e w' => e = .returned (if 65535 < csz x then codeV 4 else .nilIface) ∧ Below W.heap.size W w') := fun W hW => checkSize_any x hf A c K k W (h.on hW)
  clear hc hf h
  go_enter Tryz.func124, Tryz.ntmps124
  go_wp2_with fail
  generalize w.alloc (.cells (ckCells x A c K k) 62) = w0 at *
  go_loopw [10] (fun i wr => ∃ q : Nat, q ≤ 7 ∧ i = .int .i64 (q : Int) ∧ Hid (Pas7 x q) ∧ Below w0.heap.size w0 wr) (fun i _ => 7 - (intOf i).toNat)
  case atStart => exact ⟨0, Nat.zero_le _, rfl, ⟨fun h => absurd h (by omega), fun h => absurd h (by omega), fun h => absurd h (by omega), fun h => absurd h (by omega), fun h => absurd h (by omega), fun h => absurd h (by omega), fun h => absurd h (by omega)⟩, Below.refl _ _⟩
  case round =>
    obtain ⟨q, hq, rfl, hp, hbel⟩ := hrel
    have hbw := b0.trans (hbel.mono b0.size)
    have x1 := x0.below hbel
    obtain ⟨s0, s1, s2, s3⟩ := x1.cs
    by_cases hq0 : q = 0
    · subst hq0
      have hfn := HF.out wr hbw 0 _ rfl
      have hC := H0.out wr hbw
      have HE := Lib.hid (show flB x = false → Pas7 x 1 from fun hz => ⟨fun _ => hz, fun h => absurd h (by omega), fun h => absurd h (by omega), fun h => absurd h (by omega), fun h => absurd h (by omega), fun h => absurd h (by omega), fun h => absurd h (by omega)⟩)
      cases hz : flB x with
      | false =>
        have HN := Lib.hid (HE.out hz)
        rw [hz] at hC; unfold errV at hC; simp only [Bool.false_eq_true, if_false] at hC
        clear HE hp
        go_wp2_with fail
        refine hC.mono ?_
        rintro e w5 ⟨rfl, b5⟩
        go_wp2_with fail
        go_roundw
        case rel => exact ⟨1, by omega, rfl, HN, hbel.trans (b5.mono hbel.size)⟩
        case measure => simp [intOf]
      | true =>
        have HR : Hid (ckE7 x = faultV 6 1) := by
          unfold Hid ckE7
          rw [if_pos hz]
        rw [hz] at hC; unfold errV faultV at hC; simp only [if_true] at hC
        clear HE hp
        go_wp2_with fail
        refine hC.mono ?_
        rintro e w5 ⟨rfl, b5⟩
        go_wp2_with fail
        go_ret
        exact ⟨by rw [HR.out]; rfl, hbw.trans (b5.mono hbw.size)⟩
    by_cases hq1 : q = 1
    · subst hq1
      have hfn := HF.out wr hbw 1 _ rfl
      have hC := H1.out wr hbw
      have HE := Lib.hid (show daB x = false → Pas7 x 2 from fun hz => ⟨fun _ => hp.out.p0 (by omega), fun _ => hz, fun h => absurd h (by omega), fun h => absurd h (by omega), fun h => absurd h (by omega), fun h => absurd h (by omega), fun h => absurd h (by omega)⟩)
      cases hz : daB x with
      | false =>
        have HN := Lib.hid (HE.out hz)
        rw [hz] at hC; unfold errV at hC; simp only [Bool.false_eq_true, if_false] at hC
        clear HE hp
        go_wp2_with fail
        refine hC.mono ?_
        rintro e w5 ⟨rfl, b5⟩
        go_wp2_with fail
        go_roundw
        case rel => exact ⟨2, by omega, rfl, HN, hbel.trans (b5.mono hbel.size)⟩
        case measure => simp [intOf]
      | true =>
        have HR : Hid (ckE7 x = faultV 7 0) := by
          unfold Hid ckE7
          rw [if_neg (by rw [(hp.out.p0 (by omega))]; decide)]
          rw [if_pos hz]
        rw [hz] at hC; unfold errV faultV at hC; simp only [if_true] at hC
        clear HE hp
        go_wp2_with fail
        refine hC.mono ?_
        rintro e w5 ⟨rfl, b5⟩
        go_wp2_with fail
        go_ret
        exact ⟨by rw [HR.out]; rfl, hbw.trans (b5.mono hbw.size)⟩
    by_cases hq2 : q = 2
    · subst hq2
      have hfn := HF.out wr hbw 2 _ rfl
      have hC := H2.out wr hbw
      have HE := Lib.hid (show kidB x = false → Pas7 x 3 from fun hz => ⟨fun _ => hp.out.p0 (by omega), fun _ => hp.out.p1 (by omega), fun _ => hz, fun h => absurd h (by omega), fun h => absurd h (by omega), fun h => absurd h (by omega), fun h => absurd h (by omega)⟩)
      cases hz : kidB x with
      | false =>
        have HN := Lib.hid (HE.out hz)
        rw [hz] at hC; unfold errV at hC; simp only [Bool.false_eq_true, if_false] at hC
        clear HE hp
        go_wp2_with fail
        refine hC.mono ?_
        rintro e w5 ⟨rfl, b5⟩
        go_wp2_with fail
        go_roundw
        case rel => exact ⟨3, by omega, rfl, HN, hbel.trans (b5.mono hbel.size)⟩
        case measure => simp [intOf]
      | true =>
        have HR : Hid (ckE7 x = faultV 7 0) := by
          unfold Hid ckE7
          rw [if_neg (by rw [(hp.out.p0 (by omega))]; decide)]
          rw [if_neg (by rw [(hp.out.p1 (by omega))]; decide)]
          rw [if_pos hz]
        rw [hz] at hC; unfold errV faultV at hC; simp only [if_true] at hC
        clear HE hp
        go_wp2_with fail
        refine hC.mono ?_
        rintro e w5 ⟨rfl, b5⟩
        go_wp2_with fail
        go_ret
        exact ⟨by rw [HR.out]; rfl, hbw.trans (b5.mono hbw.size)⟩
    by_cases hq3 : q = 3
    · subst hq3
      have hfn := HF.out wr hbw 3 _ rfl
      have hC := H3.out (hp.out.p1 (by omega)) wr hbw
      have HE := Lib.hid (show cntC x = false → Pas7 x 4 from fun hz => ⟨fun _ => hp.out.p0 (by omega), fun _ => hp.out.p1 (by omega), fun _ => hp.out.p2 (by omega), fun _ => hz, fun h => absurd h (by omega), fun h => absurd h (by omega), fun h => absurd h (by omega)⟩)
      cases hz : cntC x with
      | false =>
        have HN := Lib.hid (HE.out hz)
        rw [hz] at hC; unfold errV at hC; simp only [Bool.false_eq_true, if_false] at hC
        clear HE hp
        go_wp2_with fail
        refine hC.mono ?_
        rintro e w5 ⟨rfl, b5⟩
        go_wp2_with fail
        go_roundw
        case rel => exact ⟨4, by omega, rfl, HN, hbel.trans (b5.mono hbel.size)⟩
        case measure => simp [intOf]
      | true =>
        have HR : Hid (ckE7 x = faultV 8 12) := by
          unfold Hid ckE7
          rw [if_neg (by rw [(hp.out.p0 (by omega))]; decide)]
          rw [if_neg (by rw [(hp.out.p1 (by omega))]; decide)]
          rw [if_neg (by rw [(hp.out.p2 (by omega))]; decide)]
          rw [if_pos hz]
        rw [hz] at hC; unfold errV faultV at hC; simp only [if_true] at hC
        clear HE hp
        go_wp2_with fail
        refine hC.mono ?_
        rintro e w5 ⟨rfl, b5⟩
        go_wp2_with fail
        go_ret
        exact ⟨by rw [HR.out]; rfl, hbw.trans (b5.mono hbw.size)⟩
    by_cases hq4 : q = 4
    · subst hq4
      have hfn := HF.out wr hbw 4 _ rfl
      have hC := H4.out (hp.out.p1 (by omega)) wr hbw
      have HE := Lib.hid (show cvalO x = none → Pas7 x 5 from fun hz => ⟨fun _ => hp.out.p0 (by omega), fun _ => hp.out.p1 (by omega), fun _ => hp.out.p2 (by omega), fun _ => hp.out.p3 (by omega), fun _ => hz, fun h => absurd h (by omega), fun h => absurd h (by omega)⟩)
      cases hz : cvalO x with
      | none =>
        have HN := Lib.hid (HE.out hz)
        rw [hz] at hC; unfold cvalV at hC; simp only [] at hC
        clear HE hp
        go_wp2_with fail
        refine hC.mono ?_
        rintro e w5 ⟨rfl, b5⟩
        go_wp2_with fail
        go_roundw
        case rel => exact ⟨5, by omega, rfl, HN, hbel.trans (b5.mono hbel.size)⟩
        case measure => simp [intOf]
      | some av =>
        have HR : Hid (ckE7 x = faultV 11 (av : Int)) := by
          unfold Hid ckE7
          rw [if_neg (by rw [(hp.out.p0 (by omega))]; decide)]
          rw [if_neg (by rw [(hp.out.p1 (by omega))]; decide)]
          rw [if_neg (by rw [(hp.out.p2 (by omega))]; decide)]
          rw [if_neg (by rw [(hp.out.p3 (by omega))]; decide)]
          rw [hz]
        rw [hz] at hC; unfold cvalV faultV at hC; simp only [] at hC
        clear HE hp
        go_wp2_with fail
        refine hC.mono ?_
        rintro e w5 ⟨rfl, b5⟩
        go_wp2_with fail
        go_ret
        exact ⟨by rw [HR.out]; rfl, hbw.trans (b5.mono hbw.size)⟩
    by_cases hq5 : q = 5
    · subst hq5
      have hfn := HF.out wr hbw 5 _ rfl
      have hC := H5.out wr hbw
      have HE := Lib.hid (show chkL (kc x.t) x.ks = 0 → Pas7 x 6 from fun hz => ⟨fun _ => hp.out.p0 (by omega), fun _ => hp.out.p1 (by omega), fun _ => hp.out.p2 (by omega), fun _ => hp.out.p3 (by omega), fun _ => hp.out.p4 (by omega), fun _ => hz, fun h => absurd h (by omega)⟩)
      by_cases hz : chkL (kc x.t) x.ks = 0
      · have HN := Lib.hid (HE.out hz)
        rw [hz] at hC; unfold codeE at hC; simp only [if_true] at hC
        clear HE hp
        go_wp2_with fail
        refine hC.mono ?_
        rintro e w5 ⟨rfl, b5⟩
        go_wp2_with fail
        go_roundw
        case rel => exact ⟨6, by omega, rfl, HN, hbel.trans (b5.mono hbel.size)⟩
        case measure => simp [intOf]
      · have HR : Hid (ckE7 x = codeV ((chkL (kc x.t) x.ks : Nat) : Int)) := by
          unfold Hid ckE7
          rw [if_neg (by rw [(hp.out.p0 (by omega))]; decide)]
          rw [if_neg (by rw [(hp.out.p1 (by omega))]; decide)]
          rw [if_neg (by rw [(hp.out.p2 (by omega))]; decide)]
          rw [if_neg (by rw [(hp.out.p3 (by omega))]; decide)]
          rw [(hp.out.p4 (by omega))]
          rw [if_pos hz]
        unfold codeE codeV at hC; rw [if_neg hz] at hC
        clear HE hp
        go_wp2_with fail
        refine hC.mono ?_
        rintro e w5 ⟨rfl, b5⟩
        go_wp2_with fail
        go_ret
        exact ⟨by rw [HR.out]; rfl, hbw.trans (b5.mono hbw.size)⟩
    by_cases hq6 : q = 6
    · subst hq6
      have hfn := HF.out wr hbw 6 _ rfl
      have hC := H6.out wr hbw
      have HE := Lib.hid (show ¬ 65535 < csz x → Pas7 x 7 from fun hz => ⟨fun _ => hp.out.p0 (by omega), fun _ => hp.out.p1 (by omega), fun _ => hp.out.p2 (by omega), fun _ => hp.out.p3 (by omega), fun _ => hp.out.p4 (by omega), fun _ => hp.out.p5 (by omega), fun _ => hz⟩)
      by_cases hz : 65535 < csz x
      · have HR : Hid (ckE7 x = codeV 4) := by
          unfold Hid ckE7
          rw [if_neg (by rw [(hp.out.p0 (by omega))]; decide)]
          rw [if_neg (by rw [(hp.out.p1 (by omega))]; decide)]
          rw [if_neg (by rw [(hp.out.p2 (by omega))]; decide)]
          rw [if_neg (by rw [(hp.out.p3 (by omega))]; decide)]
          rw [(hp.out.p4 (by omega))]
          rw [if_neg (by rw [(hp.out.p5 (by omega))]; decide)]
          rw [if_pos hz]
        rw [if_pos hz] at hC; unfold codeV at hC
        clear HE hp
        go_wp2_with fail
        refine hC.mono ?_
        rintro e w5 ⟨rfl, b5⟩
        go_wp2_with fail
        go_ret
        exact ⟨by rw [HR.out]; rfl, hbw.trans (b5.mono hbw.size)⟩
      · have HN := Lib.hid (HE.out hz)
        rw [if_neg hz] at hC
        clear HE hp
        go_wp2_with fail
        refine hC.mono ?_
        rintro e w5 ⟨rfl, b5⟩
        go_wp2_with fail
        go_roundw
        case rel => exact ⟨7, by omega, rfl, HN, hbel.trans (b5.mono hbel.size)⟩
        case measure => simp [intOf]
    obtain rfl : q = 7 := by omega
    have HR : Hid (ckE7 x = .nilIface) := by
      unfold Hid ckE7
      rw [if_neg (by rw [(hp.out.p0 (by omega))]; decide)]
      rw [if_neg (by rw [(hp.out.p1 (by omega))]; decide)]
      rw [if_neg (by rw [(hp.out.p2 (by omega))]; decide)]
      rw [if_neg (by rw [(hp.out.p3 (by omega))]; decide)]
      rw [(hp.out.p4 (by omega))]
      rw [if_neg (by rw [(hp.out.p5 (by omega))]; decide)]
      rw [if_neg (hp.out.p6 (by omega))]
    clear hp
    go_wp2_with fail
    go_ret
    exact ⟨by rw [HR.out]; rfl, hbw⟩
end Go.Proofs.YteknmgmdmjmnmaaGreatDoor






namespace Go.Proofs.YteknmgmdmjmnmaaGreatDoor
open Go.RowKit

/-- the code of a chunk's error, 0 if it is right -/
def chkC (x : Ck) : Nat := if flB x = true then 6 else if daB x = true then 7 else if kidB x = true then 7 else if cntC x = true then 8 else match cvalO x with
  | some _ => 11
  | none => if chkL (kc x.t) x.ks ≠ 0 then chkL (kc x.t) x.ks else if 65535 < csz x then 4 else 0
theorem ckE7_form (x : Ck) : (chkC x = 0 ∧ ckE7 x = .nilIface) ∨ (chkC x ≠ 0 ∧ ∃ f a, ckE7 x = baseV f (chkC x : Nat) a) := by
  unfold chkC ckE7
  split
  · exact .inr ⟨by decide, true, 1, rfl⟩
  · split
    · exact .inr ⟨by decide, true, 0, rfl⟩
    · split
      · exact .inr ⟨by decide, true, 0, rfl⟩
      · split
        · exact .inr ⟨by decide, true, 12, rfl⟩
        · cases cvalO x with
          | some a => exact .inr ⟨by simp, true, (a : Int), rfl⟩
          | none =>
            simp only []
            split
            · rename_i h
              exact .inr ⟨h, false, 0, rfl⟩
            · split
              · exact .inr ⟨by decide, false, 0, rfl⟩
              · exact .inl ⟨rfl, rfl⟩
theorem chk_parts {x : Ck} (h : chkC x = 0) : flB x = false ∧ daB x = false ∧ kidB x = false ∧ cntC x = false ∧ cvalO x = none ∧ chkL (kc x.t) x.ks = 0 ∧ csz x ≤ 65535 := by
  unfold chkC at h
  split at h
  · cases h
  · rename_i h1
    split at h
    · cases h
    · rename_i h2
      split at h
      · cases h
      · rename_i h3
        split at h
        · cases h
        · rename_i h4
          cases hv : cvalO x with
          | some a => rw [hv] at h; cases h
          | none =>
            rw [hv] at h
            simp only [] at h
            split at h
            · rename_i h5; exact absurd h h5
            · rename_i h5
              split at h
              · cases h
              · rename_i h6
                refine ⟨by simpa using h1, by simpa using h2, by simpa using h3, by simpa using h4, rfl, by simpa using h5, by omega⟩
theorem whole_cells {w : World} {g : Nat} {t : TypeId} {fs : List Value} (h : Whole w g t fs.toArray) : ∀ (j : Nat) (u : Value), fs[j]? = some u → w.cell? ⟨g, j, none⟩ = some u := fun j u hu => by
  rw [h.cell]
  simpa using hu
set_option maxRecDepth 100000 in
set_option maxHeartbeats 2000000 in
theorem ccheck_any (x : Ck) (hf : CkFine x) (A : Option Addr) (c : Nat) (K : Option Addr) (k : Nat) (w : World) (h : Chunk w w.heap.size A c K k x) (hh : Handle w) :
    Calls Tryz.prog 84 #[ckV x A c K k] w fun e w' => e = .returned (codeE (chkC x)) ∧ Below w.heap.size w w' := by
  have b0 : Below w.heap.size w (w.alloc (.cells (ckCells x A c K k) 62)) := (Below.refl _ w).alloc (Nat.le_refl _) _
  have x0 := CkBox.new w x A c K k
  have hz0 : (w.alloc (.cells (ckCells x A c K k) 62)).heap.size = w.heap.size + 1 := by simp
  have hC := ckE7_form x
  obtain ⟨q0, q1, q2, q3⟩ := x0.cs
  have HFI : Calls Tryz.prog 124 #[ckV x A c K k, .slice (some ⟨w.heap.size + 1, 0, none⟩) 7 7] ((w.alloc (.cells (ckCells x A c K k) 62)).alloc (.cells ckFs7.toArray 219)) fun e w' => e = .returned (ckE7 x) ∧ Below w.heap.size w w' := by
    have b1 := b0.alloc b0.size (.cells ckFs7.toArray 219)
    have hW := Whole.new (w.alloc (.cells (ckCells x A c K k) 62)) 219 ckFs7.toArray
    rw [hz0] at hW
    refine (first7_any x hf A c K k (w.heap.size + 1) _ (h.on b1) hW.lt (whole_cells hW)).mono ?_
    rintro e w' ⟨h1, h2⟩
    exact ⟨h1, b1.trans (h2.mono b1.size)⟩
  rcases hC with ⟨hz, he⟩ | ⟨hz, f, a, he⟩
  · rw [he] at HFI
    rw [hz]
    clear hz he
    go_enter Tryz.func84, Tryz.ntmps84
    go_wp2_with fail
    refine HFI.mono ?_
    rintro e w1 ⟨rfl, b1⟩
    have hN := Code_nil w1
    go_wp2_with fail
    refine hN.mono ?_
    rintro e w2 ⟨rfl, b2⟩
    go_wp2_with fail
    go_ret
    exact ⟨rfl, b1.trans (b2.mono b1.size)⟩
  · rw [he] at HFI
    have hE : codeE (chkC x) = codeV ((chkC x : Nat) : Int) := by unfold codeE; rw [if_neg hz]
    rw [hE]
    generalize chkC x = n at *
    clear hz he hE
    unfold codeV
    go_enter Tryz.func84, Tryz.ntmps84
    go_wp2_with fail
    refine HFI.mono ?_
    rintro e w1 ⟨rfl, b1⟩
    have hN := Code_any f (n : Int) a w1 (hh.below b1 hh.lt)
    go_wp2_with fail
    refine hN.mono ?_
    rintro e w2 ⟨rfl, b2⟩
    go_wp2_with fail
    go_ret
    exact ⟨rfl, b1.trans (b2.mono b1.size)⟩

/-! ### Encode -/
end Go.Proofs.YteknmgmdmjmnmaaGreatDoor


