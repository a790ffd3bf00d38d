/- Layer 12: the check of the kids. It writes nothing that was there. -/
import Derived.Test.YtmohbkniekeafaaGreatDoorTCA
import Derived.BigGuard


namespace Go.Proofs.YtmohbkniekeafaaGreatDoor
open Go.RowKit

/-- the kids are not as many, or not of the types, that the form wants -/
def kidP (ki : Int) (ks : List Nd) : Bool := decide ((ks.length : Int) < (kins ki).2.1) || (decide ((kins ki).2.2 < (ks.length : Int)) || ((decide (ki = 1) && !begB [1] ks) || (decide (ki = 6) && !begB [5, 6] ks)))
def kidB (x : Ck) : Bool := kidP (kdOf x.t).ki x.ks
set_option maxRecDepth 100000 in
set_option maxHeartbeats 4000000 in
theorem checkKids_any (x : Ck) (_hx : x.ks.length ≤ 100000000) (A : Option Addr) (c : Nat) (K : Option Addr) (k : Nat) (w : World) (h : Nodes w w.heap.size K x.ks) :
    Calls Tryz.prog 81 #[ckV x A c K k] w fun e w' => e = .returned (errV (kidB x) 7 0) ∧ Below w.heap.size w w' := by
  have hO := kof12 x.t
  have hI := kinside_any (kdOf x.t).ki
  have b0 : Below w.heap.size w (w.alloc (.cells (ckCells x A c K k) 44)) := (Below.refl _ w).alloc (Nat.le_refl _) _
  have x0 := CkBox.new w x A c K k
  have HN := New_any 7 0
  have h0 := h.on b0
  have HK : Hid (∀ W, Below (w.alloc (.cells (ckCells x A c K k) 44)).heap.size (w.alloc (.cells (ckCells x A c K k) 44)) W → Nodes W W.heap.size K x.ks) := fun W hW => h0.on hW
  unfold kidB
  generalize kdOf x.t = f at *
  generalize kn x.t = kb at *
  obtain ⟨ty, nm, mk, lo, hi, un, ki⟩ := f
  unfold Kd.val at hO
  simp only [] at hO hI ⊢
  have hki : kins 1 = (1, 1, 1) ∧ kins 6 = (1, 2, 16384) := by decide
  have HPD : Hid (kidP ki x.ks = (decide ((x.ks.length : Int) < (kins ki).2.1) || (decide ((kins ki).2.2 < (x.ks.length : Int)) || ((decide (ki = 1) && !begB [1] x.ks) || (decide (ki = 6) && !begB [5, 6] x.ks))))) := rfl
  obtain ⟨q0, q1, q2, q3⟩ := x0.cs
  clear h h0
  by_cases c1 : (x.ks.length : Int) < (kins ki).2.1
  · have HP := Lib.hid (show kidP ki x.ks = true by rw [HPD.out, decide_eq_true c1]; rfl)
    generalize kidP ki x.ks = res at *
    clear HPD hki
    generalize kins ki = q at *
    obtain ⟨qa, qb, qc⟩ := q
    simp only [] at hI c1
    go_enter Tryz.func81, Tryz.ntmps81
    go_wp2_with fail
    generalize w.alloc (.cells (ckCells x A c K k) 44) = w0 at *
    refine (hO _).mono ?_
    rintro e w1 ⟨rfl, b1⟩
    have hW1 := Whole.new w1 181 #[bv ty, .string nm, bv mk, .int .i64 lo, .int .i64 hi, .int .i64 un, .int .i64 ki]
    have b2 := b1.alloc b1.size (.cells #[bv ty, .string nm, bv mk, .int .i64 lo, .int .i64 hi, .int .i64 un, .int .i64 ki] 181)
    have hb1 := b0.trans (b2.mono b0.size)
    have x1 := x0.below b2
    have n1 := HK.out _ b2
    clear q0 q1 q2 q3
    obtain ⟨q0, q1, q2, q3⟩ := x1.cs
    obtain ⟨d0, d1, d2, d3, d4, d5, d6⟩ := hW1.kd7
    go_wp2_with (first | (refine wpList_new_kd rfl 181 _ _ rfl w1 _ _ rfl rfl rfl (by kernel_rfl) rfl ?_) | (go_at_call 131; refine (hI _).mono ?_; rintro e w3 ⟨rfl, rfl⟩))
    refine (HN _).mono ?_
    rintro e w4 ⟨rfl, rfl⟩
    go_wp2_with fail
    go_ret
    exact ⟨by rw [HP.out]; rfl, hb1⟩

  by_cases c2 : (kins ki).2.2 < (x.ks.length : Int)
  · have HP := Lib.hid (show kidP ki x.ks = true by rw [HPD.out, decide_eq_true c2, Bool.true_or, Bool.or_true])
    generalize kidP ki x.ks = res at *
    clear HPD hki
    generalize kins ki = q at *
    obtain ⟨qa, qb, qc⟩ := q
    simp only [] at hI c1 c2
    go_enter Tryz.func81, Tryz.ntmps81
    go_wp2_with fail
    generalize w.alloc (.cells (ckCells x A c K k) 44) = w0 at *
    refine (hO _).mono ?_
    rintro e w1 ⟨rfl, b1⟩
    have hW1 := Whole.new w1 181 #[bv ty, .string nm, bv mk, .int .i64 lo, .int .i64 hi, .int .i64 un, .int .i64 ki]
    have b2 := b1.alloc b1.size (.cells #[bv ty, .string nm, bv mk, .int .i64 lo, .int .i64 hi, .int .i64 un, .int .i64 ki] 181)
    have hb1 := b0.trans (b2.mono b0.size)
    have x1 := x0.below b2
    have n1 := HK.out _ b2
    clear q0 q1 q2 q3
    obtain ⟨q0, q1, q2, q3⟩ := x1.cs
    obtain ⟨d0, d1, d2, d3, d4, d5, d6⟩ := hW1.kd7
    go_wp2_with (first | (refine wpList_new_kd rfl 181 _ _ rfl w1 _ _ rfl rfl rfl (by kernel_rfl) rfl ?_) | (go_at_call 131; refine (hI _).mono ?_; rintro e w3 ⟨rfl, rfl⟩))
    refine (HN _).mono ?_
    rintro e w4 ⟨rfl, rfl⟩
    go_wp2_with fail
    go_ret
    exact ⟨by rw [HP.out]; rfl, hb1⟩

  by_cases c3 : ki = 1
  · subst c3
    have hpos : 0 < x.ks.length := by rw [hki.1] at c1; simp only [] at c1; omega
    cases hbg : begB [1] x.ks with
    | true =>
      have HP := Lib.hid (show kidP 1 x.ks = false by rw [HPD.out, decide_eq_false c1, decide_eq_false c2, hbg]; rfl)
      generalize kidP 1 x.ks = res at *
      clear HPD hki
      rw [show kins 1 = (1, 1, 1) from rfl] at hI c1 c2
      simp only [] at hI c1 c2
      have e1 := decide_eq_false c1
      have e2 := decide_eq_false c2
      clear c1 c2
      go_enter Tryz.func81, Tryz.ntmps81
      go_wp2_with fail
      generalize w.alloc (.cells (ckCells x A c K k) 44) = w0 at *
      refine (hO _).mono ?_
      rintro e w1 ⟨rfl, b1⟩
      have hW1 := Whole.new w1 181 #[bv ty, .string nm, bv mk, .int .i64 lo, .int .i64 hi, .int .i64 un, .int .i64 1]
      have b2 := b1.alloc b1.size (.cells #[bv ty, .string nm, bv mk, .int .i64 lo, .int .i64 hi, .int .i64 un, .int .i64 1] 181)
      have hb1 := b0.trans (b2.mono b0.size)
      have x1 := x0.below b2
      have n1 := HK.out _ b2
      clear q0 q1 q2 q3
      obtain ⟨q0, q1, q2, q3⟩ := x1.cs
      obtain ⟨d0, d1, d2, d3, d4, d5, d6⟩ := hW1.kd7
      have b3 := (Below.refl _ (w1.alloc (.cells #[bv ty, .string nm, bv mk, .int .i64 lo, .int .i64 hi, .int .i64 un, .int .i64 1] 181))).alloc (Nat.le_refl _) (.cells #[.int .u16 1] 37)
      have hz2 : (w1.alloc (.cells #[bv ty, .string nm, bv mk, .int .i64 lo, .int .i64 hi, .int .i64 un, .int .i64 1] 181)).heap.size = w1.heap.size + 1 := by simp
      have HBG : Calls Tryz.prog 132 #[.slice (some ⟨w1.heap.size + 1, 0, none⟩) 1 1, .pointer (some ⟨w.heap.size, 0, none⟩)] ((w1.alloc (.cells #[bv ty, .string nm, bv mk, .int .i64 lo, .int .i64 hi, .int .i64 un, .int .i64 1] 181)).alloc (.cells #[.int .u16 1] 37)) fun e w' => e = .returned (.bool (begB [1] x.ks)) ∧ ((w1.alloc (.cells #[bv ty, .string nm, bv mk, .int .i64 lo, .int .i64 hi, .int .i64 un, .int .i64 1] 181)).alloc (.cells #[.int .u16 1] 37)) = w' := by
        have hL := Lies.newN (w1.alloc (.cells #[bv ty, .string nm, bv mk, .int .i64 lo, .int .i64 hi, .int .i64 un, .int .i64 1] 181)) (([1] : List UInt16).map hv) 37
        rw [hz2] at hL
        exact begins_any [1] (by simp) x hpos A c K k w.heap.size (some ⟨w1.heap.size + 1, 0, none⟩) 1 ((w1.alloc (.cells #[bv ty, .string nm, bv mk, .int .i64 lo, .int .i64 hi, .int .i64 un, .int .i64 1] 181)).alloc (.cells #[.int .u16 1] 37)) (x1.below b3) (n1.on b3) (hL.more (by simp))
      have hb3 := hb1.trans (b3.mono hb1.size)
      have d6' : ((w1.alloc (.cells #[bv ty, .string nm, bv mk, .int .i64 lo, .int .i64 hi, .int .i64 un, .int .i64 1] 181)).alloc (.cells #[.int .u16 1] 37)).cell? ⟨w1.heap.size, 6, none⟩ = some (.int .i64 1) := (b3.cell (p := ⟨w1.heap.size, 6, none⟩) (by simp)).trans d6
      rw [hbg] at HBG
      clear hbg
      clear b3
      go_wp2_with (first | (refine wpList_new_kd rfl 181 _ _ rfl w1 _ _ rfl rfl rfl (by kernel_rfl) rfl ?_) | (go_at_call 131; refine (hI _).mono ?_; rintro e w3 ⟨rfl, rfl⟩))
      refine HBG.mono ?_
      rintro e w5 ⟨rfl, rfl⟩
      go_wp2_with fail
      go_ret
      exact ⟨by rw [HP.out]; rfl, hb3⟩

    | false =>
      have HP := Lib.hid (show kidP 1 x.ks = true by rw [HPD.out, decide_eq_false c1, decide_eq_false c2, hbg]; rfl)
      generalize kidP 1 x.ks = res at *
      clear HPD hki
      rw [show kins 1 = (1, 1, 1) from rfl] at hI c1 c2
      simp only [] at hI c1 c2
      have e1 := decide_eq_false c1
      have e2 := decide_eq_false c2
      clear c1 c2
      go_enter Tryz.func81, Tryz.ntmps81
      go_wp2_with fail
      generalize w.alloc (.cells (ckCells x A c K k) 44) = w0 at *
      refine (hO _).mono ?_
      rintro e w1 ⟨rfl, b1⟩
      have hW1 := Whole.new w1 181 #[bv ty, .string nm, bv mk, .int .i64 lo, .int .i64 hi, .int .i64 un, .int .i64 1]
      have b2 := b1.alloc b1.size (.cells #[bv ty, .string nm, bv mk, .int .i64 lo, .int .i64 hi, .int .i64 un, .int .i64 1] 181)
      have hb1 := b0.trans (b2.mono b0.size)
      have x1 := x0.below b2
      have n1 := HK.out _ b2
      clear q0 q1 q2 q3
      obtain ⟨q0, q1, q2, q3⟩ := x1.cs
      obtain ⟨d0, d1, d2, d3, d4, d5, d6⟩ := hW1.kd7
      have b3 := (Below.refl _ (w1.alloc (.cells #[bv ty, .string nm, bv mk, .int .i64 lo, .int .i64 hi, .int .i64 un, .int .i64 1] 181))).alloc (Nat.le_refl _) (.cells #[.int .u16 1] 37)
      have hz2 : (w1.alloc (.cells #[bv ty, .string nm, bv mk, .int .i64 lo, .int .i64 hi, .int .i64 un, .int .i64 1] 181)).heap.size = w1.heap.size + 1 := by simp
      have HBG : Calls Tryz.prog 132 #[.slice (some ⟨w1.heap.size + 1, 0, none⟩) 1 1, .pointer (some ⟨w.heap.size, 0, none⟩)] ((w1.alloc (.cells #[bv ty, .string nm, bv mk, .int .i64 lo, .int .i64 hi, .int .i64 un, .int .i64 1] 181)).alloc (.cells #[.int .u16 1] 37)) fun e w' => e = .returned (.bool (begB [1] x.ks)) ∧ ((w1.alloc (.cells #[bv ty, .string nm, bv mk, .int .i64 lo, .int .i64 hi, .int .i64 un, .int .i64 1] 181)).alloc (.cells #[.int .u16 1] 37)) = w' := by
        have hL := Lies.newN (w1.alloc (.cells #[bv ty, .string nm, bv mk, .int .i64 lo, .int .i64 hi, .int .i64 un, .int .i64 1] 181)) (([1] : List UInt16).map hv) 37
        rw [hz2] at hL
        exact begins_any [1] (by simp) x hpos A c K k w.heap.size (some ⟨w1.heap.size + 1, 0, none⟩) 1 ((w1.alloc (.cells #[bv ty, .string nm, bv mk, .int .i64 lo, .int .i64 hi, .int .i64 un, .int .i64 1] 181)).alloc (.cells #[.int .u16 1] 37)) (x1.below b3) (n1.on b3) (hL.more (by simp))
      have hb3 := hb1.trans (b3.mono hb1.size)
      have d6' : ((w1.alloc (.cells #[bv ty, .string nm, bv mk, .int .i64 lo, .int .i64 hi, .int .i64 un, .int .i64 1] 181)).alloc (.cells #[.int .u16 1] 37)).cell? ⟨w1.heap.size, 6, none⟩ = some (.int .i64 1) := (b3.cell (p := ⟨w1.heap.size, 6, none⟩) (by simp)).trans d6
      rw [hbg] at HBG
      clear hbg
      clear b3
      go_wp2_with (first | (refine wpList_new_kd rfl 181 _ _ rfl w1 _ _ rfl rfl rfl (by kernel_rfl) rfl ?_) | (go_at_call 131; refine (hI _).mono ?_; rintro e w3 ⟨rfl, rfl⟩))
      refine HBG.mono ?_
      rintro e w5 ⟨rfl, rfl⟩
      go_wp2_with fail
      refine (HN _).mono ?_
      rintro e w4 ⟨rfl, rfl⟩
      go_wp2_with fail
      go_ret
      exact ⟨by rw [HP.out]; rfl, hb3⟩

  by_cases c4 : ki = 6
  · subst c4
    have hpos : 0 < x.ks.length := by rw [hki.2] at c1; simp only [] at c1; omega
    cases hbg : begB [5, 6] x.ks with
    | true =>
      have HP := Lib.hid (show kidP 6 x.ks = false by rw [HPD.out, decide_eq_false c1, decide_eq_false c2, hbg]; rfl)
      generalize kidP 6 x.ks = res at *
      clear HPD hki
      rw [show kins 6 = (1, 2, 16384) from rfl] at hI c1 c2
      simp only [] at hI c1 c2
      have e1 := decide_eq_false c1
      have e2 := decide_eq_false c2
      clear c1 c2
      go_enter Tryz.func81, Tryz.ntmps81
      go_wp2_with fail
      generalize w.alloc (.cells (ckCells x A c K k) 44) = w0 at *
      refine (hO _).mono ?_
      rintro e w1 ⟨rfl, b1⟩
      have hW1 := Whole.new w1 181 #[bv ty, .string nm, bv mk, .int .i64 lo, .int .i64 hi, .int .i64 un, .int .i64 6]
      have b2 := b1.alloc b1.size (.cells #[bv ty, .string nm, bv mk, .int .i64 lo, .int .i64 hi, .int .i64 un, .int .i64 6] 181)
      have hb1 := b0.trans (b2.mono b0.size)
      have x1 := x0.below b2
      have n1 := HK.out _ b2
      clear q0 q1 q2 q3
      obtain ⟨q0, q1, q2, q3⟩ := x1.cs
      obtain ⟨d0, d1, d2, d3, d4, d5, d6⟩ := hW1.kd7
      have b3 := (Below.refl _ (w1.alloc (.cells #[bv ty, .string nm, bv mk, .int .i64 lo, .int .i64 hi, .int .i64 un, .int .i64 6] 181))).alloc (Nat.le_refl _) (.cells #[.int .u16 5, .int .u16 6] 37)
      have hz2 : (w1.alloc (.cells #[bv ty, .string nm, bv mk, .int .i64 lo, .int .i64 hi, .int .i64 un, .int .i64 6] 181)).heap.size = w1.heap.size + 1 := by simp
      have HBG : Calls Tryz.prog 132 #[.slice (some ⟨w1.heap.size + 1, 0, none⟩) 2 2, .pointer (some ⟨w.heap.size, 0, none⟩)] ((w1.alloc (.cells #[bv ty, .string nm, bv mk, .int .i64 lo, .int .i64 hi, .int .i64 un, .int .i64 6] 181)).alloc (.cells #[.int .u16 5, .int .u16 6] 37)) fun e w' => e = .returned (.bool (begB [5, 6] x.ks)) ∧ ((w1.alloc (.cells #[bv ty, .string nm, bv mk, .int .i64 lo, .int .i64 hi, .int .i64 un, .int .i64 6] 181)).alloc (.cells #[.int .u16 5, .int .u16 6] 37)) = w' := by
        have hL := Lies.newN (w1.alloc (.cells #[bv ty, .string nm, bv mk, .int .i64 lo, .int .i64 hi, .int .i64 un, .int .i64 6] 181)) (([5, 6] : List UInt16).map hv) 37
        rw [hz2] at hL
        exact begins_any [5, 6] (by simp) x hpos A c K k w.heap.size (some ⟨w1.heap.size + 1, 0, none⟩) 2 ((w1.alloc (.cells #[bv ty, .string nm, bv mk, .int .i64 lo, .int .i64 hi, .int .i64 un, .int .i64 6] 181)).alloc (.cells #[.int .u16 5, .int .u16 6] 37)) (x1.below b3) (n1.on b3) (hL.more (by simp))
      have hb3 := hb1.trans (b3.mono hb1.size)
      have d6' : ((w1.alloc (.cells #[bv ty, .string nm, bv mk, .int .i64 lo, .int .i64 hi, .int .i64 un, .int .i64 6] 181)).alloc (.cells #[.int .u16 5, .int .u16 6] 37)).cell? ⟨w1.heap.size, 6, none⟩ = some (.int .i64 6) := (b3.cell (p := ⟨w1.heap.size, 6, none⟩) (by simp)).trans d6
      rw [hbg] at HBG
      clear hbg
      clear b3
      go_wp2_with (first | (refine wpList_new_kd rfl 181 _ _ rfl w1 _ _ rfl rfl rfl (by kernel_rfl) rfl ?_) | (go_at_call 131; refine (hI _).mono ?_; rintro e w3 ⟨rfl, rfl⟩))
      refine HBG.mono ?_
      rintro e w5 ⟨rfl, rfl⟩
      go_wp2_with fail
      go_ret
      exact ⟨by rw [HP.out]; rfl, hb3⟩

    | false =>
      have HP := Lib.hid (show kidP 6 x.ks = true by rw [HPD.out, decide_eq_false c1, decide_eq_false c2, hbg]; rfl)
      generalize kidP 6 x.ks = res at *
      clear HPD hki
      rw [show kins 6 = (1, 2, 16384) from rfl] at hI c1 c2
      simp only [] at hI c1 c2
      have e1 := decide_eq_false c1
      have e2 := decide_eq_false c2
      clear c1 c2
      go_enter Tryz.func81, Tryz.ntmps81
      go_wp2_with fail
      generalize w.alloc (.cells (ckCells x A c K k) 44) = w0 at *
      refine (hO _).mono ?_
      rintro e w1 ⟨rfl, b1⟩
      have hW1 := Whole.new w1 181 #[bv ty, .string nm, bv mk, .int .i64 lo, .int .i64 hi, .int .i64 un, .int .i64 6]
      have b2 := b1.alloc b1.size (.cells #[bv ty, .string nm, bv mk, .int .i64 lo, .int .i64 hi, .int .i64 un, .int .i64 6] 181)
      have hb1 := b0.trans (b2.mono b0.size)
      have x1 := x0.below b2
      have n1 := HK.out _ b2
      clear q0 q1 q2 q3
      obtain ⟨q0, q1, q2, q3⟩ := x1.cs
      obtain ⟨d0, d1, d2, d3, d4, d5, d6⟩ := hW1.kd7
      have b3 := (Below.refl _ (w1.alloc (.cells #[bv ty, .string nm, bv mk, .int .i64 lo, .int .i64 hi, .int .i64 un, .int .i64 6] 181))).alloc (Nat.le_refl _) (.cells #[.int .u16 5, .int .u16 6] 37)
      have hz2 : (w1.alloc (.cells #[bv ty, .string nm, bv mk, .int .i64 lo, .int .i64 hi, .int .i64 un, .int .i64 6] 181)).heap.size = w1.heap.size + 1 := by simp
      have HBG : Calls Tryz.prog 132 #[.slice (some ⟨w1.heap.size + 1, 0, none⟩) 2 2, .pointer (some ⟨w.heap.size, 0, none⟩)] ((w1.alloc (.cells #[bv ty, .string nm, bv mk, .int .i64 lo, .int .i64 hi, .int .i64 un, .int .i64 6] 181)).alloc (.cells #[.int .u16 5, .int .u16 6] 37)) fun e w' => e = .returned (.bool (begB [5, 6] x.ks)) ∧ ((w1.alloc (.cells #[bv ty, .string nm, bv mk, .int .i64 lo, .int .i64 hi, .int .i64 un, .int .i64 6] 181)).alloc (.cells #[.int .u16 5, .int .u16 6] 37)) = w' := by
        have hL := Lies.newN (w1.alloc (.cells #[bv ty, .string nm, bv mk, .int .i64 lo, .int .i64 hi, .int .i64 un, .int .i64 6] 181)) (([5, 6] : List UInt16).map hv) 37
        rw [hz2] at hL
        exact begins_any [5, 6] (by simp) x hpos A c K k w.heap.size (some ⟨w1.heap.size + 1, 0, none⟩) 2 ((w1.alloc (.cells #[bv ty, .string nm, bv mk, .int .i64 lo, .int .i64 hi, .int .i64 un, .int .i64 6] 181)).alloc (.cells #[.int .u16 5, .int .u16 6] 37)) (x1.below b3) (n1.on b3) (hL.more (by simp))
      have hb3 := hb1.trans (b3.mono hb1.size)
      have d6' : ((w1.alloc (.cells #[bv ty, .string nm, bv mk, .int .i64 lo, .int .i64 hi, .int .i64 un, .int .i64 6] 181)).alloc (.cells #[.int .u16 5, .int .u16 6] 37)).cell? ⟨w1.heap.size, 6, none⟩ = some (.int .i64 6) := (b3.cell (p := ⟨w1.heap.size, 6, none⟩) (by simp)).trans d6
      rw [hbg] at HBG
      clear hbg
      clear b3
      go_wp2_with (first | (refine wpList_new_kd rfl 181 _ _ rfl w1 _ _ rfl rfl rfl (by kernel_rfl) rfl ?_) | (go_at_call 131; refine (hI _).mono ?_; rintro e w3 ⟨rfl, rfl⟩))
      refine HBG.mono ?_
      rintro e w5 ⟨rfl, rfl⟩
      go_wp2_with fail
      refine (HN _).mono ?_
      rintro e w4 ⟨rfl, rfl⟩
      go_wp2_with fail
      go_ret
      exact ⟨by rw [HP.out]; rfl, hb3⟩

  have HP := Lib.hid (show kidP ki x.ks = false by rw [HPD.out, decide_eq_false c1, decide_eq_false c2, decide_eq_false c3, decide_eq_false c4]; rfl)
  have c3' : (ki == 1) = false := by rw [beq_eq_false_iff_ne]; exact c3
  have c4' : (ki == 6) = false := by rw [beq_eq_false_iff_ne]; exact c4
  generalize kidP ki x.ks = res at *
  clear HPD hki c3 c4
  generalize kins ki = q at *
  obtain ⟨qa, qb, qc⟩ := q
  simp only [] at hI c1 c2
  have e1 := decide_eq_false c1
  have e2 := decide_eq_false c2
  clear c1 c2
  go_enter Tryz.func81, Tryz.ntmps81
  go_wp2_with fail
  generalize w.alloc (.cells (ckCells x A c K k) 44) = w0 at *
  refine (hO _).mono ?_
  rintro e w1 ⟨rfl, b1⟩
  have hW1 := Whole.new w1 181 #[bv ty, .string nm, bv mk, .int .i64 lo, .int .i64 hi, .int .i64 un, .int .i64 ki]
  have b2 := b1.alloc b1.size (.cells #[bv ty, .string nm, bv mk, .int .i64 lo, .int .i64 hi, .int .i64 un, .int .i64 ki] 181)
  have hb1 := b0.trans (b2.mono b0.size)
  have x1 := x0.below b2
  have n1 := HK.out _ b2
  clear q0 q1 q2 q3
  obtain ⟨q0, q1, q2, q3⟩ := x1.cs
  obtain ⟨d0, d1, d2, d3, d4, d5, d6⟩ := hW1.kd7
  go_wp2_with (first | (refine wpList_new_kd rfl 181 _ _ rfl w1 _ _ rfl rfl rfl (by kernel_rfl) rfl ?_) | (go_at_call 131; refine (hI _).mono ?_; rintro e w3 ⟨rfl, rfl⟩))
  go_ret
  exact ⟨by rw [HP.out]; rfl, hb1⟩

end Go.Proofs.YtmohbkniekeafaaGreatDoor


