/- Layer 16: the law ForwardChunks (written by tools/gen_fwd_yc.py). It writes nothing that was there. -/
import Derived.Test.YtmohbkniekeafaaGreatDoorTFX
import Derived.Test.YtmohbkniekeafaaGreatDoorTFwdW
import Derived.Test.YtmohbkniekeafaaGreatDoorTCR
import Derived.Test.YtmohbkniekeafaaGreatDoorTChunkO
import Derived.Test.YtmohbkniekeafaaGreatDoorTChunkX
import Derived.Test.YtmohbkniekeafaaGreatDoorTCL
import Derived.Test.YtmohbkniekeafaaGreatDoorTNW
import Derived.Test.YtmohbkniekeafaaGreatDoorTNS
import Derived.Test.YtmohbkniekeafaaGreatDoorTNodeUO
import Derived.BigGuard










namespace Go.Proofs.YtmohbkniekeafaaGreatDoor
open Go.ChangeShapes Go.WideShapes Go.ChangeAt Go.RowKit

set_option linter.unusedSimpArgs false
/-- what Of gives of a right chunk -/
theorem ofW_yes {x : Ck} {w w' : World} {e : Ending} (hx : isW x = true) (h : OfW x w e w') : Below w.heap.size w w' ∧ ∃ A c, e = .returned (.tuple #[uv (nrd x.d 0 4), .slice A (fwL (itW x) x.d).length c, .bool true]) ∧ FsL w' w'.heap.size A c (fwL (itW x) x.d) := by
  unfold OfW ofWt ofWl at h
  simp only [hx, if_true] at h
  exact h
theorem ofW_none {x : Ck} {w w' : World} {e : Ending} (hx : isW x = false) (h : OfW x w e w') : Below w.heap.size w w' ∧ ∃ A c, e = .returned (.tuple #[.int .u32 0, .slice A 0 c, .bool false]) := by
  unfold OfW ofWt ofWl at h
  rw [hx] at h
  obtain ⟨hb, A, c, he, _⟩ := h
  exact ⟨hb, A, c, he⟩
theorem rofW_yes {x : Ck} (hx : isW x = true) (A : Option Addr) (c : Nat) (K : Option Addr) (k : Nat) (w : World) (h : Chunk w w.heap.size A c K k x) :
    Calls Tryz.prog 33 #[ckV x A c K k] w fun e w' => Below w.heap.size w w' ∧ ∃ A' c', e = .returned (.tuple #[uv (nrd x.d 0 4), .slice A' (fwL (itW x) x.d).length c']) ∧ FsL w' w'.heap.size A' c' (fwL (itW x) x.d) := by
  refine (rof16_any x hx A c K k w h).mono ?_
  rintro e w' ⟨hb, A', c', he, ho⟩
  unfold ofWt ofWl at he
  unfold ofWl at ho
  simp only [hx, if_true] at he ho
  exact ⟨hb, A', c', he, fsl_own ho rfl⟩
set_option maxRecDepth 100000 in
set_option maxHeartbeats 16000000 in
theorem fch_law (x : Ck) (hk : x.ks.length ≤ 9223372036854775807) (hb : ∀ n ∈ x.ks, Bnd n) (A : Option Addr) (c : Nat) (K : Option Addr) (k : Nat) (w : World) (h : Chunk w w.heap.size A c K k x) (hh : Handle w) :
    Calls Tryz.prog 6 #[ckV x A c K k] w fun e w' => e = .returned (.bool true) ∧ Below w.heap.size w w' := by
  have b0 : Below w.heap.size w (w.alloc (.cells (ckCells x A c K k) 44)) := (Below.refl _ w).alloc (Nat.le_refl _) _
  have x0 := CkBox.new w x A c K k
  have HH : Hid (∀ V, Below w.heap.size w V → Handle V) := Lib.hid (fun V hV => hh.below hV hh.lt)
  have HC : Hid (∀ V, Below w.heap.size w V → Chunk V V.heap.size A c K k x) := Lib.hid (fun V hV => h.on hV)
  have HF : Hid (∀ V, Below w.heap.size w V → Calls Tryz.prog 31 #[ckV x A c K k] V fun e w' => e = .returned (.bool (fewB x)) ∧ Below V.heap.size V w') := Lib.hid (fun V hV => rfew12 x hk hb A c K k V (HC.out V hV))
  have HW : Hid (∀ V, Below w.heap.size w V → Calls Tryz.prog 21 #[] V fun e w' => e = .returned (.bool true) ∧ Below V.heap.size V w') := Lib.hid (fun V hV => awake16_any V (HH.out V hV))
  clear hb h hh
  cases hf : fewB x with
  | false =>
    rw [hf] at HF
    clear hf HC hk
    go_enter Tryz.func6, Tryz.ntmps6
    go_wp2_with fail
    generalize w.alloc (.cells (ckCells x A c K k) 44) = w0 at *
    refine (HW.out w0 b0).mono ?_
    rintro e w1 ⟨rfl, b1⟩
    have B1 := b0.trans (b1.mono b0.size)
    have x1 := x0.below b1
    obtain ⟨q0, q1, q2, q3⟩ := x1.cs
    go_wp2_with fail
    refine (HF.out w1 B1).mono ?_
    rintro e w2 ⟨rfl, b2⟩
    have B2 := B1.trans (b2.mono B1.size)
    go_wp2_with fail
    refine (HW.out w2 B2).mono ?_
    rintro e w3 ⟨rfl, b3⟩
    go_wp2_with fail
    go_ret
    exact ⟨rfl, B2.trans (b3.mono B2.size)⟩
  | true =>
    obtain ⟨hfine, hd7, hk2, hsz⟩ := ck_fine hf
    rw [hf] at HF
    clear hf
    have HCk : Hid (∀ V, Below w.heap.size w V → Calls Tryz.prog 32 #[ckV x A c K k] V fun e w' => e = .returned (.int .i64 ((chkC x : Nat) : Int)) ∧ Below V.heap.size V w') := Lib.hid (fun V hV => rcheck12 x hfine A c K k V (HC.out V hV))
    have HOW : Hid (∀ V, Below w.heap.size w V → Calls Tryz.prog 25 #[ckV x A c K k] V (OfW x V)) := Lib.hid (fun V hV => fof_any x hfine A c K k V (HC.out V hV) (HH.out V hV))
    cases hw : isW x with
    | false =>
      have HOf : Hid (∀ V, Below w.heap.size w V → Calls Tryz.prog 25 #[ckV x A c K k] V fun e w' => Below V.heap.size V w' ∧ ∃ A c, e = .returned (.tuple #[.int .u32 0, .slice A 0 c, .bool false])) := Lib.hid (fun V hV => Calls.mono (R := OfW x V) (HOW.out V hV) fun _ _ h => ofW_none hw h)
      have hwt : (((x.t.toNat : Int) != 192) = true ∧ ((x.t.toNat : Int) != 194) = true) ∨ ((x.t = 192 ∨ x.t = 194) ∧ (((chkC x : Nat) : Int) != 0) = true) := by
        by_cases h1 : x.t = 192 ∨ x.t = 194
        · refine .inr ⟨h1, ?_⟩
          rw [bne_iff_ne]
          intro e
          have hc : chkC x = 0 := by omega
          unfold isW at hw
          rw [hc] at hw
          rcases h1 with e | e <;> (rw [e] at hw; revert hw; decide)
        · refine .inl ⟨?_, ?_⟩
          · rw [bne_iff_ne]
            intro e
            exact h1 (.inl (UInt8.toNat_inj.1 (by have : (192 : UInt8).toNat = 192 := rfl; omega)))
          · rw [bne_iff_ne]
            intro e
            exact h1 (.inr (UInt8.toNat_inj.1 (by have : (194 : UInt8).toNat = 194 := rfl; omega)))
      clear hw HOW hfine hd7 hk2 hsz HC hk
      generalize ((chkC x : Nat) : Int) = cc at *
      obtain ⟨t, fl, d, ks⟩ := x
      simp only [ckV, ckCells] at *
      rcases hwt with ⟨hn2, hn4⟩ | ⟨rfl | rfl, hcc⟩
      all_goals
        go_enter Tryz.func6, Tryz.ntmps6
        go_wp2_with fail
      · generalize w.alloc (.cells #[bv t, bv fl, .slice A d.length c, .slice K ks.length k] 44) = w0 at *
        refine (HW.out w0 b0).mono ?_
        rintro e w1 ⟨rfl, b1⟩
        have B1 := b0.trans (b1.mono b0.size)
        have x1 := x0.below b1
        obtain ⟨q0, q1, q2, q3⟩ := x1.cs
        go_wp2_with fail
        refine (HF.out w1 B1).mono ?_
        rintro e w2 ⟨rfl, b2⟩
        have B2 := B1.trans (b2.mono B1.size)
        have x2 := x1.below b2
        clear q0 q1 q2 q3 x1 x0 b0 b1 B1 b2
        obtain ⟨q0, q1, q2, q3⟩ := x2.cs
        go_wp2_with fail
        refine (HOf.out w2 B2).mono ?_
        rintro e w3 ⟨b3, A3, c3, rfl⟩
        have B3 := B2.trans (b3.mono B2.size)
        have x3 := x2.below b3
        clear q0 q1 q2 q3 x2 B2 b3
        obtain ⟨q0, q1, q2, q3⟩ := x3.cs
        go_wp2_with fail
        go_ret
        exact ⟨rfl, B3⟩
      · generalize w.alloc (.cells #[bv 192, bv fl, .slice A d.length c, .slice K ks.length k] 44) = w0 at *
        refine (HW.out w0 b0).mono ?_
        rintro e w1 ⟨rfl, b1⟩
        have B1 := b0.trans (b1.mono b0.size)
        have x1 := x0.below b1
        obtain ⟨q0, q1, q2, q3⟩ := x1.cs
        go_wp2_with fail
        refine (HF.out w1 B1).mono ?_
        rintro e w2 ⟨rfl, b2⟩
        have B2 := B1.trans (b2.mono B1.size)
        have x2 := x1.below b2
        clear q0 q1 q2 q3 x1 x0 b0 b1 B1 b2
        obtain ⟨q0, q1, q2, q3⟩ := x2.cs
        go_wp2_with fail
        refine (HOf.out w2 B2).mono ?_
        rintro e w3 ⟨b3, A3, c3, rfl⟩
        have B3 := B2.trans (b3.mono B2.size)
        have x3 := x2.below b3
        clear q0 q1 q2 q3 x2 B2 b3
        obtain ⟨q0, q1, q2, q3⟩ := x3.cs
        go_wp2_with fail
        refine (HCk.out w3 B3).mono ?_
        rintro e w4 ⟨rfl, b4⟩
        go_wp2_with fail
        go_ret
        exact ⟨rfl, B3.trans (b4.mono B3.size)⟩
      · generalize w.alloc (.cells #[bv 194, bv fl, .slice A d.length c, .slice K ks.length k] 44) = w0 at *
        refine (HW.out w0 b0).mono ?_
        rintro e w1 ⟨rfl, b1⟩
        have B1 := b0.trans (b1.mono b0.size)
        have x1 := x0.below b1
        obtain ⟨q0, q1, q2, q3⟩ := x1.cs
        go_wp2_with fail
        refine (HF.out w1 B1).mono ?_
        rintro e w2 ⟨rfl, b2⟩
        have B2 := B1.trans (b2.mono B1.size)
        have x2 := x1.below b2
        clear q0 q1 q2 q3 x1 x0 b0 b1 B1 b2
        obtain ⟨q0, q1, q2, q3⟩ := x2.cs
        go_wp2_with fail
        refine (HOf.out w2 B2).mono ?_
        rintro e w3 ⟨b3, A3, c3, rfl⟩
        have B3 := B2.trans (b3.mono B2.size)
        have x3 := x2.below b3
        clear q0 q1 q2 q3 x2 B2 b3
        obtain ⟨q0, q1, q2, q3⟩ := x3.cs
        go_wp2_with fail
        refine (HCk.out w3 B3).mono ?_
        rintro e w4 ⟨rfl, b4⟩
        go_wp2_with fail
        go_ret
        exact ⟨rfl, B3.trans (b4.mono B3.size)⟩
    | true =>
      have hback := isW_back hw
      have hhave := isW_have hw
      obtain ⟨h1, h2, h3, h4, _, h6⟩ := isW_all hw
      have hc0 := (isW_parts hw).2
      rw [hc0] at HCk
      have hll : (fwL (itW x) x.d).length ≤ 1000000 := by have := have_len hhave; have : 4 ≤ unitN (itW x) := by { cases itW x <;> decide }; have := Nat.mul_le_mul_right (fwL (itW x) x.d).length this; omega
      have HOf : Hid (∀ V, Below w.heap.size w V → Calls Tryz.prog 25 #[ckV x A c K k] V fun e w' => Below V.heap.size V w' ∧ ∃ A c, e = .returned (.tuple #[uv (nrd x.d 0 4), .slice A (fwL (itW x) x.d).length c, .bool true]) ∧ FsL w' w'.heap.size A c (fwL (itW x) x.d)) := Lib.hid (fun V hV => Calls.mono (R := OfW x V) (HOW.out V hV) fun _ _ h => ofW_yes hw h)
      have HRO : Hid (∀ V, Below w.heap.size w V → Calls Tryz.prog 33 #[ckV x A c K k] V fun e w' => Below V.heap.size V w' ∧ ∃ A c, e = .returned (.tuple #[uv (nrd x.d 0 4), .slice A (fwL (itW x) x.d).length c]) ∧ FsL w' w'.heap.size A c (fwL (itW x) x.d)) := Lib.hid (fun V hV => rofW_yes hw A c K k V (HC.out V hV))
      have HMk : Hid (∀ (A' : Option Addr) (c' : Nat) (V : World), FsL V V.heap.size A' c' (fwL (itW x) x.d) → Calls Tryz.prog 22 #[.bool (itW x), uv (nrd x.d 0 4), .slice A' (fwL (itW x) x.d).length c'] V fun e w' => Below V.heap.size V w' ∧ ∃ A' c', e = .returned (.tuple #[ckV x A' c' none 0, .bool true]) ∧ Chunk w' w'.heap.size A' c' none 0 x) := Lib.hid (fun A' c' V hV => Calls.mono (R := MkF (itW x) (nrd x.d 0 4) (fwL (itW x) x.d) V) (fmake_any (itW x) (nrd x.d 0 4) (fwL (itW x) x.d) A' c' V hV hll) fun e w' h => by
        have h9 := mkF_ck hhave h
        rw [hback] at h9
        exact h9)
      have HBk : Hid (∀ (A' : Option Addr) (c' : Nat) (V : World), FsL V V.heap.size A' c' (fwL (itW x) x.d) → Calls Tryz.prog 30 #[.slice A' (fwL (itW x) x.d).length c'] V fun e w' => Below V.heap.size V w' ∧ ∃ A2 c2, e = .returned (.slice A2 (fwL (itW x) x.d).length c2) ∧ FsL w' w'.heap.size A2 c2 (fwL (itW x) x.d)) := Lib.hid (fun A' c' V hV => Calls.mono (back16_any (fwL (itW x) x.d) A' c' V hV hll) fun e w' h => by
        obtain ⟨hb, A2, c2, he, ho⟩ := h
        exact ⟨hb, A2, c2, he, fsl_own ho rfl⟩)
      have HRS : Hid (∀ (A1 : Option Addr) (c1 : Nat) (A2 : Option Addr) (c2 : Nat) (V : World), FsL V V.heap.size A1 c1 (fwL (itW x) x.d) → FsL V V.heap.size A2 c2 (fwL (itW x) x.d) → Calls Tryz.prog 29 #[.slice A1 (fwL (itW x) x.d).length c1, .slice A2 (fwL (itW x) x.d).length c2] V fun e w' => e = .returned (.bool true) ∧ Below V.heap.size V w') := Lib.hid (fun A1 c1 A2 c2 V ha hb => rsame16_self (fwL (itW x) x.d) A1 c1 A2 c2 V ha hb)
      have HSm : Hid (∀ (A1 : Option Addr) (c1 : Nat) (V : World), Below w.heap.size w V → Chunk V V.heap.size A1 c1 none 0 x → Calls Tryz.prog 26 #[ckV x A1 c1 none 0, ckV x A c K k] V fun e w' => e = .returned (.bool true) ∧ Below V.heap.size V w') := Lib.hid (fun A1 c1 V hV h9 => by
        have hq := rcsame12 x x (by unfold maxLen; omega) (by omega) (by omega) A1 c1 none 0 A c K k V h9 (HC.out V hV)
        rw [ckEq_self16] at hq
        exact hq)
      have ht : (x.t = 192 ∧ itW x = false) ∨ (x.t = 194 ∧ itW x = true) := by
        cases hi : itW x with
        | false => rw [hi] at h1; exact .inl ⟨h1, rfl⟩
        | true => rw [hi] at h1; exact .inr ⟨h1, rfl⟩
      clear HOW hfine hd7 hk2 hsz HC hk hback hhave h1 h4 h6 hc0 hll hw
      generalize hfl : fwL (itW x) x.d = l at *
      generalize nrd x.d 0 4 = q at *
      have hts : ((q.toNat : Int) == (q.toNat : Int)) = true := by simp
      clear hfl
      obtain ⟨t, fl, d, ks⟩ := x
      simp only at ht h2
      clear h3
      subst h2
      rcases ht with ⟨rfl, hi⟩ | ⟨rfl, hi⟩
      all_goals
        rw [hi] at HMk
        clear hi
        simp only [ckV, ckCells] at *
      · have HSm2 : Hid (∀ (A1 : Option Addr) (c1 : Nat) (V : World), Below w.heap.size w V → Chunk V V.heap.size A1 c1 none 0 ⟨192, 0, d, ks⟩ → Calls Tryz.prog 26 #[.agg #[.int .u8 192, .int .u8 0, .slice A1 d.length c1, .slice none ks.length 0], .agg #[bv 192, bv 0, .slice A d.length c, .slice K ks.length k]] V fun e w' => e = .returned (.bool true) ∧ Below V.heap.size V w') := HSm
        go_enter Tryz.func6, Tryz.ntmps6
        go_wp2_with fail
        generalize w.alloc (.cells #[bv 192, bv 0, .slice A d.length c, .slice K ks.length k] 44) = w0 at *
        refine (HW.out w0 b0).mono ?_
        rintro e w1 ⟨rfl, b1⟩
        have B1 := b0.trans (b1.mono b0.size)
        have x1 := x0.below b1
        obtain ⟨q0, q1, q2, q3⟩ := x1.cs
        go_wp2_with fail
        refine (HF.out w1 B1).mono ?_
        rintro e w2 ⟨rfl, b2⟩
        have B2 := B1.trans (b2.mono B1.size)
        have x2 := x1.below b2
        clear q0 q1 q2 q3 x1 x0 b0 b1 B1 b2
        obtain ⟨q0, q1, q2, q3⟩ := x2.cs
        go_wp2_with fail
        refine (HOf.out w2 B2).mono ?_
        rintro e w3 ⟨b3, A3, c3, rfl, F3⟩
        have B3 := B2.trans (b3.mono B2.size)
        have x3 := x2.below b3
        clear q0 q1 q2 q3 x2 B2 b3
        obtain ⟨q0, q1, q2, q3⟩ := x3.cs
        go_wp2_with fail
        refine (HCk.out w3 B3).mono ?_
        rintro e w4 ⟨rfl, b4⟩
        have B4 := B3.trans (b4.mono B3.size)
        have x4 := x3.below b4
        have F4 := F3.on b4
        clear q0 q1 q2 q3 x3 B3 b4 F3
        obtain ⟨q0, q1, q2, q3⟩ := x4.cs
        go_wp2_with fail
        refine (HRO.out w4 B4).mono ?_
        rintro e w5 ⟨b5, A5, c5, rfl, F5⟩
        have B5 := B4.trans (b5.mono B4.size)
        have x5 := x4.below b5
        have E5 := F4.on b5
        clear q0 q1 q2 q3 x4 B4 b5 F4
        obtain ⟨q0, q1, q2, q3⟩ := x5.cs
        go_wp2_with fail
        refine (HMk.out A3 c3 w5 E5).mono ?_
        rintro e w6 ⟨b6, A6, c6, rfl, C6⟩
        have B6 := B5.trans (b6.mono B5.size)
        have x6 := x5.below b6
        have E6 := E5.on b6
        have F6 := F5.on b6
        clear q0 q1 q2 q3 x5 B5 b6 F5 E5
        go_upto_region 8 with fail
        have v7 : Below w6.heap.size w6 (w6.alloc (.cells #[.int .u8 192, .int .u8 0, .slice A6 d.length c6, .slice none ks.length 0] 44)) := (Below.refl _ _).alloc (Nat.le_refl _) _
        have z7 := Whole.new w6 44 #[.int .u8 192, .int .u8 0, .slice A6 d.length c6, .slice none ks.length 0]
        have x7 := x6.below v7
        have E7 := E6.on v7
        have F7 := F6.on v7
        have C7 := C6.on v7
        have B7 := B6.trans (v7.mono B6.size)
        generalize w6.alloc (.cells #[.int .u8 192, .int .u8 0, .slice A6 d.length c6, .slice none ks.length 0] 44) = w7 at *
        generalize w6.heap.size = g6 at *
        clear x6 E6 F6 C6 B6 v7
        go_wp2_with fail
        refine (HBk.out A3 c3 w7 E7).mono ?_
        rintro e w8 ⟨b8, A8, c8, rfl, G8⟩
        have x8 := x7.below b8
        have z8 := z7.below b8 z7.lt
        have F8 := F7.on b8
        have C8 := C7.on b8
        have B8 := B7.trans (b8.mono B7.size)
        clear x7 z7 F7 C7 B7 E7 b8
        go_wp2_with fail
        refine (HRS.out A8 c8 A5 c5 w8 G8 F8).mono ?_
        rintro e w9 ⟨rfl, b9⟩
        have x9 := x8.below b9
        have z9 := z8.below b9 z8.lt
        have C9 := C8.on b9
        have B9 := B8.trans (b9.mono B8.size)
        clear x8 z8 F8 C8 B8 G8 b9
        obtain ⟨q0, q1, q2, q3⟩ := x9.cs
        obtain ⟨m0, m1, m2, m3⟩ := wh4 z9
        go_wp2_with fail
        refine (HSm2.out A6 c6 w9 B9 C9).mono ?_
        rintro e w10 ⟨rfl, b10⟩
        go_wp2_with fail
        go_ret
        exact ⟨rfl, B9.trans (b10.mono B9.size)⟩
      · have HSm2 : Hid (∀ (A1 : Option Addr) (c1 : Nat) (V : World), Below w.heap.size w V → Chunk V V.heap.size A1 c1 none 0 ⟨194, 0, d, ks⟩ → Calls Tryz.prog 26 #[.agg #[.int .u8 194, .int .u8 0, .slice A1 d.length c1, .slice none ks.length 0], .agg #[bv 194, bv 0, .slice A d.length c, .slice K ks.length k]] V fun e w' => e = .returned (.bool true) ∧ Below V.heap.size V w') := HSm
        go_enter Tryz.func6, Tryz.ntmps6
        go_wp2_with fail
        generalize w.alloc (.cells #[bv 194, bv 0, .slice A d.length c, .slice K ks.length k] 44) = w0 at *
        refine (HW.out w0 b0).mono ?_
        rintro e w1 ⟨rfl, b1⟩
        have B1 := b0.trans (b1.mono b0.size)
        have x1 := x0.below b1
        obtain ⟨q0, q1, q2, q3⟩ := x1.cs
        go_wp2_with fail
        refine (HF.out w1 B1).mono ?_
        rintro e w2 ⟨rfl, b2⟩
        have B2 := B1.trans (b2.mono B1.size)
        have x2 := x1.below b2
        clear q0 q1 q2 q3 x1 x0 b0 b1 B1 b2
        obtain ⟨q0, q1, q2, q3⟩ := x2.cs
        go_wp2_with fail
        refine (HOf.out w2 B2).mono ?_
        rintro e w3 ⟨b3, A3, c3, rfl, F3⟩
        have B3 := B2.trans (b3.mono B2.size)
        have x3 := x2.below b3
        clear q0 q1 q2 q3 x2 B2 b3
        obtain ⟨q0, q1, q2, q3⟩ := x3.cs
        go_wp2_with fail
        refine (HCk.out w3 B3).mono ?_
        rintro e w4 ⟨rfl, b4⟩
        have B4 := B3.trans (b4.mono B3.size)
        have x4 := x3.below b4
        have F4 := F3.on b4
        clear q0 q1 q2 q3 x3 B3 b4 F3
        obtain ⟨q0, q1, q2, q3⟩ := x4.cs
        go_wp2_with fail
        refine (HRO.out w4 B4).mono ?_
        rintro e w5 ⟨b5, A5, c5, rfl, F5⟩
        have B5 := B4.trans (b5.mono B4.size)
        have x5 := x4.below b5
        have E5 := F4.on b5
        clear q0 q1 q2 q3 x4 B4 b5 F4
        obtain ⟨q0, q1, q2, q3⟩ := x5.cs
        go_wp2_with fail
        refine (HMk.out A3 c3 w5 E5).mono ?_
        rintro e w6 ⟨b6, A6, c6, rfl, C6⟩
        have B6 := B5.trans (b6.mono B5.size)
        have x6 := x5.below b6
        have E6 := E5.on b6
        have F6 := F5.on b6
        clear q0 q1 q2 q3 x5 B5 b6 F5 E5
        go_upto_region 8 with fail
        have v7 : Below w6.heap.size w6 (w6.alloc (.cells #[.int .u8 194, .int .u8 0, .slice A6 d.length c6, .slice none ks.length 0] 44)) := (Below.refl _ _).alloc (Nat.le_refl _) _
        have z7 := Whole.new w6 44 #[.int .u8 194, .int .u8 0, .slice A6 d.length c6, .slice none ks.length 0]
        have x7 := x6.below v7
        have E7 := E6.on v7
        have F7 := F6.on v7
        have C7 := C6.on v7
        have B7 := B6.trans (v7.mono B6.size)
        generalize w6.alloc (.cells #[.int .u8 194, .int .u8 0, .slice A6 d.length c6, .slice none ks.length 0] 44) = w7 at *
        generalize w6.heap.size = g6 at *
        clear x6 E6 F6 C6 B6 v7
        go_wp2_with fail
        refine (HBk.out A3 c3 w7 E7).mono ?_
        rintro e w8 ⟨b8, A8, c8, rfl, G8⟩
        have x8 := x7.below b8
        have z8 := z7.below b8 z7.lt
        have F8 := F7.on b8
        have C8 := C7.on b8
        have B8 := B7.trans (b8.mono B7.size)
        clear x7 z7 F7 C7 B7 E7 b8
        go_wp2_with fail
        refine (HRS.out A8 c8 A5 c5 w8 G8 F8).mono ?_
        rintro e w9 ⟨rfl, b9⟩
        have x9 := x8.below b9
        have z9 := z8.below b9 z8.lt
        have C9 := C8.on b9
        have B9 := B8.trans (b9.mono B8.size)
        clear x8 z8 F8 C8 B8 G8 b9
        obtain ⟨q0, q1, q2, q3⟩ := x9.cs
        obtain ⟨m0, m1, m2, m3⟩ := wh4 z9
        go_wp2_with fail
        refine (HSm2.out A6 c6 w9 B9 C9).mono ?_
        rintro e w10 ⟨rfl, b10⟩
        go_wp2_with fail
        go_ret
        exact ⟨rfl, B9.trans (b10.mono B9.size)⟩
set_option maxRecDepth 100000 in
theorem law_ForwardChunks {H : Type} {enc : TypeId × Value → H} {W : World} {base : Nat} {v0 : Value} {d0 : DataW H} {p0 : List MemPlace}
    (o0 : Value.okWide Tryz.prog W .any base 44 v0) (h0 : DataW.Trod enc Tryz.prog W 0 (fun _ => true) true 44 v0 d0 p0) (s0 : Small Tryz.prog 44 d0) (hL : laidMetH Tryz.prog laidL W) :
    Calls Tryz.prog 6 #[v0] W fun e w' => e = .returned (.bool true) ∧ Below W.heap.size W w' := by
  obtain ⟨x, A, c, K, k, rfl, hC, hB⟩ := open_chunk o0 h0 s0
  exact fch_law x (by have := hC.kc; have := hC.km; unfold maxLen at this; omega) hB A c K k W hC (handle_of_laid hL)
end Go.Proofs.YtmohbkniekeafaaGreatDoor


