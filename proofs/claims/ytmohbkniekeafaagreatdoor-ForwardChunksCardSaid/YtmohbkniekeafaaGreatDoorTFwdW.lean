/- Layer 16: the law ForwardMatchesReference (written by tools/gen_fwd_w.py). It writes nothing that was there. -/
import Derived.Test.YtmohbkniekeafaaGreatDoorTFO
import Derived.Test.YtmohbkniekeafaaGreatDoorTFX
import Derived.Test.YtmohbkniekeafaaGreatDoorTCT
import Derived.Test.YtmohbkniekeafaaGreatDoorTDT
import Derived.Test.YtmohbkniekeafaaGreatDoorTNF
import Derived.BigGuard
import Derived.Deep.RegionHeld3









namespace Go.Proofs.YtmohbkniekeafaaGreatDoor
open Go.ChangeShapes Go.WideShapes Go.ChangeAt Go.RowKit

set_option linter.unusedSimpArgs false
theorem ckEq_self16 (a : Ck) : ckEq a a = true := by
  unfold ckEq
  rw [beqL_true rfl]
  simp
theorem fsl_own {w : World} {base e n c : Nat} {A : Option Addr} {l : List Fs} (h : w.ownsRow base e 3 (.slice A n c) n (fsFlat l)) (hn : l.length = n) : FsL w w.heap.size A c l := by
  refine ⟨Lies.own h, ?_, ?_⟩
  all_goals
    rw [hn] at *
    rcases h.2 with ⟨h1, h2⟩ | ⟨g, cap, cur, h1, _, _, h3, h4, _⟩
    · simp only [Value.slice.injEq] at h1
      omega
    · simp only [Value.slice.injEq] at h1
      omega
def zck16 : Ck := ⟨0, 0, [], []⟩
theorem zck16_fine : CkFine zck16 := ⟨by simp [zck16], by simp [zck16], by intro q hq; cases hq⟩
theorem zck16_lies (w : World) (B : Nat) : Chunk w B none 0 none 0 zck16 := ⟨Lies.nil, Nat.le_refl _, Nat.zero_le _, Nodes.nil _ _ _, Nat.le_refl _, Nat.zero_le _⟩
theorem zck16_no : isW zck16 = false := isW_no (.inl ⟨by decide, by decide⟩)
theorem zof16 (w : World) (hh : Handle w) : Calls Tryz.prog 25 #[.agg #[.int .u8 0, .int .u8 0, .slice none 0 0, .slice none 0 0]] w fun e w' => Below w.heap.size w w' ∧ ∃ A c, e = .returned (.tuple #[.int .u32 0, .slice A 0 c, .bool false]) :=
  Calls.mono (R := OfW zck16 w) (fof_any zck16 zck16_fine none 0 none 0 w (zck16_lies w _) hh) fun e w' h => by
    unfold OfW ofWt ofWl at h
    rw [zck16_no] at h
    obtain ⟨hb, A, c, he, _⟩ := h
    exact ⟨hb, A, c, he⟩
theorem zsame16 (w : World) : Calls Tryz.prog 26 #[.agg #[.int .u8 0, .int .u8 0, .slice none 0 0, .slice none 0 0], .agg #[.int .u8 0, .int .u8 0, .slice none 0 0, .slice none 0 0]] w fun e w' => e = .returned (.bool true) ∧ Below w.heap.size w w' := by
  have h9 := rcsame12 zck16 zck16 (by simp [zck16]) (by simp [zck16]) (by simp [zck16]) none 0 none 0 none 0 none 0 w (zck16_lies _ _) (zck16_lies _ _)
  rw [ckEq_self16] at h9
  exact h9
/-- the chunk of skips, made -/
theorem mkF_ck {inter : Bool} {tsn : UInt32} {l : List Fs} {w w' : World} {e : Ending} (hs : haveB inter l = true) (h : MkF inter tsn l w e w') : Below w.heap.size w w' ∧ ∃ A' c', e = .returned (.tuple #[ckV (fwC inter tsn l) A' c' none 0, .bool true]) ∧ Chunk w' w'.heap.size A' c' none 0 (fwC inter tsn l) := by
  obtain ⟨hb, ⟨_, A', c', rfl, ho⟩ | ⟨hn, _⟩⟩ := h
  · have hc := own_cap ho
    have hl := fB_len inter tsn l
    refine ⟨hb, A', c', ?_, Lies.own ho, ?_, hc.2.2, Nodes.nil _ _ _, by simp [fwC], by decide⟩
    · show _ = Ending.returned (.tuple #[.agg #[bv (tyF inter), .int .u8 0, .slice A' (fB inter tsn l).length c', .slice none 0 0], .bool true])
      rw [hl]
    · show (fB inter tsn l).length ≤ _
      rw [hl]
      exact hc.2.1
  · rw [hs] at hn; exact absurd hn (by simp)
theorem mkF_zero {inter : Bool} {tsn : UInt32} {l : List Fs} {w w' : World} {e : Ending} (hs : haveB inter l = false) (h : MkF inter tsn l w e w') : Below w.heap.size w w' ∧ e = .returned (.tuple #[.agg #[.int .u8 0, .int .u8 0, .slice none 0 0, .slice none 0 0], .bool false]) := by
  obtain ⟨hb, ⟨h1, _⟩ | ⟨_, he⟩⟩ := h
  · rw [hs] at h1; exact absurd h1 (by simp)
  · exact ⟨hb, he⟩
theorem rmkF_ck {inter : Bool} {tsn : UInt32} {l : List Fs} (A : Option Addr) (c : Nat) (w : World) (h : FsL w w.heap.size A c l) (hs : haveB inter l = true) :
    Calls Tryz.prog 27 #[.bool inter, uv tsn, .slice A l.length c] w fun e w' => Below w.heap.size w w' ∧ ∃ A' c', e = .returned (ckV (fwC inter tsn l) A' c' none 0) ∧ Chunk w' w'.heap.size A' c' none 0 (fwC inter tsn l) := by
  refine (rmake16_any inter tsn l A c w h hs).mono ?_
  rintro e w' ⟨hb, A', c', rfl, ho⟩
  have hc := own_cap ho
  have hl := fB_len inter tsn l
  refine ⟨hb, A', c', ?_, Lies.own ho, ?_, hc.2.2, Nodes.nil _ _ _, by simp [fwC], by decide⟩
  · show _ = Ending.returned (.agg #[bv (tyF inter), .int .u8 0, .slice A' (fB inter tsn l).length c', .slice none 0 0])
    rw [hl]
  · show (fB inter tsn l).length ≤ _
    rw [hl]
    exact hc.2.1
theorem ofF_ck {inter : Bool} {tsn : UInt32} {l : List Fs} {w w' : World} {e : Ending} (hs : haveB inter l = true) (h : OfW (fwC inter tsn l) w e w') : Below w.heap.size w w' ∧ ∃ A c, e = .returned (.tuple #[uv tsn, .slice A l.length c, .bool true]) ∧ FsL w' w'.heap.size A c l := by
  unfold OfW at h
  rw [fwC_t hs, fwC_l hs, fwC_is hs] at h
  exact h
set_option maxRecDepth 100000 in
set_option maxHeartbeats 16000000 in
theorem fmr_law (inter : Bool) (tsn : UInt32) (l : List Fs) (A : Option Addr) (c : Nat) (w : World) (h : FsL w w.heap.size A c l) (hh : Handle w) :
    Calls Tryz.prog 5 #[.bool inter, uv tsn, .slice A l.length c] w fun e w' => e = .returned (.bool true) ∧ Below w.heap.size w w' := by
  have HX : Hid (∀ V, Below w.heap.size w V → FsL V V.heap.size A c l) := Lib.hid (fun V hV => h.on hV)
  have HH : Hid (∀ V, Below w.heap.size w V → Handle V) := Lib.hid (fun V hV => hh.below hV hh.lt)
  have HW := Lib.hid (awake16_any w hh)
  clear h hh
  by_cases hlen : 200 < l.length
  · have hi : (200 : Int) < (l.length : Int) := by omega
    clear hlen
    go_enter Tryz.func5, Tryz.ntmps5
    go_wp2_with fail
    refine HW.out.mono ?_
    rintro e w1 ⟨rfl, b1⟩
    have HW1 := Lib.hid (awake16_any w1 (HH.out w1 b1))
    go_wp2_with fail
    refine HW1.out.mono ?_
    rintro e w2 ⟨rfl, b2⟩
    go_wp2_with fail
    go_ret
    exact ⟨rfl, b1.trans (b2.mono b1.size)⟩
  · have hi : ¬ (200 : Int) < (l.length : Int) := by omega
    have HG : Hid (∀ V, Below w.heap.size w V → Calls Tryz.prog 23 #[.slice A l.length c] V fun e w' => Below V.heap.size V w' ∧ ∃ A' c', e = .returned (.slice A' l.length c') ∧ FsL w' w'.heap.size A' c' l) := Lib.hid (fun V hV => Calls.mono (given16_any l A c V (HX.out V hV) (by omega)) fun e w' h => by
      obtain ⟨hb, A', c', he, ho⟩ := h
      exact ⟨hb, A', c', he, fsl_own ho rfl⟩)
    have HRr : Hid (∀ V, Below w.heap.size w V → Calls Tryz.prog 24 #[.bool inter, .slice A l.length c] V fun e w' => e = .returned (.bool (haveB inter l)) ∧ w' = V) := Lib.hid (fun V hV => frright_any inter l A c V (HX.out V hV) (by omega))
    have HMF : Hid (∀ (A' : Option Addr) (c' : Nat) (V : World), FsL V V.heap.size A' c' l → Calls Tryz.prog 22 #[.bool inter, uv tsn, .slice A' l.length c'] V (MkF inter tsn l V)) := Lib.hid (fun A' c' V hV => fmake_any inter tsn l A' c' V hV (by omega))
    have HBk : Hid (∀ (A' : Option Addr) (c' : Nat) (V : World), FsL V V.heap.size A' c' l → Calls Tryz.prog 30 #[.slice A' l.length c'] V fun e w' => Below V.heap.size V w' ∧ ∃ A2 c2, e = .returned (.slice A2 l.length c2) ∧ FsL w' w'.heap.size A2 c2 l) := Lib.hid (fun A' c' V hV => Calls.mono (back16_any l A' c' V hV (by omega)) fun e w' h => by
      obtain ⟨hb, A2, c2, he, ho⟩ := h
      exact ⟨hb, A2, c2, he, fsl_own ho rfl⟩)
    have HRS : Hid (∀ (A' : Option Addr) (c' : Nat) (V : World), Below w.heap.size w V → FsL V V.heap.size A' c' l → Calls Tryz.prog 29 #[.slice A' l.length c', .slice A l.length c] V fun e w' => e = .returned (.bool true) ∧ Below V.heap.size V w') := Lib.hid (fun A' c' V hV h1 => rsame16_self l A' c' A c V h1 (HX.out V hV))
    clear hlen
    cases hB : haveB inter l with
    | false =>
      have HMk : Hid (∀ (A' : Option Addr) (c' : Nat) (V : World), FsL V V.heap.size A' c' l → Calls Tryz.prog 22 #[.bool inter, uv tsn, .slice A' l.length c'] V fun e w' => Below V.heap.size V w' ∧ e = .returned (.tuple #[.agg #[.int .u8 0, .int .u8 0, .slice none 0 0, .slice none 0 0], .bool false])) := Lib.hid (fun A' c' V hV => Calls.mono (R := MkF inter tsn l V) (HMF.out A' c' V hV) fun _ _ h => mkF_zero hB h)
      rw [hB] at HRr
      clear hB HMF HBk HRS
      go_enter Tryz.func5, Tryz.ntmps5
      go_wp2_with fail
      refine HW.out.mono ?_
      rintro e w1 ⟨rfl, b1⟩
      go_wp2_with fail
      refine (HG.out w1 b1).mono ?_
      rintro e w2 ⟨b2, A2, c2, rfl, hF2⟩
      have B2 := b1.trans (b2.mono b1.size)
      clear b1 b2
      go_wp2_with fail
      refine (HMk.out A2 c2 w2 hF2).mono ?_
      rintro e w3 ⟨b3, rfl⟩
      have B3 := B2.trans (b3.mono B2.size)
      clear b3 B2 hF2
      go_upto_region 4 with fail
      have B4 := B3.alloc B3.size (.cells #[.int .u8 0, .int .u8 0, .slice none 0 0, .slice none 0 0] 44)
      have z4 := Whole.new w3 44 #[.int .u8 0, .int .u8 0, .slice none 0 0, .slice none 0 0]
      generalize w3.alloc (.cells #[.int .u8 0, .int .u8 0, .slice none 0 0, .slice none 0 0] 44) = w4 at *
      generalize w3.heap.size = g4 at *
      clear B3
      obtain ⟨m0, m1, m2, m3⟩ := wh4 z4
      go_wp2_with fail
      refine (HRr.out w4 B4).mono ?_
      rintro e w5 ⟨rfl, rfl⟩
      have HO5 := Lib.hid (zof16 w5 (HH.out w5 B4))
      go_wp2_with fail
      refine HO5.out.mono ?_
      rintro e w6 ⟨b6, A6, c6, rfl⟩
      have z6 := z4.below b6 z4.lt
      have B6 := B4.trans (b6.mono B4.size)
      clear m0 m1 m2 m3 z4 b6 B4 HO5
      obtain ⟨m0, m1, m2, m3⟩ := wh4 z6
      have HS6 := Lib.hid (zsame16 w6)
      go_wp2_with fail
      refine HS6.out.mono ?_
      rintro e w7 ⟨rfl, b7⟩
      go_wp2_with fail
      go_ret
      exact ⟨rfl, B6.trans (b7.mono B6.size)⟩
    | true =>
      have hle := have_len hB
      have hlB := fB_len inter tsn l
      have HMk : Hid (∀ (A' : Option Addr) (c' : Nat) (V : World), FsL V V.heap.size A' c' l → Calls Tryz.prog 22 #[.bool inter, uv tsn, .slice A' l.length c'] V fun e w' => Below V.heap.size V w' ∧ ∃ A' c', e = .returned (.tuple #[.agg #[bv (tyF inter), .int .u8 0, .slice A' (fB inter tsn l).length c', .slice none 0 0], .bool true]) ∧ Chunk w' w'.heap.size A' c' none 0 (fwC inter tsn l)) := Lib.hid (fun A' c' V hV => Calls.mono (R := MkF inter tsn l V) (HMF.out A' c' V hV) fun _ _ h => mkF_ck hB h)
      have HOf : Hid (∀ (A' : Option Addr) (c' : Nat) (V : World), Below w.heap.size w V → Chunk V V.heap.size A' c' none 0 (fwC inter tsn l) → Calls Tryz.prog 25 #[.agg #[bv (tyF inter), .int .u8 0, .slice A' (fB inter tsn l).length c', .slice none 0 0]] V fun e w' => Below V.heap.size V w' ∧ ∃ A c, e = .returned (.tuple #[uv tsn, .slice A l.length c, .bool true]) ∧ FsL w' w'.heap.size A c l) := Lib.hid (fun A' c' V hV hC => Calls.mono (R := OfW (fwC inter tsn l) V) (fof_any (fwC inter tsn l) (fwC_fine hB) A' c' none 0 V hC (HH.out V hV)) fun _ _ h => ofF_ck hB h)
      have HRM : Hid (∀ V, Below w.heap.size w V → Calls Tryz.prog 27 #[.bool inter, uv tsn, .slice A l.length c] V fun e w' => Below V.heap.size V w' ∧ ∃ A' c', e = .returned (.agg #[bv (tyF inter), .int .u8 0, .slice A' (fB inter tsn l).length c', .slice none 0 0]) ∧ Chunk w' w'.heap.size A' c' none 0 (fwC inter tsn l)) := Lib.hid (fun V hV => rmkF_ck A c V (HX.out V hV) hB)
      have hdl7 : (fB inter tsn l).length ≤ maxLen := by rw [hlB]; unfold maxLen; omega
      have HSm : Hid (∀ (V : World) (A1 : Option Addr) (c1 : Nat) (A2 : Option Addr) (c2 : Nat), Chunk V V.heap.size A1 c1 none 0 (fwC inter tsn l) → Chunk V V.heap.size A2 c2 none 0 (fwC inter tsn l) → Calls Tryz.prog 26 #[.agg #[bv (tyF inter), .int .u8 0, .slice A1 (fB inter tsn l).length c1, .slice none 0 0], .agg #[bv (tyF inter), .int .u8 0, .slice A2 (fB inter tsn l).length c2, .slice none 0 0]] V fun e w' => e = .returned (.bool true) ∧ Below V.heap.size V w') := Lib.hid (fun V A1 c1 A2 c2 h1 h2 => by
        have h9 := rcsame12 (fwC inter tsn l) (fwC inter tsn l) hdl7 (by simp [fwC]) (by simp [fwC]) A1 c1 none 0 A2 c2 none 0 V h1 h2
        rw [ckEq_self16] at h9
        exact h9)
      have HCk : Hid (∀ (A' : Option Addr) (c' : Nat) (V : World), Below w.heap.size w V → Chunk V V.heap.size A' c' none 0 (fwC inter tsn l) → Calls Tryz.prog 28 #[.agg #[bv (tyF inter), .int .u8 0, .slice A' (fB inter tsn l).length c', .slice none 0 0]] V fun e w' => e = .returned .nilIface ∧ Below V.heap.size V w') := Lib.hid (fun A' c' V hV hC => by
        have h9 := ccheck_any (fwC inter tsn l) (fwC_fine hB) A' c' none 0 V hC (HH.out V hV)
        rw [fwC_right hB] at h9
        exact h9)
      rw [hB] at HRr
      clear hB HMF hle hlB hdl7
      generalize fwC inter tsn l = x at *
      generalize tyF inter = ty at *
      generalize (fB inter tsn l).length = n at *
      have hts : ((tsn.toNat : Int) == (tsn.toNat : Int)) = true := by simp
      go_enter Tryz.func5, Tryz.ntmps5
      go_wp2_with fail
      refine HW.out.mono ?_
      rintro e w1 ⟨rfl, b1⟩
      go_wp2_with fail
      refine (HG.out w1 b1).mono ?_
      rintro e w2 ⟨b2, A2, c2, rfl, hF2⟩
      have B2 := b1.trans (b2.mono b1.size)
      clear b1 b2
      go_wp2_with fail
      refine (HMk.out A2 c2 w2 hF2).mono ?_
      rintro e w3 ⟨b3, A4, c4, rfl, C3⟩
      have B3 := B2.trans (b3.mono B2.size)
      clear b3 B2 hF2
      go_upto_region 4 with fail
      have v4 : Below w3.heap.size w3 (w3.alloc (.cells #[bv ty, .int .u8 0, .slice A4 n c4, .slice none 0 0] 44)) := (Below.refl _ _).alloc (Nat.le_refl _) _
      have B4 := B3.trans (v4.mono B3.size)
      have z4 := Whole.new w3 44 #[bv ty, .int .u8 0, .slice A4 n c4, .slice none 0 0]
      have C4 := C3.on v4
      generalize w3.alloc (.cells #[bv ty, .int .u8 0, .slice A4 n c4, .slice none 0 0] 44) = w4 at *
      generalize w3.heap.size = g4 at *
      clear B3 C3 v4
      obtain ⟨m0, m1, m2, m3⟩ := wh4 z4
      go_wp2_with fail
      refine (HRr.out w4 B4).mono ?_
      rintro e w5 ⟨rfl, rfl⟩
      have HO5 := Lib.hid (HOf.out A4 c4 w5 B4 C4)
      go_wp2_with fail
      refine HO5.out.mono ?_
      rintro e w6 ⟨b6, A6, c6, rfl, F6⟩
      have z6 := z4.below b6 z4.lt
      have C6 := C4.on b6
      have B6 := B4.trans (b6.mono B4.size)
      clear m0 m1 m2 m3 z4 C4 b6 B4 HO5
      go_upto_region 9 with fail
      have KS : Hid (∀ W, Below w6.heap.size w6 W → (W.cell? ⟨g4, 0, none⟩ = some (bv ty) ∧ W.cell? ⟨g4, 1, none⟩ = some (.int .u8 0) ∧ W.cell? ⟨g4, 2, none⟩ = some (.slice A4 n c4) ∧ W.cell? ⟨g4, 3, none⟩ = some (.slice none 0 0))) := Lib.hid (fun W hW => wh4 (z6.below hW z6.lt))
      have HT : Hid (∀ V, Below w6.heap.size w6 V → Chunk V V.heap.size A4 c4 none 0 x ∧ FsL V V.heap.size A6 c6 l ∧ Below w.heap.size w V) := Lib.hid (fun V hV => ⟨C6.on hV, F6.on hV, B6.trans (hV.mono B6.size)⟩)
      clear C6 F6
      refine wp_region_held_drew (S := (fun W => (W.cell? ⟨g4, 0, none⟩ = some (bv ty) ∧ W.cell? ⟨g4, 1, none⟩ = some (.int .u8 0) ∧ W.cell? ⟨g4, 2, none⟩ = some (.slice A4 n c4) ∧ W.cell? ⟨g4, 3, none⟩ = some (.slice none 0 0)))) (by kernel_rfl) (KS.out _ (below_drew (Below.refl _ _))) (fun hHeld => ?_)
      refine take_at (i := 0) (v := ?_) (some 48) rfl (by kernel_rfl) (by kernel_rfl) (by kernel_rfl) (fun _ _ _ h => h) (by kernel_rfl) (Or.inl ⟨by kernel_rfl, ?_⟩) (by assumption) ?_
      rotate_left
      · (intro w hSw; (try dsimp only at hSw); go_simp <;> with_reducible rfl)
      simp only [Act.put, List.setIfInBounds_toArray, List.set_cons_zero, List.set_cons_succ]
      refine take_at (i := 1) (v := ?_) (some 49) rfl (by kernel_rfl) (by kernel_rfl) (by kernel_rfl) (fun _ _ _ h => h) (by kernel_rfl) (Or.inl ⟨by kernel_rfl, ?_⟩) (by assumption) ?_
      rotate_left
      · (intro w hSw; (try dsimp only at hSw); go_simp <;> with_reducible rfl)
      simp only [Act.put, List.setIfInBounds_toArray, List.set_cons_zero, List.set_cons_succ]
      refine take_at (i := 2) (v := ?_) (some 50) rfl (by kernel_rfl) (by kernel_rfl) (by kernel_rfl) (fun _ _ _ h => h) (by kernel_rfl) (Or.inl ⟨by kernel_rfl, ?_⟩) (by assumption) ?_
      rotate_left
      · (intro w hSw; (try dsimp only at hSw); go_simp <;> with_reducible rfl)
      simp only [Act.put, List.setIfInBounds_toArray, List.set_cons_zero, List.set_cons_succ]
      refine take_at (i := 3) (v := ?_) (some 51) rfl (by kernel_rfl) (by kernel_rfl) (by kernel_rfl) (fun _ _ _ h => h) (by kernel_rfl) (Or.inl ⟨by kernel_rfl, ?_⟩) (by assumption) ?_
      rotate_left
      · (intro w hSw; (try dsimp only at hSw); go_simp <;> with_reducible rfl)
      simp only [Act.put, List.setIfInBounds_toArray, List.set_cons_zero, List.set_cons_succ]
      refine wpAnyH_ready (rs := [4]) (by kernel_rfl) (by simp) ?_
      refine AllReadyH.cons rfl (fun K hK => ?_) AllReadyH.nil
      go_simp
      go_at_call 27; (with_reducible refine (HRM.out w6.drew (HT.out _ (below_drew (Below.refl w6.heap.size w6))).2.2).mono ?_); rintro e v4 ⟨b4, A8, c8, rfl, C8⟩
      go_wp2_with fail
      have T4 : Below w6.heap.size w6 v4 := below_undrew13 b4
      clear hHeld
      refine hK.out _ _ (KS.out _ T4) (fun hHeld => ?_)
      clear hK K
      try simp only [Act.put, List.setIfInBounds_toArray, List.set_cons_zero, List.set_cons_succ]
      refine wpAnyH_ready (rs := [5]) (by kernel_rfl) (by simp) ?_
      refine AllReadyH.cons rfl (fun K hK => ?_) AllReadyH.nil
      go_simp
      go_at_call 26; (with_reducible refine (HSm.out v4 _ _ _ _ (HT.out _ T4).1 C8).mono ?_); rintro e v5 ⟨rfl, b5⟩
      go_wp2_with fail
      have T5 : Below w6.heap.size w6 v5 := T4.trans (b5.mono T4.size)
      clear hHeld
      refine hK.out _ _ (KS.out _ T5) (fun hHeld => ?_)
      clear hK K
      try simp only [Act.put, List.setIfInBounds_toArray, List.set_cons_zero, List.set_cons_succ]
      refine take_at (i := 6) (v := ?_) (some 54) rfl (by kernel_rfl) (by kernel_rfl) (by kernel_rfl) (fun _ _ _ h => h) (by kernel_rfl) (Or.inl ⟨by kernel_rfl, ?_⟩) (by assumption) ?_
      rotate_left
      · (intro w hSw; (try dsimp only at hSw); go_simp <;> with_reducible rfl)
      simp only [Act.put, List.setIfInBounds_toArray, List.set_cons_zero, List.set_cons_succ]
      refine take_at (i := 7) (v := ?_) (some 55) rfl (by kernel_rfl) (by kernel_rfl) (by kernel_rfl) (fun _ _ _ h => h) (by kernel_rfl) (Or.inl ⟨by kernel_rfl, ?_⟩) (by assumption) ?_
      rotate_left
      · (intro w hSw; (try dsimp only at hSw); go_simp <;> with_reducible rfl)
      simp only [Act.put, List.setIfInBounds_toArray, List.set_cons_zero, List.set_cons_succ]
      refine wpAnyH_ready (rs := [8]) (by kernel_rfl) (by simp) ?_
      refine AllReadyH.cons rfl (fun K hK => ?_) AllReadyH.nil
      go_simp
      go_at_call 28; (with_reducible refine (HCk.out _ _ v5 (HT.out _ T5).2.2 (HT.out _ T5).1).mono ?_); rintro e v8 ⟨rfl, b8⟩
      go_wp2_with fail
      have T8 : Below w6.heap.size w6 v8 := T5.trans (b8.mono T5.size)
      clear hHeld
      refine hK.out _ _ (KS.out _ T8) (fun hHeld => ?_)
      clear hK K
      try simp only [Act.put, List.setIfInBounds_toArray, List.set_cons_zero, List.set_cons_succ]
      refine take_at (i := 9) (v := ?_) (some 57) rfl (by kernel_rfl) (by kernel_rfl) (by kernel_rfl) (fun _ _ _ h => h) (by kernel_rfl) (Or.inl ⟨by kernel_rfl, ?_⟩) (by assumption) ?_
      rotate_left
      · (intro w hSw; (try dsimp only at hSw); go_simp <;> with_reducible rfl)
      simp only [Act.put, List.setIfInBounds_toArray, List.set_cons_zero, List.set_cons_succ]
      refine take_at (i := 10) (v := ?_) (some 58) rfl (by kernel_rfl) (by kernel_rfl) (by kernel_rfl) (fun _ _ _ h => h) (by kernel_rfl) (Or.inl ⟨by kernel_rfl, ?_⟩) (by assumption) ?_
      rotate_left
      · (intro w hSw; (try dsimp only at hSw); go_simp <;> with_reducible rfl)
      simp only [Act.put, List.setIfInBounds_toArray, List.set_cons_zero, List.set_cons_succ]
      refine take_at (i := 11) (v := ?_) (some 59) rfl (by kernel_rfl) (by kernel_rfl) (by kernel_rfl) (fun _ _ _ h => h) (by kernel_rfl) (Or.inl ⟨by kernel_rfl, ?_⟩) (by assumption) ?_
      rotate_left
      · (intro w hSw; (try dsimp only at hSw); go_simp <;> with_reducible rfl)
      simp only [Act.put, List.setIfInBounds_toArray, List.set_cons_zero, List.set_cons_succ]
      refine take_at (i := 12) (v := ?_) (some 60) rfl (by kernel_rfl) (by kernel_rfl) (by kernel_rfl) (fun _ _ _ h => h) (by kernel_rfl) (Or.inl ⟨by kernel_rfl, ?_⟩) (by assumption) ?_
      rotate_left
      · (intro w hSw; (try dsimp only at hSw); go_simp <;> with_reducible rfl)
      simp only [Act.put, List.setIfInBounds_toArray, List.set_cons_zero, List.set_cons_succ]
      refine take_at (i := 13) (v := ?_) (some 61) rfl (by kernel_rfl) (by kernel_rfl) (by kernel_rfl) (fun _ _ _ h => h) (by kernel_rfl) (Or.inl ⟨by kernel_rfl, ?_⟩) (by assumption) ?_
      rotate_left
      · (intro w hSw; (try dsimp only at hSw); go_simp <;> with_reducible rfl)
      simp only [Act.put, List.setIfInBounds_toArray, List.set_cons_zero, List.set_cons_succ]
      refine take_at (i := 14) (v := ?_) (some 62) rfl (by kernel_rfl) (by kernel_rfl) (by kernel_rfl) (fun _ _ _ h => h) (by kernel_rfl) (Or.inl ⟨by kernel_rfl, ?_⟩) (by assumption) ?_
      rotate_left
      · (intro w hSw; (try dsimp only at hSw); go_simp <;> with_reducible rfl)
      simp only [Act.put, List.setIfInBounds_toArray, List.set_cons_zero, List.set_cons_succ]
      refine take_at (i := 15) (v := ?_) (some 63) rfl (by kernel_rfl) (by kernel_rfl) (by kernel_rfl) (fun _ _ _ h => h) (by kernel_rfl) (Or.inl ⟨by kernel_rfl, ?_⟩) (by assumption) ?_
      rotate_left
      · (intro w hSw; (try dsimp only at hSw); go_simp <;> with_reducible rfl)
      simp only [Act.put, List.setIfInBounds_toArray, List.set_cons_zero, List.set_cons_succ]
      refine take_at (i := 16) (v := ?_) (some 64) rfl (by kernel_rfl) (by kernel_rfl) (by kernel_rfl) (fun _ _ _ h => h) (by kernel_rfl) (Or.inl ⟨by kernel_rfl, ?_⟩) (by assumption) ?_
      rotate_left
      · (intro w hSw; (try dsimp only at hSw); go_simp <;> with_reducible rfl)
      simp only [Act.put, List.setIfInBounds_toArray, List.set_cons_zero, List.set_cons_succ]
      refine take_at (i := 17) (v := ?_) (some 65) rfl (by kernel_rfl) (by kernel_rfl) (by kernel_rfl) (fun _ _ _ h => h) (by kernel_rfl) (Or.inl ⟨by kernel_rfl, ?_⟩) (by assumption) ?_
      rotate_left
      · (intro w hSw; (try dsimp only at hSw); go_simp <;> with_reducible rfl)
      simp only [Act.put, List.setIfInBounds_toArray, List.set_cons_zero, List.set_cons_succ]
      refine take_at (i := 18) (v := ?_) (some 66) rfl (by kernel_rfl) (by kernel_rfl) (by kernel_rfl) (fun _ _ _ h => h) (by kernel_rfl) (Or.inl ⟨by kernel_rfl, ?_⟩) (by assumption) ?_
      rotate_left
      · (intro w hSw; (try dsimp only at hSw); go_simp <;> with_reducible rfl)
      simp only [Act.put, List.setIfInBounds_toArray, List.set_cons_zero, List.set_cons_succ]
      refine take_at (i := 19) (v := ?_) (some 67) rfl (by kernel_rfl) (by kernel_rfl) (by kernel_rfl) (fun _ _ _ h => h) (by kernel_rfl) (Or.inl ⟨by kernel_rfl, ?_⟩) (by assumption) ?_
      rotate_left
      · (intro w hSw; (try dsimp only at hSw); go_simp <;> with_reducible rfl)
      simp only [Act.put, List.setIfInBounds_toArray, List.set_cons_zero, List.set_cons_succ]
      refine take_at (i := 20) (v := ?_) (some 68) rfl (by kernel_rfl) (by kernel_rfl) (by kernel_rfl) (fun _ _ _ h => h) (by kernel_rfl) (Or.inl ⟨by kernel_rfl, ?_⟩) (by assumption) ?_
      rotate_left
      · (intro w hSw; (try dsimp only at hSw); go_simp <;> with_reducible rfl)
      simp only [Act.put, List.setIfInBounds_toArray, List.set_cons_zero, List.set_cons_succ]
      refine take_at (i := 22) (v := ?_) (some 70) rfl (by kernel_rfl) (by kernel_rfl) (by kernel_rfl) (fun _ _ _ h => h) (by kernel_rfl) (Or.inl ⟨by kernel_rfl, ?_⟩) (by assumption) ?_
      rotate_left
      · (intro w hSw; (try dsimp only at hSw); go_simp <;> with_reducible rfl)
      simp only [Act.put, List.setIfInBounds_toArray, List.set_cons_zero, List.set_cons_succ]
      refine wpAnyH_ready (rs := [21]) (by kernel_rfl) (by simp) ?_
      refine AllReadyH.cons rfl (fun K hK => ?_) AllReadyH.nil
      go_simp
      go_at_call 30; (with_reducible refine (HBk.out _ _ v8 (HT.out _ T8).2.1).mono ?_); rintro e v21 ⟨b21, A9, c9, rfl, F9⟩
      go_wp2_with fail
      have T21 : Below w6.heap.size w6 v21 := T8.trans (b21.mono T8.size)
      clear hHeld
      refine hK.out _ _ (KS.out _ T21) (fun hHeld => ?_)
      clear hK K
      try simp only [Act.put, List.setIfInBounds_toArray, List.set_cons_zero, List.set_cons_succ]
      refine wpAnyH_ready (rs := [23]) (by kernel_rfl) (by simp) ?_
      refine AllReadyH.cons rfl (fun K hK => ?_) AllReadyH.nil
      go_simp
      go_at_call 29; (with_reducible refine (HRS.out _ _ v21 (HT.out _ T21).2.2 F9).mono ?_); rintro e v23 ⟨rfl, b23⟩
      go_wp2_with fail
      have T23 : Below w6.heap.size w6 v23 := T21.trans (b23.mono T21.size)
      clear hHeld
      refine hK.out _ _ (KS.out _ T23) (fun hHeld => ?_)
      clear hK K
      try simp only [Act.put, List.setIfInBounds_toArray, List.set_cons_zero, List.set_cons_succ]
      refine take_at (i := 24) (v := ?_) (some 72) rfl (by kernel_rfl) (by kernel_rfl) (by kernel_rfl) (fun _ _ _ h => h) (by kernel_rfl) (Or.inl ⟨by kernel_rfl, ?_⟩) (by assumption) ?_
      rotate_left
      · (intro w hSw; (try dsimp only at hSw); go_simp <;> with_reducible rfl)
      simp only [Act.put, List.setIfInBounds_toArray, List.set_cons_zero, List.set_cons_succ]
      refine take_at (i := 25) (v := ?_) (some 6) rfl (by kernel_rfl) (by kernel_rfl) (by kernel_rfl) (fun _ _ _ h => h) (by kernel_rfl) (Or.inl ⟨by kernel_rfl, ?_⟩) (by assumption) ?_
      rotate_left
      · (intro w hSw; (try dsimp only at hSw); go_simp <;> with_reducible rfl)
      simp only [Act.put, List.setIfInBounds_toArray, List.set_cons_zero, List.set_cons_succ]
      refine wpAnyH_done (by kernel_rfl) ?_ _
      skip
      have R0 := (HT.out _ T23).2.2
      clear hHeld
      go_wp2_with fail
      go_ret
      exact ⟨rfl, R0⟩
set_option maxRecDepth 100000 in
theorem law_ForwardMatchesReference {H : Type} {enc : TypeId × Value → H} {W : World} {base : Nat} {v0 v1 v2 : Value} {d0 d1 d2 : DataW H} {p0 p1 p2 : List MemPlace}
    (o0 : Value.okWide Tryz.prog W .any base 4 v0) (h0 : DataW.Trod enc Tryz.prog W 0 (fun _ => true) true 4 v0 d0 p0) (_s0 : Small Tryz.prog 4 d0)
    (o1 : Value.okWide Tryz.prog W .any base 22 v1) (h1 : DataW.Trod enc Tryz.prog W 0 (fun _ => true) true 22 v1 d1 p1) (_s1 : Small Tryz.prog 22 d1)
    (o2 : Value.okWide Tryz.prog W .any base 40 v2) (h2 : DataW.Trod enc Tryz.prog W 0 (fun _ => true) true 40 v2 d2 p2) (s2 : Small Tryz.prog 40 d2) (hL : laidMetH Tryz.prog laidL W) :
    Calls Tryz.prog 5 #[v0, v1, v2] W fun e w' => e = .returned (.bool true) ∧ Below W.heap.size W w' := by
  obtain ⟨b, rfl⟩ := okWide_bool Tryz.underlying4 o0
  obtain ⟨q, rfl, _, _, wq⟩ := open_int Tryz.underlying22 o1 h1
  obtain ⟨l, A, c, rfl, hl⟩ := open_skips o2 h2 s2
  rw [uv_of13 (wf_u32 wq)]
  exact fmr_law b _ l A c W hl (handle_of_laid hL)
end Go.Proofs.YtmohbkniekeafaaGreatDoor


