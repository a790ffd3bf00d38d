/- Layer 16: bytesOf, Make (of the program). They write nothing that was there. -/
/- Layer 16: Make (of the program). It writes nothing that was there. -/
/- Layer 16: skipOf (of the program). It writes nothing that was there. -/
import Derived.Test.YtmohbkniekeafaaGreatDoorTFA
import Derived.Test.YtmohbkniekeafaaGreatDoorTSKA
import Derived.Test.YtmohbkniekeafaaGreatDoorTIN
import Derived.Test.YtmohbkniekeafaaGreatDoorTWireF
import Derived.Test.YtmohbkniekeafaaGreatDoorTNF
import Derived.Laws.StructEq
import Derived.BigGuard
import Derived.Deep.RegionHeld3
import Derived.Deep.Cut
import Derived.Test.YtmohbkniekeafaaGreatDoorTDJ
import Derived.Test.YtmohbkniekeafaaGreatDoorTDK
import Derived.Test.YtmohbkniekeafaaGreatDoorTDT
import Derived.Test.YtmohbkniekeafaaGreatDoorTDP
import Derived.Test.YtmohbkniekeafaaGreatDoorTW
import Derived.Laws.Tables
import Derived.Test.YtmohbkniekeafaaGreatDoorTCA
import Derived.Test.YtmohbkniekeafaaGreatDoorTDataF
import Derived.Test.YtmohbkniekeafaaGreatDoorTA
import Derived.Laws.BytesArg
import Derived.Test.YtmohbkniekeafaaGreatDoorTTA
import Derived.Test.YtmohbkniekeafaaGreatDoorTSKJ
import Derived.Test.YtmohbkniekeafaaGreatDoorTEL








namespace Go.Proofs.YtmohbkniekeafaaGreatDoor
open Go.RowKit

set_option linter.unusedSimpArgs false
/-- the bytes of a skip -/
def fsB (inter : Bool) (s : Fs) : List UInt8 := if inter then puts 2 [u32of s.st.toNat, u32of (unN s.un).toNat] ++ puts 4 [s.sq] else puts 2 [u32of s.st.toNat, s.sq]
theorem fsB_len (inter : Bool) (s : Fs) : (fsB inter s).length = unitN inter := by unfold fsB unitN; cases inter <;> simp [puts_len]
theorem fput_own (k : Nat) (hk : k = 1 ∨ k = 2 ∨ k = 4) (A : Option Addr) (c : Nat) (l : List UInt32) (hl : l.length ≤ 100000) (w : World) (h : Lies w w.heap.size A (l.map uv)) (m : Nat) (hm : l.length * k = m) :
    Calls Tryz.prog 68 #[.int .i64 (k : Int), .slice A l.length c] w fun e w' => ∃ A' c', e = .returned (.slice A' m c') ∧ w'.ownsRow w.heap.size 5 1 (.slice A' m c') m ((puts k l).map bv) ∧ Below w.heap.size w w' := by
  subst hm
  exact put_any k hk A c l w h (by omega)
theorem isB_own {w : World} {base n c : Nat} {A : Option Addr} {l : List UInt8} (h : w.ownsRow base 5 1 (.slice A n c) n (l.map bv)) : IsB w w.heap.size (.slice A n c) l := by
  have hc := own_cap h
  have hl : l.length = n := by have h1 := hc.1; rw [List.length_map] at h1; exact h1
  exact ⟨A, c, by rw [hl], Lies.own h, by rw [hl]; exact hc.2.1, hc.2.2⟩
theorem isB_on {w w' : World} {v : Value} {l : List UInt8} (h : IsB w w.heap.size v l) (hb : Below w.heap.size w w') : IsB w' w'.heap.size v l := by
  obtain ⟨A, c, h1, h2, h3, h4⟩ := h
  exact ⟨A, c, h1, (h2.below hb).more hb.size, h3, h4⟩
theorem fparts2 {w : World} (v1 v2 : Value) (p1 p2 : List UInt8) (h1 : IsB w w.heap.size v1 p1) (h2 : IsB w w.heap.size v2 p2) :
    Parts (w.alloc (.cells #[v1, v2] 41)) (w.alloc (.cells #[v1, v2] 41)).heap.size (some ⟨w.heap.size, 0, none⟩) [v1, v2] [p1, p2] := by
  have hb : Below w.heap.size w (w.alloc (.cells #[v1, v2] 41)) := (Below.refl _ w).alloc (Nat.le_refl _) _
  refine ⟨(Lies.newN w [v1, v2] _).more (by simp), rfl, fun i p hp => ?_⟩
  match i, hp with
  | 0, hp => simp only [List.getElem?_cons_zero, Option.some.injEq] at hp; subst hp; exact ⟨_, rfl, isB_on h1 hb⟩
  | 1, hp => simp only [List.getElem?_cons_succ, List.getElem?_cons_zero, Option.some.injEq] at hp; subst hp; exact ⟨_, rfl, isB_on h2 hb⟩
  | i + 2, hp => simp at hp
theorem fjoin2_any (v1 v2 : Value) (p1 p2 : List UInt8) (w : World) (h1 : IsB w w.heap.size v1 p1) (h2 : IsB w w.heap.size v2 p2) (n : Nat) (hn : p1.length + p2.length = n) (hm : n ≤ 100000) :
    Calls Tryz.prog 70 #[.slice (some ⟨w.heap.size, 0, none⟩) 2 2] (w.alloc (.cells #[v1, v2] 41)) fun e w' =>
      ∃ A' c', e = .returned (.slice A' n c') ∧ w'.ownsRow w.heap.size 5 1 (.slice A' n c') n ((p1 ++ p2).map bv) ∧ Below w.heap.size w w' := by
  have hP := fparts2 _ _ _ _ h1 h2
  have ht : tot [p1, p2] = n := by rw [← hn]; simp [tot]
  refine (join_any _ 2 _ _ _ hP (by simp [maxLen]) (by rw [ht]; omega)).mono ?_
  rintro e w' ⟨A', c', rfl, hown, hb⟩
  rw [ht] at hown ⊢
  have e3 : [p1, p2].flatten = p1 ++ p2 := by simp
  rw [e3] at hown
  exact ⟨A', c', rfl, own_base hown (by simp), ((Below.refl _ w).alloc (Nat.le_refl _) _).trans (hb.mono (by simp))⟩
theorem u16_u32f (a : UInt16) : Value.int .u32 (a.toNat : Int) = uv (u32of a.toNat) := by
  have := a.toNat_lt
  rw [uv, u32of_toNat (by omega)]
theorem u16_u32w (a : UInt16) : Value.int .u32 (IntKind.u32.wrap (a.toNat : Int)) = uv (u32of a.toNat) := by
  have := a.toNat_lt
  rw [IntKind.wrap_u32, show (a.toNat : Int) % 4294967296 = (a.toNat : Int) by omega]
  exact u16_u32f a
set_option maxRecDepth 100000 in
set_option maxHeartbeats 4000000 in
theorem bytesOf_f (s : Fs) (w : World) : Calls Tryz.prog 69 #[.bool false, fsV s] w fun e w' => ∃ A' c', e = .returned (.slice A' 4 c') ∧ w'.ownsRow w.heap.size 5 1 (.slice A' 4 c') 4 ((fsB false s).map bv) ∧ Below w.heap.size w w' := by
  have b0 : Below w.heap.size w (w.alloc (.cells (fsCells s) 70)) := (Below.refl _ w).alloc (Nat.le_refl _) _
  have x0 := Whole.new w 70 (fsCells s)
  have HF : Hid (fsB false s = puts 2 [u32of s.st.toNat, s.sq]) := Lib.hid rfl
  generalize fsB false s = r at *
  obtain ⟨st, un, sq⟩ := s
  simp only [fsV, fsCells] at *
  have hst := st.toNat_lt
  have hm : (st.toNat : Int) % 4294967296 = (st.toNat : Int) := by omega
  have HE := Lib.hid (u16_u32f st)
  have hs0 : w.heap.size + 1 = (w.alloc (.cells #[hv st, .bool un, uv sq] 70)).heap.size := by simp
  go_enter Tryz.func69, Tryz.ntmps69
  go_upto_region 1 with fail
  generalize w.alloc (.cells #[hv st, .bool un, uv sq] 70) = wa at *
  obtain ⟨q0, q1, q2⟩ := wh3 x0
  have hP : Calls Tryz.prog 68 #[.int .i64 2, .slice (some ⟨wa.heap.size, 0, none⟩) 2 2] (wa.alloc (.cells #[uv (u32of st.toNat), uv sq] 22)) fun e w' => ∃ A' c', e = .returned (.slice A' 4 c') ∧ w'.ownsRow (wa.alloc (.cells #[uv (u32of st.toNat), uv sq] 22)).heap.size 5 1 (.slice A' 4 c') 4 ((puts 2 [u32of st.toNat, sq]).map bv) ∧ Below (wa.alloc (.cells #[uv (u32of st.toNat), uv sq] 22)).heap.size (wa.alloc (.cells #[uv (u32of st.toNat), uv sq] 22)) w' := fput_own 2 (.inr (.inl rfl)) _ 2 [u32of st.toNat, sq] (by simp) _ ((lies_new wa [u32of st.toNat, sq]).more (by simp)) 4 rfl
  have hs1 : w.heap.size ≤ (wa.alloc (.cells #[uv (u32of st.toNat), uv sq] 22)).heap.size := by simp; omega
  have b1 := b0.alloc b0.size (.cells #[uv (u32of st.toNat), uv sq] 22)
  rw [← HE.out] at hP b1 hs1
  clear hs0
  go_wp2_with fail
  refine hP.mono ?_
  rintro e w2 ⟨A', c', rfl, ho, hb⟩
  go_wp2_with fail
  go_ret
  exact ⟨A', c', rfl, by rw [HF.out]; exact own_base ho hs1, b1.trans (hb.mono hs1)⟩
set_option maxRecDepth 100000 in
set_option maxHeartbeats 16000000 in
theorem bytesOf_t (s : Fs) (w : World) : Calls Tryz.prog 69 #[.bool true, fsV s] w fun e w' => ∃ A' c', e = .returned (.slice A' 8 c') ∧ w'.ownsRow w.heap.size 5 1 (.slice A' 8 c') 8 ((fsB true s).map bv) ∧ Below w.heap.size w w' := by
  have b0 : Below w.heap.size w (w.alloc (.cells (fsCells s) 70)) := (Below.refl _ w).alloc (Nat.le_refl _) _
  have x0 := Whole.new w 70 (fsCells s)
  have HF : Hid (fsB true s = puts 2 [u32of s.st.toNat, u32of (unN s.un).toNat] ++ puts 4 [s.sq]) := Lib.hid rfl
  have hPl := place_any s
  generalize fsB true s = r at *
  obtain ⟨st, un, sq⟩ := s
  simp only [fsV, fsCells] at *
  generalize unN un = pu at *
  go_enter Tryz.func69, Tryz.ntmps69
  go_upto_region 1 with fail
  have hsA : w.heap.size + 1 ≤ (w.alloc (.cells #[hv st, .bool un, uv sq] 70)).heap.size := by simp
  generalize w.alloc (.cells #[hv st, .bool un, uv sq] 70) = wa at *
  obtain ⟨q0, q1, q2⟩ := wh3 x0
  have hP0 := hPl wa
  go_wp2_with fail
  refine hP0.mono ?_
  rintro e w1 ⟨rfl, b1⟩
  have x1 := x0.below b1 (by omega)
  have B1 := b0.trans (b1.mono (by omega))
  clear q0 q1 q2 x0 hPl hP0 b0
  go_upto_region 4 with fail
  have y2 := Whole.new w1 140 #[hv st, hv pu]
  have x2 := x1.alloc (.cells #[hv st, hv pu] 140)
  have B2 := B1.alloc B1.size (.cells #[hv st, hv pu] 140)
  have hs2 : w.heap.size + 1 ≤ (w1.alloc (.cells #[hv st, hv pu] 140)).heap.size := by simp; have := b1.size; omega
  generalize w1.alloc (.cells #[hv st, hv pu] 140) = w2 at *
  generalize w1.heap.size = g5 at *
  clear x1 B1 b1
  have KS : Hid (∀ V, Below w2.heap.size w2 V → (V.cell? ⟨w.heap.size, 2, none⟩ = some (uv sq)) ∧ V.cell? ⟨g5, 0, none⟩ = some (hv st) ∧ V.cell? ⟨g5, 1, none⟩ = some (hv pu)) := Lib.hid (fun V hV => ⟨(wh3 (x2.below hV x2.lt)).2.2, wh2 (y2.below hV y2.lt)⟩)
  have HE1 := Lib.hid (And.intro (u16_u32f st) (u16_u32f pu))
  have HE2 := Lib.hid (And.intro (u16_u32w st) (u16_u32w pu))
  have hst := st.toNat_lt
  have hpu := pu.toNat_lt
  clear x2 y2
  refine wp_region_held_drew (S := (fun V => (V.cell? ⟨w.heap.size, 2, none⟩ = some (uv sq)) ∧ V.cell? ⟨g5, 0, none⟩ = some (hv st) ∧ V.cell? ⟨g5, 1, none⟩ = some (hv pu))) (by kernel_rfl) (KS.out _ (below_drew (Below.refl _ _))) (fun hHeld => ?_)
  refine take_at (i := 0) (v := ?_) (some 17) rfl (by kernel_rfl) (by kernel_rfl) (by kernel_rfl) (fun _ _ _ h => h) (by kernel_rfl) (Or.inl ⟨by kernel_rfl, ?_⟩) (by assumption) ?_
  rotate_left
  · (intro w hSw; (try dsimp only at hSw); go_simp <;> with_reducible rfl)
  simp only [Act.put, List.setIfInBounds_toArray, List.set_cons_zero, List.set_cons_succ]
  refine take_at (i := 1) (v := ?_) (some 18) rfl (by kernel_rfl) (by kernel_rfl) (by kernel_rfl) (fun _ _ _ h => h) (by kernel_rfl) (Or.inl ⟨by kernel_rfl, ?_⟩) (by assumption) ?_
  rotate_left
  · (intro w hSw; (try dsimp only at hSw); go_simp <;> with_reducible rfl)
  simp only [Act.put, List.setIfInBounds_toArray, List.set_cons_zero, List.set_cons_succ]
  refine take_at (i := 2) (v := ?_) (some 19) rfl (by kernel_rfl) (by kernel_rfl) (by kernel_rfl) (fun _ _ _ h => h) (by kernel_rfl) (Or.inl ⟨by kernel_rfl, ?_⟩) (by assumption) ?_
  rotate_left
  · (intro w hSw; (try dsimp only at hSw); go_simp <;> with_reducible rfl)
  simp only [Act.put, List.setIfInBounds_toArray, List.set_cons_zero, List.set_cons_succ]
  refine take_at (i := 3) (v := ?_) (some 20) rfl (by kernel_rfl) (by kernel_rfl) (by kernel_rfl) (fun _ _ _ h => h) (by kernel_rfl) (Or.inl ⟨by kernel_rfl, ?_⟩) (by assumption) ?_
  rotate_left
  · (intro w hSw; (try dsimp only at hSw); go_simp <;> with_reducible rfl)
  simp only [Act.put, List.setIfInBounds_toArray, List.set_cons_zero, List.set_cons_succ]
  refine take_at (i := 4) (v := ?_) (some 21) rfl (by kernel_rfl) (by kernel_rfl) (by kernel_rfl) (fun _ _ _ h => h) (by kernel_rfl) (Or.inl ⟨by kernel_rfl, ?_⟩) (by assumption) ?_
  rotate_left
  · (intro w hSw; (try dsimp only at hSw); go_simp <;> with_reducible rfl)
  simp only [Act.put, List.setIfInBounds_toArray, List.set_cons_zero, List.set_cons_succ]
  refine take_at (i := 5) (v := ?_) (some 22) rfl (by kernel_rfl) (by kernel_rfl) (by kernel_rfl) (fun _ _ _ h => h) (by kernel_rfl) (Or.inl ⟨by kernel_rfl, ?_⟩) (by assumption) ?_
  rotate_left
  · (intro w hSw; (try dsimp only at hSw); go_simp <;> with_reducible rfl)
  simp only [Act.put, List.setIfInBounds_toArray, List.set_cons_zero, List.set_cons_succ]
  refine take_at (i := 8) (v := ?_) (some 25) rfl (by kernel_rfl) (by kernel_rfl) (by kernel_rfl) (fun _ _ _ h => h) (by kernel_rfl) (Or.inl ⟨by kernel_rfl, ?_⟩) (by assumption) ?_
  rotate_left
  · (intro w hSw; (try dsimp only at hSw); go_simp <;> with_reducible rfl)
  simp only [Act.put, List.setIfInBounds_toArray, List.set_cons_zero, List.set_cons_succ]
  refine take_at (i := 9) (v := ?_) (some 26) rfl (by kernel_rfl) (by kernel_rfl) (by kernel_rfl) (fun _ _ _ h => h) (by kernel_rfl) (Or.inl ⟨by kernel_rfl, ?_⟩) (by assumption) ?_
  rotate_left
  · (intro w hSw; (try dsimp only at hSw); go_simp <;> with_reducible rfl)
  simp only [Act.put, List.setIfInBounds_toArray, List.set_cons_zero, List.set_cons_succ]
  refine wpAnyH_ready (rs := [6, 10]) (by kernel_rfl) (by simp) ?_
  refine AllReadyH.cons rfl (fun K hK => ?_) (AllReadyH.cons rfl (fun K hK => ?_) AllReadyH.nil)
  · go_simp
    (try rw [HE2.out.1, HE2.out.2])
    (try rw [HE1.out.1, HE1.out.2])
    have R6 : Below w2.heap.size w2 (w2.alloc (.cells #[uv (u32of st.toNat), uv (u32of pu.toNat)] 22)).drew := below_drew ((Below.refl _ _).alloc (Nat.le_refl _) _)
    obtain ⟨d6, hd6⟩ : ∃ d6, d6 = w2.heap.size := ⟨_, rfl⟩
    have L6 : Lies (w2.alloc (.cells #[uv (u32of st.toNat), uv (u32of pu.toNat)] 22)).drew (w2.alloc (.cells #[uv (u32of st.toNat), uv (u32of pu.toNat)] 22)).drew.heap.size (some ⟨d6, 0, none⟩) ([u32of st.toNat, u32of pu.toNat].map uv) := by rw [hd6]; exact ((lies_new w2 [u32of st.toNat, u32of pu.toNat]).below (below_drew (Below.refl _ _))).more (by show _ ≤ (w2.alloc _).heap.size; simp)
    rw [← hd6]
    clear hd6
    generalize (w2.alloc (.cells #[uv (u32of st.toNat), uv (u32of pu.toNat)] 22)).drew = v6 at *
    clear hHeld
    refine hK.out _ _ (KS.out _ R6) (fun hHeld => ?_)
    clear hK K
    try simp only [Act.put, List.setIfInBounds_toArray, List.set_cons_zero, List.set_cons_succ]
    refine wpAnyH_ready (rs := [7, 10]) (by kernel_rfl) (by simp) ?_
    refine AllReadyH.cons rfl (fun K hK => ?_) (AllReadyH.cons rfl (fun K hK => ?_) AllReadyH.nil)
    · have hP7 : Calls Tryz.prog 68 #[.int .i64 2, .slice (some ⟨d6, 0, none⟩) 2 2] v6 fun e w' => ∃ A' c', e = .returned (.slice A' 4 c') ∧ w'.ownsRow v6.heap.size 5 1 (.slice A' 4 c') 4 ((puts 2 [u32of st.toNat, u32of pu.toNat]).map bv) ∧ Below v6.heap.size v6 w' := fput_own 2 (.inr (.inl rfl)) _ 2 [u32of st.toNat, u32of pu.toNat] (by simp) v6 L6 4 rfl
      go_simp
      go_at_call 68; (with_reducible refine hP7.mono ?_); rintro e v7 ⟨A7, c7, rfl, o7, b7⟩
      go_wp2_with fail
      have R7 : Below w2.heap.size w2 v7 := R6.trans (b7.mono R6.size)
      have I7 := isB_own o7
      clear hP7
      clear hHeld
      refine hK.out _ _ (KS.out _ R7) (fun hHeld => ?_)
      clear hK K
      try simp only [Act.put, List.setIfInBounds_toArray, List.set_cons_zero, List.set_cons_succ]
      refine wpAnyH_ready (rs := [10]) (by kernel_rfl) (by simp) ?_
      refine AllReadyH.cons rfl (fun K hK => ?_) AllReadyH.nil
      go_simp
      have R10 : Below w2.heap.size w2 (v7.alloc (.cells #[uv sq] 22)) := R7.alloc R7.size _
      obtain ⟨d10, hd10⟩ : ∃ d10, d10 = v7.heap.size := ⟨_, rfl⟩
      have L10 : Lies (v7.alloc (.cells #[uv sq] 22)) (v7.alloc (.cells #[uv sq] 22)).heap.size (some ⟨d10, 0, none⟩) ([sq].map uv) := by rw [hd10]; exact ((lies_new v7 [sq]).below (Below.refl _ _)).more (by show _ ≤ (v7.alloc _).heap.size; simp)
      have I7 := isB_on I7 ((Below.refl v7.heap.size v7).alloc (Nat.le_refl _) (.cells #[uv sq] 22))
      rw [← hd10]
      clear hd10
      generalize (v7.alloc (.cells #[uv sq] 22)) = v10 at *
      clear hHeld
      refine hK.out _ _ (KS.out _ R10) (fun hHeld => ?_)
      clear hK K
      try simp only [Act.put, List.setIfInBounds_toArray, List.set_cons_zero, List.set_cons_succ]
      refine wpAnyH_ready (rs := [11]) (by kernel_rfl) (by simp) ?_
      refine AllReadyH.cons rfl (fun K hK => ?_) AllReadyH.nil
      have hP11 : Calls Tryz.prog 68 #[.int .i64 4, .slice (some ⟨d10, 0, none⟩) 1 1] v10 fun e w' => ∃ A' c', e = .returned (.slice A' 4 c') ∧ w'.ownsRow v10.heap.size 5 1 (.slice A' 4 c') 4 ((puts 4 [sq]).map bv) ∧ Below v10.heap.size v10 w' := fput_own 4 (.inr (.inr rfl)) _ 1 [sq] (by simp) v10 L10 4 rfl
      go_simp
      go_at_call 68; (with_reducible refine hP11.mono ?_); rintro e v11 ⟨A11, c11, rfl, o11, b11⟩
      go_wp2_with fail
      have R11 : Below w2.heap.size w2 v11 := R10.trans (b11.mono R10.size)
      have I11 := isB_own o11
      have I7 := isB_on I7 b11
      clear hP11
      clear hHeld
      refine hK.out _ _ (KS.out _ R11) (fun hHeld => ?_)
      clear hK K
      try simp only [Act.put, List.setIfInBounds_toArray, List.set_cons_zero, List.set_cons_succ]
      refine wpAnyH_ready (rs := [12]) (by kernel_rfl) (by simp) ?_
      refine AllReadyH.cons rfl (fun K hK => ?_) AllReadyH.nil
      go_simp
      have hJ := fjoin2_any (.slice A7 4 c7) (.slice A11 4 c11) (puts 2 [u32of st.toNat, u32of pu.toNat]) (puts 4 [sq]) v11 I7 I11 8 (by simp [puts_len]) (by omega)
      have R12 := R11.alloc R11.size (.cells #[.slice A7 4 c7, .slice A11 4 c11] 41)
      clear hHeld
      refine hK.out _ _ (KS.out _ R12) (fun hHeld => ?_)
      clear hK K
      try simp only [Act.put, List.setIfInBounds_toArray, List.set_cons_zero, List.set_cons_succ]
      refine wpAnyH_ready (rs := [13]) (by kernel_rfl) (by simp) ?_
      refine AllReadyH.cons rfl (fun K hK => ?_) AllReadyH.nil
      go_simp
      go_at_call 70; (with_reducible refine hJ.mono ?_); rintro e v13 ⟨A13, c13, rfl, o13, b13⟩
      go_wp2_with fail
      have R13 : Below w2.heap.size w2 v13 := R11.trans (b13.mono R11.size)
      have O13 := own_base o13 (Nat.le_trans (show w.heap.size ≤ w2.heap.size by omega) R11.size)
      clear hHeld
      refine hK.out _ _ (KS.out _ R13) (fun hHeld => ?_)
      clear hK K
      try simp only [Act.put, List.setIfInBounds_toArray, List.set_cons_zero, List.set_cons_succ]
      refine take_at (i := 14) (v := ?_) (some 4) rfl (by kernel_rfl) (by kernel_rfl) (by kernel_rfl) (fun _ _ _ h => h) (by kernel_rfl) (Or.inl ⟨by kernel_rfl, ?_⟩) (by assumption) ?_
      rotate_left
      · (intro w hSw; (try dsimp only at hSw); go_simp <;> with_reducible rfl)
      simp only [Act.put, List.setIfInBounds_toArray, List.set_cons_zero, List.set_cons_succ]
      refine wpAnyH_done (by kernel_rfl) ?_ _
      go_wp2_with fail
      go_ret
      exact ⟨A13, c13, rfl, by rw [HF.out]; exact O13, B2.trans (R13.mono (by omega))⟩
    · go_simp
      have R10 : Below w2.heap.size w2 (v6.alloc (.cells #[uv sq] 22)) := R6.alloc R6.size _
      obtain ⟨d10, hd10⟩ : ∃ d10, d10 = v6.heap.size := ⟨_, rfl⟩
      have L10 : Lies (v6.alloc (.cells #[uv sq] 22)) (v6.alloc (.cells #[uv sq] 22)).heap.size (some ⟨d10, 0, none⟩) ([sq].map uv) := by rw [hd10]; exact ((lies_new v6 [sq]).below (Below.refl _ _)).more (by show _ ≤ (v6.alloc _).heap.size; simp)
      have L6 : Lies (v6.alloc (.cells #[uv sq] 22)) (v6.alloc (.cells #[uv sq] 22)).heap.size (some ⟨d6, 0, none⟩) ([u32of st.toNat, u32of pu.toNat].map uv) := (L6.below ((Below.refl v6.heap.size v6).alloc (Nat.le_refl _) (.cells #[uv sq] 22))).more (by simp)
      rw [← hd10]
      clear hd10
      generalize (v6.alloc (.cells #[uv sq] 22)) = v10 at *
      clear hHeld
      refine hK.out _ _ (KS.out _ R10) (fun hHeld => ?_)
      clear hK K
      try simp only [Act.put, List.setIfInBounds_toArray, List.set_cons_zero, List.set_cons_succ]
      refine wpAnyH_ready (rs := [7]) (by kernel_rfl) (by simp) ?_
      refine AllReadyH.cons rfl (fun K hK => ?_) AllReadyH.nil
      have hP7 : Calls Tryz.prog 68 #[.int .i64 2, .slice (some ⟨d6, 0, none⟩) 2 2] v10 fun e w' => ∃ A' c', e = .returned (.slice A' 4 c') ∧ w'.ownsRow v10.heap.size 5 1 (.slice A' 4 c') 4 ((puts 2 [u32of st.toNat, u32of pu.toNat]).map bv) ∧ Below v10.heap.size v10 w' := fput_own 2 (.inr (.inl rfl)) _ 2 [u32of st.toNat, u32of pu.toNat] (by simp) v10 L6 4 rfl
      go_simp
      go_at_call 68; (with_reducible refine hP7.mono ?_); rintro e v7 ⟨A7, c7, rfl, o7, b7⟩
      go_wp2_with fail
      have R7 : Below w2.heap.size w2 v7 := R10.trans (b7.mono R10.size)
      have I7 := isB_own o7
      have L10 := (L10.below b7).more b7.size
      clear hP7
      clear hHeld
      refine hK.out _ _ (KS.out _ R7) (fun hHeld => ?_)
      clear hK K
      try simp only [Act.put, List.setIfInBounds_toArray, List.set_cons_zero, List.set_cons_succ]
      refine wpAnyH_ready (rs := [11]) (by kernel_rfl) (by simp) ?_
      refine AllReadyH.cons rfl (fun K hK => ?_) AllReadyH.nil
      have hP11 : Calls Tryz.prog 68 #[.int .i64 4, .slice (some ⟨d10, 0, none⟩) 1 1] v7 fun e w' => ∃ A' c', e = .returned (.slice A' 4 c') ∧ w'.ownsRow v7.heap.size 5 1 (.slice A' 4 c') 4 ((puts 4 [sq]).map bv) ∧ Below v7.heap.size v7 w' := fput_own 4 (.inr (.inr rfl)) _ 1 [sq] (by simp) v7 L10 4 rfl
      go_simp
      go_at_call 68; (with_reducible refine hP11.mono ?_); rintro e v11 ⟨A11, c11, rfl, o11, b11⟩
      go_wp2_with fail
      have R11 : Below w2.heap.size w2 v11 := R7.trans (b11.mono R7.size)
      have I11 := isB_own o11
      have I7 := isB_on I7 b11
      clear hP11
      clear hHeld
      refine hK.out _ _ (KS.out _ R11) (fun hHeld => ?_)
      clear hK K
      try simp only [Act.put, List.setIfInBounds_toArray, List.set_cons_zero, List.set_cons_succ]
      refine wpAnyH_ready (rs := [12]) (by kernel_rfl) (by simp) ?_
      refine AllReadyH.cons rfl (fun K hK => ?_) AllReadyH.nil
      go_simp
      have hJ := fjoin2_any (.slice A7 4 c7) (.slice A11 4 c11) (puts 2 [u32of st.toNat, u32of pu.toNat]) (puts 4 [sq]) v11 I7 I11 8 (by simp [puts_len]) (by omega)
      have R12 := R11.alloc R11.size (.cells #[.slice A7 4 c7, .slice A11 4 c11] 41)
      clear hHeld
      refine hK.out _ _ (KS.out _ R12) (fun hHeld => ?_)
      clear hK K
      try simp only [Act.put, List.setIfInBounds_toArray, List.set_cons_zero, List.set_cons_succ]
      refine wpAnyH_ready (rs := [13]) (by kernel_rfl) (by simp) ?_
      refine AllReadyH.cons rfl (fun K hK => ?_) AllReadyH.nil
      go_simp
      go_at_call 70; (with_reducible refine hJ.mono ?_); rintro e v13 ⟨A13, c13, rfl, o13, b13⟩
      go_wp2_with fail
      have R13 : Below w2.heap.size w2 v13 := R11.trans (b13.mono R11.size)
      have O13 := own_base o13 (Nat.le_trans (show w.heap.size ≤ w2.heap.size by omega) R11.size)
      clear hHeld
      refine hK.out _ _ (KS.out _ R13) (fun hHeld => ?_)
      clear hK K
      try simp only [Act.put, List.setIfInBounds_toArray, List.set_cons_zero, List.set_cons_succ]
      refine take_at (i := 14) (v := ?_) (some 4) rfl (by kernel_rfl) (by kernel_rfl) (by kernel_rfl) (fun _ _ _ h => h) (by kernel_rfl) (Or.inl ⟨by kernel_rfl, ?_⟩) (by assumption) ?_
      rotate_left
      · (intro w hSw; (try dsimp only at hSw); go_simp <;> with_reducible rfl)
      simp only [Act.put, List.setIfInBounds_toArray, List.set_cons_zero, List.set_cons_succ]
      refine wpAnyH_done (by kernel_rfl) ?_ _
      go_wp2_with fail
      go_ret
      exact ⟨A13, c13, rfl, by rw [HF.out]; exact O13, B2.trans (R13.mono (by omega))⟩
  · go_simp
    have R10 : Below w2.heap.size w2 (w2.alloc (.cells #[uv sq] 22)).drew := below_drew ((Below.refl _ _).alloc (Nat.le_refl _) _)
    obtain ⟨d10, hd10⟩ : ∃ d10, d10 = w2.heap.size := ⟨_, rfl⟩
    have L10 : Lies (w2.alloc (.cells #[uv sq] 22)).drew (w2.alloc (.cells #[uv sq] 22)).drew.heap.size (some ⟨d10, 0, none⟩) ([sq].map uv) := by rw [hd10]; exact ((lies_new w2 [sq]).below (below_drew (Below.refl _ _))).more (by show _ ≤ (w2.alloc _).heap.size; simp)
    rw [← hd10]
    clear hd10
    generalize (w2.alloc (.cells #[uv sq] 22)).drew = v10 at *
    clear hHeld
    refine hK.out _ _ (KS.out _ R10) (fun hHeld => ?_)
    clear hK K
    try simp only [Act.put, List.setIfInBounds_toArray, List.set_cons_zero, List.set_cons_succ]
    refine wpAnyH_ready (rs := [6]) (by kernel_rfl) (by simp) ?_
    refine AllReadyH.cons rfl (fun K hK => ?_) AllReadyH.nil
    go_simp
    (try rw [HE2.out.1, HE2.out.2])
    (try rw [HE1.out.1, HE1.out.2])
    have R6 : Below w2.heap.size w2 (v10.alloc (.cells #[uv (u32of st.toNat), uv (u32of pu.toNat)] 22)) := R10.alloc R10.size _
    obtain ⟨d6, hd6⟩ : ∃ d6, d6 = v10.heap.size := ⟨_, rfl⟩
    have L6 : Lies (v10.alloc (.cells #[uv (u32of st.toNat), uv (u32of pu.toNat)] 22)) (v10.alloc (.cells #[uv (u32of st.toNat), uv (u32of pu.toNat)] 22)).heap.size (some ⟨d6, 0, none⟩) ([u32of st.toNat, u32of pu.toNat].map uv) := by rw [hd6]; exact ((lies_new v10 [u32of st.toNat, u32of pu.toNat]).below (Below.refl _ _)).more (by show _ ≤ (v10.alloc _).heap.size; simp)
    have L10 : Lies (v10.alloc (.cells #[uv (u32of st.toNat), uv (u32of pu.toNat)] 22)) (v10.alloc (.cells #[uv (u32of st.toNat), uv (u32of pu.toNat)] 22)).heap.size (some ⟨d10, 0, none⟩) ([sq].map uv) := (L10.below ((Below.refl v10.heap.size v10).alloc (Nat.le_refl _) (.cells #[uv (u32of st.toNat), uv (u32of pu.toNat)] 22))).more (by simp)
    rw [← hd6]
    clear hd6
    generalize (v10.alloc (.cells #[uv (u32of st.toNat), uv (u32of pu.toNat)] 22)) = v6 at *
    clear hHeld
    refine hK.out _ _ (KS.out _ R6) (fun hHeld => ?_)
    clear hK K
    try simp only [Act.put, List.setIfInBounds_toArray, List.set_cons_zero, List.set_cons_succ]
    refine wpAnyH_ready (rs := [7]) (by kernel_rfl) (by simp) ?_
    refine AllReadyH.cons rfl (fun K hK => ?_) AllReadyH.nil
    have hP7 : Calls Tryz.prog 68 #[.int .i64 2, .slice (some ⟨d6, 0, none⟩) 2 2] v6 fun e w' => ∃ A' c', e = .returned (.slice A' 4 c') ∧ w'.ownsRow v6.heap.size 5 1 (.slice A' 4 c') 4 ((puts 2 [u32of st.toNat, u32of pu.toNat]).map bv) ∧ Below v6.heap.size v6 w' := fput_own 2 (.inr (.inl rfl)) _ 2 [u32of st.toNat, u32of pu.toNat] (by simp) v6 L6 4 rfl
    go_simp
    go_at_call 68; (with_reducible refine hP7.mono ?_); rintro e v7 ⟨A7, c7, rfl, o7, b7⟩
    go_wp2_with fail
    have R7 : Below w2.heap.size w2 v7 := R6.trans (b7.mono R6.size)
    have I7 := isB_own o7
    have L10 := (L10.below b7).more b7.size
    clear hP7
    clear hHeld
    refine hK.out _ _ (KS.out _ R7) (fun hHeld => ?_)
    clear hK K
    try simp only [Act.put, List.setIfInBounds_toArray, List.set_cons_zero, List.set_cons_succ]
    refine wpAnyH_ready (rs := [11]) (by kernel_rfl) (by simp) ?_
    refine AllReadyH.cons rfl (fun K hK => ?_) AllReadyH.nil
    have hP11 : Calls Tryz.prog 68 #[.int .i64 4, .slice (some ⟨d10, 0, none⟩) 1 1] v7 fun e w' => ∃ A' c', e = .returned (.slice A' 4 c') ∧ w'.ownsRow v7.heap.size 5 1 (.slice A' 4 c') 4 ((puts 4 [sq]).map bv) ∧ Below v7.heap.size v7 w' := fput_own 4 (.inr (.inr rfl)) _ 1 [sq] (by simp) v7 L10 4 rfl
    go_simp
    go_at_call 68; (with_reducible refine hP11.mono ?_); rintro e v11 ⟨A11, c11, rfl, o11, b11⟩
    go_wp2_with fail
    have R11 : Below w2.heap.size w2 v11 := R7.trans (b11.mono R7.size)
    have I11 := isB_own o11
    have I7 := isB_on I7 b11
    clear hP11
    clear hHeld
    refine hK.out _ _ (KS.out _ R11) (fun hHeld => ?_)
    clear hK K
    try simp only [Act.put, List.setIfInBounds_toArray, List.set_cons_zero, List.set_cons_succ]
    refine wpAnyH_ready (rs := [12]) (by kernel_rfl) (by simp) ?_
    refine AllReadyH.cons rfl (fun K hK => ?_) AllReadyH.nil
    go_simp
    have hJ := fjoin2_any (.slice A7 4 c7) (.slice A11 4 c11) (puts 2 [u32of st.toNat, u32of pu.toNat]) (puts 4 [sq]) v11 I7 I11 8 (by simp [puts_len]) (by omega)
    have R12 := R11.alloc R11.size (.cells #[.slice A7 4 c7, .slice A11 4 c11] 41)
    clear hHeld
    refine hK.out _ _ (KS.out _ R12) (fun hHeld => ?_)
    clear hK K
    try simp only [Act.put, List.setIfInBounds_toArray, List.set_cons_zero, List.set_cons_succ]
    refine wpAnyH_ready (rs := [13]) (by kernel_rfl) (by simp) ?_
    refine AllReadyH.cons rfl (fun K hK => ?_) AllReadyH.nil
    go_simp
    go_at_call 70; (with_reducible refine hJ.mono ?_); rintro e v13 ⟨A13, c13, rfl, o13, b13⟩
    go_wp2_with fail
    have R13 : Below w2.heap.size w2 v13 := R11.trans (b13.mono R11.size)
    have O13 := own_base o13 (Nat.le_trans (show w.heap.size ≤ w2.heap.size by omega) R11.size)
    clear hHeld
    refine hK.out _ _ (KS.out _ R13) (fun hHeld => ?_)
    clear hK K
    try simp only [Act.put, List.setIfInBounds_toArray, List.set_cons_zero, List.set_cons_succ]
    refine take_at (i := 14) (v := ?_) (some 4) rfl (by kernel_rfl) (by kernel_rfl) (by kernel_rfl) (fun _ _ _ h => h) (by kernel_rfl) (Or.inl ⟨by kernel_rfl, ?_⟩) (by assumption) ?_
    rotate_left
    · (intro w hSw; (try dsimp only at hSw); go_simp <;> with_reducible rfl)
    simp only [Act.put, List.setIfInBounds_toArray, List.set_cons_zero, List.set_cons_succ]
    refine wpAnyH_done (by kernel_rfl) ?_ _
    go_wp2_with fail
    go_ret
    exact ⟨A13, c13, rfl, by rw [HF.out]; exact O13, B2.trans (R13.mono (by omega))⟩
theorem fbytesOf_any (inter : Bool) (s : Fs) (w : World) : Calls Tryz.prog 69 #[.bool inter, fsV s] w fun e w' => ∃ A' c', e = .returned (.slice A' (unitN inter) c') ∧ w'.ownsRow w.heap.size 5 1 (.slice A' (unitN inter) c') (unitN inter) ((fsB inter s).map bv) ∧ Below w.heap.size w w' := by
  cases inter
  · exact bytesOf_f s w
  · exact bytesOf_t s w
end Go.Proofs.YtmohbkniekeafaaGreatDoor




namespace Go.Proofs.YtmohbkniekeafaaGreatDoor
open Go.RowKit

set_option linter.unusedSimpArgs false
/-- the data of a chunk of skips -/
def fB (inter : Bool) (tsn : UInt32) (l : List Fs) : List UInt8 := puts 4 [tsn] ++ (l.map (fsB inter)).flatten
theorem flat_len (inter : Bool) : ∀ l : List Fs, ((l.map (fsB inter)).flatten).length = unitN inter * l.length
  | [] => rfl
  | s :: l => by
    rw [List.map_cons, List.flatten_cons, List.length_append, flat_len inter l, fsB_len, List.length_cons, Nat.mul_add, Nat.mul_one, Nat.add_comm]
theorem fB_len (inter : Bool) (tsn : UInt32) (l : List Fs) : (fB inter tsn l).length = 4 + unitN inter * l.length := by unfold fB; rw [List.length_append, flat_len, puts_len]; rfl
def tyF (inter : Bool) : UInt8 := if inter then 194 else 192
def fwC (inter : Bool) (tsn : UInt32) (l : List Fs) : Ck := ⟨tyF inter, 0, fB inter tsn l, []⟩
/-- what Make hands back -/
def MkF (inter : Bool) (tsn : UInt32) (l : List Fs) (w : World) (e : Ending) (w' : World) : Prop := Below w.heap.size w w' ∧ ((haveB inter l = true ∧ ∃ A' c', e = .returned (.tuple #[.agg #[bv (tyF inter), .int .u8 0, .slice A' (4 + unitN inter * l.length) c', .slice none 0 0], .bool true]) ∧ w'.ownsRow w.heap.size 5 1 (.slice A' (4 + unitN inter * l.length) c') (4 + unitN inter * l.length) ((fB inter tsn l).map bv)) ∨ (haveB inter l = false ∧ e = .returned (.tuple #[.agg #[.int .u8 0, .int .u8 0, .slice none 0 0, .slice none 0 0], .bool false])))
/-- parts in a row of the call's own -/
structure PartsO (V : World) (B : Nat) (A : Option Addr) (c : Nat) (vs : List Value) (ps : List (List UInt8)) : Prop where
  row : V.ownsRow B 41 1 (.slice A ps.length c) ps.length vs
  each : ∀ (i : Nat) (p : List UInt8), ps[i]? = some p → ∃ (A : Option Addr) (c : Nat), vs[i]? = some (.slice A p.length c) ∧ V.ownsRow B 5 1 (.slice A p.length c) p.length (p.map bv)
theorem PartsO.parts {V : World} {B : Nat} {A : Option Addr} {c : Nat} {vs : List Value} {ps : List (List UInt8)} (h : PartsO V B A c vs ps) : Parts V V.heap.size A vs ps :=
  ⟨Lies.own h.row, (own_cap h.row).1, fun i p hp => by
    obtain ⟨A, c, h1, h2⟩ := h.each i p hp
    exact ⟨_, h1, isB_own h2⟩⟩
theorem bsinfo16 : (Tryz.prog.info? 41).map (fun i => (i.zero, i.size, i.bytes)) = some (some (.slice none 0 0), 1, 24) := by kernel_rfl
set_option maxRecDepth 100000 in
set_option maxHeartbeats 16000000 in
theorem fmake_any (inter : Bool) (tsn : UInt32) (l : List Fs) (A : Option Addr) (c : Nat) (w : World) (h : FsL w w.heap.size A c l) (hl : l.length ≤ 1000000) :
    Calls Tryz.prog 22 #[.bool inter, uv tsn, .slice A l.length c] w (MkF inter tsn l w) := by
  have b0 : Below w.heap.size w (w.alloc (.cells #[.int .u8 0, .int .u8 0, .slice none 0 0, .slice none 0 0] 44)) := (Below.refl _ w).alloc (Nat.le_refl _) _
  have y0 := Whole.new w 44 #[.int .u8 0, .int .u8 0, .slice none 0 0, .slice none 0 0]
  have hs0 : w.heap.size + 1 = (w.alloc (.cells #[.int .u8 0, .int .u8 0, .slice none 0 0, .slice none 0 0] 44)).heap.size := by simp
  have hA := h.on b0
  have hH := have_any inter l A c _ hA (by omega)
  have HM : Hid (∀ e w', MkF inter tsn l w e w' = (Below w.heap.size w w' ∧ ((haveB inter l = true ∧ ∃ A' c', e = .returned (.tuple #[.agg #[bv (tyF inter), .int .u8 0, .slice A' (4 + unitN inter * l.length) c', .slice none 0 0], .bool true]) ∧ w'.ownsRow w.heap.size 5 1 (.slice A' (4 + unitN inter * l.length) c') (4 + unitN inter * l.length) ((fB inter tsn l).map bv)) ∨ (haveB inter l = false ∧ e = .returned (.tuple #[.agg #[.int .u8 0, .int .u8 0, .slice none 0 0, .slice none 0 0], .bool false]))))) := Lib.hid (fun e w' => rfl)
  have hu : unitN inter ≤ 8 := by cases inter <;> simp [unitN]
  have htl := fB_len inter tsn l
  have HTL := Lib.hid htl
  have HBO := Lib.hid (fbytesOf_any inter)
  clear h htl
  generalize haveB inter l = hv0 at *
  generalize MkF inter tsn l w = R at *
  go_enter Tryz.func22, Tryz.ntmps22
  go_upto_region 1 with fail
  generalize w.alloc (.cells #[.int .u8 0, .int .u8 0, .slice none 0 0, .slice none 0 0] 44) = wa at *
  cases hv0 with
  | false =>
    go_wp2_with fail
    refine hH.mono ?_
    rintro e w1 ⟨rfl, b1⟩
    have y1 := y0.below b1 (by omega)
    have f0 := y1.frozen 0
    have f1 := y1.frozen 1
    have f2 := y1.frozen 2
    have f3 := y1.frozen 3
    obtain ⟨c0, c1, c2, c3⟩ := wh4 y1
    have HB1 := Lib.hid (b0.trans (b1.mono (by omega)))
    clear hH hA HBO y0
    go_wp2_with fail
    refine bodyPost_ret (results_row_tmp rfl _ _ w.heap.size 44 _ _ rfl ((((y1.set_ 0 _).set_ 1 _).set_ 2 _).set_ 3 _) Tryz.underlying44 rfl (by kernel_rfl)) rfl ?_
    rw [HM.out]
    exact ⟨(((HB1.out.setCell (p := ⟨w.heap.size, 0, none⟩) (Nat.le_refl _) _).setCell (p := ⟨w.heap.size, 1, none⟩) (Nat.le_refl _) _).setCell (p := ⟨w.heap.size, 2, none⟩) (Nat.le_refl _) _).setCell (p := ⟨w.heap.size, 3, none⟩) (Nat.le_refl _) _, .inr ⟨by trivial, rfl⟩⟩
  | true =>
    go_wp2_with fail
    refine hH.mono ?_
    rintro e w1 ⟨rfl, b1⟩
    have y1 := y0.below b1 (by omega)
    have B1 := b0.trans (b1.mono (by omega))
    have hF1 := hA.on b1
    clear hH hA y0 b1 b0
    have hs1 : w.heap.size + 1 ≤ w1.heap.size := y1.lt
    have v2 : Below w1.heap.size w1 (w1.alloc (.cells #[uv tsn] 22)) := (Below.refl _ _).alloc (Nat.le_refl _) _
    have hP : Calls Tryz.prog 68 #[.int .i64 4, .slice (some ⟨w1.heap.size, 0, none⟩) 1 1] (w1.alloc (.cells #[uv tsn] 22)) fun e w' => ∃ A' c', e = .returned (.slice A' 4 c') ∧ w'.ownsRow (w1.alloc (.cells #[uv tsn] 22)).heap.size 5 1 (.slice A' 4 c') 4 ((puts 4 [tsn]).map bv) ∧ Below (w1.alloc (.cells #[uv tsn] 22)).heap.size (w1.alloc (.cells #[uv tsn] 22)) w' := fput_own 4 (.inr (.inr rfl)) _ 1 [tsn] (by simp) _ ((lies_new w1 [tsn]).more (by simp)) 4 rfl
    have hsz2 : w1.heap.size ≤ (w1.alloc (.cells #[uv tsn] 22)).heap.size := v2.size
    go_wp2_with fail
    generalize w1.alloc (.cells #[uv tsn] 22) = w2 at *
    refine hP.mono ?_
    rintro e w3 ⟨A3, c3, rfl, o3, b3⟩
    have v3 := v2.trans (b3.mono hsz2)
    have o3' := own_base o3 hsz2
    clear hP o3 b3 v2
    have v4 : Below w1.heap.size w1 (w3.alloc (.cells #[.slice A3 4 c3] 41)) := v3.alloc v3.size _
    have r4 : World.ownsRow (w3.alloc (.cells #[.slice A3 4 c3] 41)) w1.heap.size 41 1 (.slice (some ⟨w3.heap.size, 0, none⟩) 1 1) 1 [.slice A3 4 c3] := ⟨rfl, .inr ⟨w3.heap.size, 1, #[.slice A3 4 c3], rfl, v3.size, heap_alloc_new w3 _, Nat.le_refl _, by unfold maxLen; omega, rfl, rfl⟩⟩
    have o4 := o3'.alloc (.cells #[.slice A3 4 c3] 41)
    have P4 : PartsO (w3.alloc (.cells #[.slice A3 4 c3] 41)) w1.heap.size (some ⟨w3.heap.size, 0, none⟩) 1 [.slice A3 4 c3] (puts 4 [tsn] :: (l.take 0).map (fsB inter)) := ⟨r4, fun i p hp => by
      match i, hp with
      | 0, hp => simp only [List.getElem?_cons_zero, Option.some.injEq] at hp; subst hp; exact ⟨A3, c3, rfl, o4⟩
      | i + 1, hp => simp at hp⟩
    clear r4 o4 o3' v3
    go_upto_region 4 with fail
    generalize w3.alloc (.cells #[.slice A3 4 c3] 41) = w4 at *
    generalize w3.heap.size = g3 at *
    go_wp2_with fail
    go_loopw [8, 23] (fun t i wr => ∃ (k : Nat) (Ap : Option Addr) (cp : Nat) (vs : List Value), k ≤ l.length ∧ i = .int .i64 (k : Int) ∧ t = .slice Ap (k + 1) cp ∧ Hid (PartsO wr w1.heap.size Ap cp vs (puts 4 [tsn] :: (l.take k).map (fsB inter))) ∧ Below w1.heap.size w1 wr) (fun _ i _ => l.length - (intOf i).toNat)
    case atStart => exact ⟨0, _, _, _, Nat.zero_le _, rfl, rfl, P4, v4⟩
    case round =>
      obtain ⟨k, Ap, cp, vs, hk, rfl, rfl, hP, hbel⟩ := hrel
      have hwr := hbel.size
      by_cases hlt : k < l.length
      · obtain ⟨s, hs⟩ : ∃ s, l[k]? = some s := ⟨_, List.getElem?_eq_getElem hlt⟩
        obtain ⟨ad, rfl, hadb, c0, c1, c2⟩ := (hF1.below hbel).at_ hs
        have hi1 : (k : Int) < (l.length : Int) := by omega
        have HTK : Hid ((l.take (k + 1)).map (fsB inter) = (l.take k).map (fsB inter) ++ [fsB inter s]) := Lib.hid (by rw [take_some hs, List.map_append]; rfl)
        have hps : (puts 4 [tsn] :: (l.take k).map (fsB inter)).length = k + 1 := by simp; omega
        have HPS := Lib.hid hps
        have HLN := Lib.hid (fsB_len inter s)
        clear hs hps y1 P4 v4
        go_upto_region 7 with fail
        have v5 : Below w1.heap.size w1 (wr.alloc (.cells #[hv s.st, .bool s.un, uv s.sq] 70)) := hbel.alloc hwr _
        have x5 := Whole.new wr 70 #[hv s.st, .bool s.un, uv s.sq]
        have q5 : Below wr.heap.size wr (wr.alloc (.cells #[hv s.st, .bool s.un, uv s.sq] 70)) := (Below.refl _ _).alloc (Nat.le_refl _) _
        generalize wr.alloc (.cells #[hv s.st, .bool s.un, uv s.sq] 70) = w5 at *
        generalize hg10 : wr.heap.size = g10 at x5 ⊢
        clear hg10
        obtain ⟨d0, d1, d2⟩ := wh3 x5
        have hC := HBO.out s w5
        go_wp2_with fail
        refine hC.mono ?_
        rintro e w6 ⟨A6, c6, rfl, o6, b6⟩
        have v6 : Below w1.heap.size w1 w6 := v5.trans (b6.mono v5.size)
        have q6 : Below wr.heap.size wr w6 := q5.trans (b6.mono q5.size)
        have o6' := own_base o6 v5.size
        have r6 := own_below' hP.out.row q6
        rw [HPS.out] at r6
        have hs6 := v6.size
        clear hC d0 d1 d2 x5 c0 c1 c2 o6
        go_wp2_with (at_builtin; refine wpList_append_lies _ rfl (.tmp 27) (.tmp 31) 112 rfl w1.heap.size 41 _ 24 Tryz.underlying112 bsinfo16 rfl _ _ _ rfl (r6.alloc _) _ _ 1 1 [.slice A6 (unitN inter) c6] rfl rfl (Lies.new1 _ _ _) (by intro u hu; rw [List.mem_singleton.1 hu]; rfl) (by omega) (by unfold maxLen; omega) (by simp; omega) ?_; intro A7 c7 w7 own7 gr7 _)
        have v7 : Below w1.heap.size w1 w7 := (v6.alloc v6.size (.cells #[.slice A6 (unitN inter) c6] 41)).grown gr7 (by simp; omega) (fun r e => ((r6.alloc (.cells #[.slice A6 (unitN inter) c6] 41)).lt r e).1)
        have P7 : Hid (PartsO w7 w1.heap.size A7 c7 (vs ++ [.slice A6 (unitN inter) c6]) (puts 4 [tsn] :: (l.take (k + 1)).map (fsB inter))) := by
          unfold Hid
          rw [HTK.out]
          have hps2 : (puts 4 [tsn] :: ((l.take k).map (fsB inter) ++ [fsB inter s])).length = k + 1 + 1 := by have := HPS.out; simp only [List.length_cons, List.length_append, List.length_nil] at this ⊢; omega
          have hvl : vs.length = k + 1 := by have := (own_cap r6).1; exact this
          refine ⟨by rw [hps2]; exact own7, fun i p hp => ?_⟩
          have hkeep : ∀ {A : Option Addr} {c n : Nat} {xs : List Value}, w6.ownsRow w1.heap.size 5 1 (.slice A n c) n xs → w7.ownsRow w1.heap.size 5 1 (.slice A n c) n xs := fun h => (h.alloc (.cells #[.slice A6 (unitN inter) c6] 41)).kept gr7 (row_ne2 (by decide) (h.alloc (.cells #[.slice A6 (unitN inter) c6] 41)) (r6.alloc (.cells #[.slice A6 (unitN inter) c6] 41)))
          rw [← List.cons_append] at hp
          by_cases hi : i < k + 1
          · rw [List.getElem?_append_left (by rw [HPS.out]; exact hi)] at hp
            obtain ⟨A8, c8, h1, h2⟩ := hP.out.each i p hp
            exact ⟨A8, c8, by rw [List.getElem?_append_left (by omega)]; exact h1, hkeep (own_below' h2 q6)⟩
          · rw [List.getElem?_append_right (by rw [HPS.out]; omega), HPS.out] at hp
            have hi0 : i - (k + 1) = 0 := by
              rcases Nat.eq_zero_or_pos (i - (k + 1)) with h | h
              · exact h
              · rw [List.getElem?_eq_none (by simp; omega)] at hp; cases hp
            rw [hi0] at hp
            simp only [List.getElem?_cons_zero, Option.some.injEq] at hp
            subst hp
            refine ⟨A6, c6, ?_, ?_⟩
            · rw [List.getElem?_append_right (by omega), hvl, hi0, HLN.out]; rfl
            · rw [HLN.out]; exact hkeep o6'
        clear own7 gr7 r6 o6' q6 v6 hP hbel
        go_wp2_with fail
        go_roundw
        case rel => exact ⟨k + 1, A7, c7, _, by omega, by go_num, rfl, P7, v7⟩
        case measure => simp [intOf]; omega
      · obtain rfl : k = l.length := by omega
        have hi1 : ¬ (l.length : Int) < (l.length : Int) := by omega
        rw [List.take_length] at hP
        have hfl : (puts 4 [tsn] :: l.map (fsB inter)).flatten = fB inter tsn l := rfl
        have hln : (puts 4 [tsn] :: l.map (fsB inter)).length = l.length + 1 := by simp
        have htt : tot (puts 4 [tsn] :: l.map (fsB inter)) = 4 + unitN inter * l.length := by unfold tot; rw [hfl, HTL.out]
        have hmul : unitN inter * l.length ≤ 8 * l.length := Nat.mul_le_mul_right _ hu
        have hJ := join_any Ap cp vs (puts 4 [tsn] :: l.map (fsB inter)) wr hP.out.parts (by rw [hln]; unfold maxLen; omega) (by rw [htt]; omega)
        rw [hfl, hln, htt] at hJ
        have hyr := y1.below hbel (by omega)
        have HB := Lib.hid (B1.trans (hbel.mono (by omega)))
        clear hfl hln htt y1 hP P4 v4 hmul
        generalize hn : 4 + unitN inter * l.length = n at *
        clear hn
        go_wp2_with fail
        refine hJ.mono ?_
        rintro e w5 ⟨A5, c5, rfl, o5, b5⟩
        have y5 := hyr.below b5 (by omega)
        have B5 := HB.out.trans (b5.mono (by omega))
        have O5 := own_base o5 (show w.heap.size ≤ wr.heap.size by omega)
        clear hJ hyr o5 b5
        go_upto_region 10 with fail
        have y6 := y5.alloc (.cells #[.int .u8 192, .int .u8 0, .slice A5 n c5, .slice none 0 0] 44)
        have z6 := Whole.new w5 44 #[.int .u8 192, .int .u8 0, .slice A5 n c5, .slice none 0 0]
        have O6 := O5.alloc (.cells #[.int .u8 192, .int .u8 0, .slice A5 n c5, .slice none 0 0] 44)
        have B6 := B5.alloc B5.size (.cells #[.int .u8 192, .int .u8 0, .slice A5 n c5, .slice none 0 0] 44)
        have hy5 := y5.lt
        generalize w5.alloc (.cells #[.int .u8 192, .int .u8 0, .slice A5 n c5, .slice none 0 0] 44) = w6 at *
        generalize w5.heap.size = g11 at *
        have hgn : w.heap.size ≠ g11 := by omega
        clear y5 O5 B5
        cases inter with
        | false =>
          obtain ⟨m0, m1, m2, m3⟩ := wh4 z6
          obtain ⟨t0, t1, t2, t3⟩ := wh4 y6
          have f0 := y6.frozen 0
          have f1 := y6.frozen 1
          have f2 := y6.frozen 2
          have f3 := y6.frozen 3
          go_wp2_with fail
          refine bodyPost_ret (results_row_tmp rfl _ _ w.heap.size 44 _ _ rfl ((((y6.set_ 0 _).set_ 1 _).set_ 2 _).set_ 3 _) Tryz.underlying44 rfl (by kernel_rfl)) rfl ?_
          rw [HM.out]
          refine ⟨(((B6.setCell (p := ⟨w.heap.size, 0, none⟩) (Nat.le_refl _) _).setCell (p := ⟨w.heap.size, 1, none⟩) (Nat.le_refl _) _).setCell (p := ⟨w.heap.size, 2, none⟩) (Nat.le_refl _) _).setCell (p := ⟨w.heap.size, 3, none⟩) (Nat.le_refl _) _, .inl ⟨by trivial, A5, c5, rfl, ?_⟩⟩
          exact own_set13 (own_set13 (own_set13 (own_set13 O6 y6 (by decide)) (y6.set_ 0 _) (by decide)) ((y6.set_ 0 _).set_ 1 _) (by decide)) (((y6.set_ 0 _).set_ 1 _).set_ 2 _) (by decide)
        | true =>
          obtain ⟨m0, m1, m2, m3⟩ := wh4 z6
          have fz := z6.frozen 0
          go_upto_region 12 with fail
          have y7 := y6.far (p := ⟨g11, 0, none⟩) hgn (.int .u8 194)
          have z7 := z6.set_ 0 (.int .u8 194)
          have O7 := own_set13 (i := 0) (u := .int .u8 194) O6 z6 (by decide)
          have B7 := B6.setCell (p := ⟨g11, 0, none⟩) (show w.heap.size ≤ g11 by omega) (.int .u8 194)
          generalize w6.setCell ⟨g11, 0, none⟩ (.int .u8 194) = w7 at *
          clear m0 m1 m2 m3 fz y6 z6 O6 B6
          obtain ⟨m0, m1, m2, m3⟩ := wh4 z7
          obtain ⟨t0, t1, t2, t3⟩ := wh4 y7
          have f0 := y7.frozen 0
          have f1 := y7.frozen 1
          have f2 := y7.frozen 2
          have f3 := y7.frozen 3
          go_wp2_with fail
          refine bodyPost_ret (results_row_tmp rfl _ _ w.heap.size 44 _ _ rfl ((((y7.set_ 0 _).set_ 1 _).set_ 2 _).set_ 3 _) Tryz.underlying44 rfl (by kernel_rfl)) rfl ?_
          rw [HM.out]
          refine ⟨(((B7.setCell (p := ⟨w.heap.size, 0, none⟩) (Nat.le_refl _) _).setCell (p := ⟨w.heap.size, 1, none⟩) (Nat.le_refl _) _).setCell (p := ⟨w.heap.size, 2, none⟩) (Nat.le_refl _) _).setCell (p := ⟨w.heap.size, 3, none⟩) (Nat.le_refl _) _, .inl ⟨by trivial, A5, c5, rfl, ?_⟩⟩
          exact own_set13 (own_set13 (own_set13 (own_set13 O7 y7 (by decide)) (y7.set_ 0 _) (by decide)) ((y7.set_ 0 _).set_ 1 _) (by decide)) (((y7.set_ 0 _).set_ 1 _).set_ 2 _) (by decide)
end Go.Proofs.YtmohbkniekeafaaGreatDoor







namespace Go.Proofs.YtmohbkniekeafaaGreatDoor
open Go.RowKit

set_option linter.unusedSimpArgs false
/-- the skip with these bytes -/
def skN (inter : Bool) (b : List UInt8) : Fs := if inter then ⟨UInt16.ofNat (nrd b 0 2).toNat, nrd b 2 2 == 1, nrd b 4 4⟩ else ⟨UInt16.ofNat (nrd b 0 2).toNat, false, nrd b 2 2⟩
theorem nums2_4 {d : List UInt8} (h : 4 ≤ d.length) : nums 2 (d.take 4) = [nrd d 0 2, nrd d 2 2] := by
  unfold nums
  rw [show (d.take 4).length / 2 = 2 by rw [List.length_take]; omega]
  have e0 : numAt 2 (d.take 4) 0 = nrd d 0 2 := by unfold numAt nrd; rw [Nat.zero_mul, List.drop_zero, List.take_take, List.drop_zero]; rfl
  have e1 : numAt 2 (d.take 4) 1 = nrd d 2 2 := by unfold numAt nrd; rw [List.drop_take, List.take_take]; rfl
  simp [List.range_succ, e0, e1]
theorem nums4_4 {d : List UInt8} (h : d.length = 8) : nums 4 (d.drop 4) = [nrd d 4 4] := by
  unfold nums
  rw [show (d.drop 4).length / 4 = 1 by rw [List.length_drop]; omega]
  have e0 : numAt 4 (d.drop 4) 0 = nrd d 4 4 := by unfold numAt nrd; rw [Nat.zero_mul, List.drop_zero]
  simp [List.range_succ, e0]
theorem eh16 (n : UInt32) (h : n.toNat < 65536) : Value.int .u16 (n.toNat : Int) = hv (UInt16.ofNat n.toNat) := by rw [hv, UInt16.toNat_ofNat', Nat.mod_eq_of_lt h]
set_option maxRecDepth 100000 in
set_option maxHeartbeats 4000000 in
theorem skip_f (b : List UInt8) (A : Option Addr) (c : Nat) (w : World) (hb : b.length = 4) (hc : 4 ≤ c) (h : Lies w w.heap.size A (b.map bv)) :
    Calls Tryz.prog 73 #[.bool false, .slice A 4 c] w fun e w' => e = .returned (fsV (skN false b)) ∧ Below w.heap.size w w' := by
  have b0 : Below w.heap.size w (w.alloc (.cells #[.int .u16 0, .bool false, .int .u32 0] 70)) := (Below.refl _ w).alloc (Nat.le_refl _) _
  have x0 := Whole.new w 70 #[.int .u16 0, .bool false, .int .u32 0]
  have hs0 : w.heap.size + 1 = (w.alloc (.cells #[.int .u16 0, .bool false, .int .u32 0] 70)).heap.size := by simp
  obtain ⟨ad, rfl, _⟩ := h (fun e => by
    have hl := congrArg List.length e
    rw [List.length_map, List.length_nil] at hl
    omega)
  have hN0 := num_len 2 rfl (some ad) c (b.take 4) 4 2 (by rw [List.length_take]; omega) rfl (by omega) hc (w.alloc (.cells #[.int .u16 0, .bool false, .int .u32 0] 70)) (by rw [List.map_take]; exact ((h.below b0).more (by omega)).take _)
  rw [nums2_4 (by omega)] at hN0
  have hn0 : (nrd b 0 2).toNat < 65536 := nums2_lt (b.take 4) _ (by rw [nums2_4 (by omega)]; simp)
  have HF : Hid (skN false b = ⟨UInt16.ofNat (nrd b 0 2).toNat, false, nrd b 2 2⟩) := Lib.hid rfl
  generalize skN false b = r at *
  generalize nrd b 0 2 = n0 at *
  generalize nrd b 2 2 = n1 at *
  have HE := Lib.hid (eh16 n0 hn0)
  have HW := Lib.hid (u16wrap n0.toNat)
  clear h hb
  go_enter Tryz.func73, Tryz.ntmps73
  go_upto_region 1 with fail
  generalize w.alloc (.cells #[.int .u16 0, .bool false, .int .u32 0] 70) = wa at *
  go_wp2_with fail
  refine hN0.mono ?_
  rintro e w1 ⟨A1, c1, rfl, o1, b1⟩
  have x1 := x0.below b1 (by omega)
  have B1 := b0.trans (b1.mono (by omega))
  obtain ⟨g, rfl, hg1, hg2, hcl⟩ := own_cells2 o1 (by omega)
  have d0 := hcl 0 (uv n0) rfl
  have d1 := hcl 1 (uv n1) rfl
  have f0 := x1.frozen 0
  have f1 := x1.frozen 1
  have f2 := x1.frozen 2
  obtain ⟨q0, q1, q2⟩ := wh3 x1
  have HB := Lib.hid B1
  clear hN0 hcl o1 b1 x0 b0 B1
  go_wp2_with fail
  have hm : (n0.toNat : Int) % 65536 = (n0.toNat : Int) := by omega
  go_region
  (try rw [HW.out])
  (try rw [HE.out])
  clear hm
  have xd : Whole w1.drew w.heap.size 70 #[.int .u16 0, .bool false, .int .u32 0] := x1
  go_wp2_with fail
  refine bodyPost_ret (results_row13 rfl _ _ w.heap.size 70 _ _ rfl (((xd.set_ 0 _).set_ 1 _).set_ 2 _) Tryz.underlying70 rfl (by kernel_rfl)) rfl ?_
  rw [HF.out]
  exact ⟨rfl, (((below_drew HB.out).setCell (p := ⟨w.heap.size, 0, none⟩) (Nat.le_refl _) _).setCell (p := ⟨w.heap.size, 1, none⟩) (Nat.le_refl _) _).setCell (p := ⟨w.heap.size, 2, none⟩) (Nat.le_refl _) _⟩
set_option maxRecDepth 100000 in
set_option maxHeartbeats 4000000 in
theorem skip_t (b : List UInt8) (A : Option Addr) (c : Nat) (w : World) (hb : b.length = 8) (hc : 8 ≤ c) (h : Lies w w.heap.size A (b.map bv)) :
    Calls Tryz.prog 73 #[.bool true, .slice A 8 c] w fun e w' => e = .returned (fsV (skN true b)) ∧ Below w.heap.size w w' := by
  have b0 : Below w.heap.size w (w.alloc (.cells #[.int .u16 0, .bool false, .int .u32 0] 70)) := (Below.refl _ w).alloc (Nat.le_refl _) _
  have x0 := Whole.new w 70 #[.int .u16 0, .bool false, .int .u32 0]
  have hs0 : w.heap.size + 1 = (w.alloc (.cells #[.int .u16 0, .bool false, .int .u32 0] 70)).heap.size := by simp
  obtain ⟨ad, rfl, _⟩ := h (fun e => by
    have hl := congrArg List.length e
    rw [List.length_map, List.length_nil] at hl
    omega)
  have hN0 := num_len 2 rfl (some ad) c (b.take 4) 4 2 (by rw [List.length_take]; omega) rfl (by omega) (by omega) (w.alloc (.cells #[.int .u16 0, .bool false, .int .u32 0] 70)) (by rw [List.map_take]; exact ((h.below b0).more (by omega)).take _)
  rw [nums2_4 (by omega)] at hN0
  have hN4 : ∀ W, Below w.heap.size w W → Calls Tryz.prog 74 #[.int .i64 4, .slice (some ⟨ad.block, ad.off + 4, none⟩) 4 (c - 4)] W fun e w' => ∃ A' c', e = .returned (.slice A' 1 c') ∧ w'.ownsRow W.heap.size 22 1 (.slice A' 1 c') 1 ([nrd b 4 4].map uv) ∧ Below W.heap.size W w' := fun W hW => by
    have L4 := ((h.below hW).more hW.size).drop (k := 4) (c := c) (by simp; omega)
    rw [if_neg (by omega)] at L4
    have h1 := num_len 4 rfl (some (ad.add 4)) (c - 4) (b.drop 4) 4 1 (by rw [List.length_drop]; omega) rfl (by omega) (by omega) W (by rw [List.map_drop]; exact L4)
    rw [nums4_4 hb, add_pos (by omega)] at h1
    exact h1
  have HN4 := Lib.hid hN4
  have hn0 : (nrd b 0 2).toNat < 65536 := nums2_lt (b.take 4) _ (by rw [nums2_4 (by omega)]; simp)
  have HF : Hid (skN true b = ⟨UInt16.ofNat (nrd b 0 2).toNat, nrd b 2 2 == 1, nrd b 4 4⟩) := Lib.hid rfl
  generalize skN true b = r at *
  generalize nrd b 0 2 = n0 at *
  generalize nrd b 2 2 = n1 at *
  generalize nrd b 4 4 = n2 at *
  have HE := Lib.hid (eh16 n0 hn0)
  have HW := Lib.hid (u16wrap n0.toNat)
  have H1 : Hid ((((n1.toNat : Int) == 1)) = (n1 == 1)) := Lib.hid (by
    rw [Bool.eq_iff_iff, beq_iff_eq, beq_iff_eq]
    constructor
    · intro e
      exact UInt32.toNat_inj.1 (by have : (1 : UInt32).toNat = 1 := rfl; omega)
    · rintro rfl; rfl)
  clear h hb hN4
  go_enter Tryz.func73, Tryz.ntmps73
  go_upto_region 1 with fail
  generalize w.alloc (.cells #[.int .u16 0, .bool false, .int .u32 0] 70) = wa at *
  go_wp2_with fail
  refine hN0.mono ?_
  rintro e w1 ⟨A1, c1, rfl, o1, b1⟩
  have x1 := x0.below b1 (by omega)
  have B1 := b0.trans (b1.mono (by omega))
  obtain ⟨g, rfl, hg1, hg2, hcl⟩ := own_cells2 o1 (by omega)
  have d0 := hcl 0 (uv n0) rfl
  have d1 := hcl 1 (uv n1) rfl
  have HB := Lib.hid B1
  have hN := HN4.out w1.drew (below_drew B1)
  clear hN0 hcl o1 b1 x0 b0 B1 HN4
  go_upto_region 4 with fail
  have hm : (n0.toNat : Int) % 65536 = (n0.toNat : Int) := by omega
  have KB : Hid (∀ W, Below w1.heap.size w1 W → W.cell? ⟨g, 0, none⟩ = some (uv n0) ∧ W.cell? ⟨g, 1, none⟩ = some (uv n1)) := Lib.hid (fun W hW => ⟨(hW.cell (p := ⟨g, 0, none⟩) hg1).trans d0, (hW.cell (p := ⟨g, 1, none⟩) hg1).trans d1⟩)
  have hc4 : (4 : Int) ≤ (c : Int) := by omega
  have hc4' : ¬ c = 4 := by omega
  clear d0 d1
  refine wp_region_held_drew (S := (fun W => W.cell? ⟨g, 0, none⟩ = some (uv n0) ∧ W.cell? ⟨g, 1, none⟩ = some (uv n1))) (by kernel_rfl) (KB.out _ (below_drew (Below.refl _ _))) (fun hHeld => ?_)
  refine take_at (i := 0) (v := ?_) (some 19) rfl (by kernel_rfl) (by kernel_rfl) (by kernel_rfl) (fun _ _ _ h => h) (by kernel_rfl) (Or.inl ⟨by kernel_rfl, ?_⟩) (by assumption) ?_
  rotate_left
  · (intro w hSw; (try dsimp only at hSw); go_simp <;> with_reducible rfl)
  simp only [Act.put, List.setIfInBounds_toArray, List.set_cons_zero, List.set_cons_succ]
  refine take_at (i := 1) (v := ?_) (some 20) rfl (by kernel_rfl) (by kernel_rfl) (by kernel_rfl) (fun _ _ _ h => h) (by kernel_rfl) (Or.inl ⟨by kernel_rfl, ?_⟩) (by assumption) ?_
  rotate_left
  · (intro w hSw; (try dsimp only at hSw); go_simp <;> with_reducible rfl)
  simp only [Act.put, List.setIfInBounds_toArray, List.set_cons_zero, List.set_cons_succ]
  refine take_at (i := 2) (v := ?_) (some 21) rfl (by kernel_rfl) (by kernel_rfl) (by kernel_rfl) (fun _ _ _ h => h) (by kernel_rfl) (Or.inl ⟨by kernel_rfl, ?_⟩) (by assumption) ?_
  rotate_left
  · (intro w hSw; (try dsimp only at hSw); go_simp <;> with_reducible rfl)
  simp only [Act.put, List.setIfInBounds_toArray, List.set_cons_zero, List.set_cons_succ]
  refine take_at (i := 3) (v := ?_) (some 22) rfl (by kernel_rfl) (by kernel_rfl) (by kernel_rfl) (fun _ _ _ h => h) (by kernel_rfl) (Or.inl ⟨by kernel_rfl, ?_⟩) (by assumption) ?_
  rotate_left
  · (intro w hSw; (try dsimp only at hSw); go_simp <;> with_reducible rfl)
  simp only [Act.put, List.setIfInBounds_toArray, List.set_cons_zero, List.set_cons_succ]
  refine take_at (i := 4) (v := ?_) (some 23) rfl (by kernel_rfl) (by kernel_rfl) (by kernel_rfl) (fun _ _ _ h => h) (by kernel_rfl) (Or.inl ⟨by kernel_rfl, ?_⟩) (by assumption) ?_
  rotate_left
  · (intro w hSw; (try dsimp only at hSw); go_simp <;> with_reducible rfl)
  simp only [Act.put, List.setIfInBounds_toArray, List.set_cons_zero, List.set_cons_succ]
  refine take_at (i := 5) (v := ?_) (some 24) rfl (by kernel_rfl) (by kernel_rfl) (by kernel_rfl) (fun _ _ _ h => h) (by kernel_rfl) (Or.inl ⟨by kernel_rfl, ?_⟩) (by assumption) ?_
  rotate_left
  · (intro w hSw; (try dsimp only at hSw); go_simp <;> with_reducible rfl)
  simp only [Act.put, List.setIfInBounds_toArray, List.set_cons_zero, List.set_cons_succ]
  refine take_at (i := 6) (v := ?_) (some 25) rfl (by kernel_rfl) (by kernel_rfl) (by kernel_rfl) (fun _ _ _ h => h) (by kernel_rfl) (Or.inl ⟨by kernel_rfl, ?_⟩) (by assumption) ?_
  rotate_left
  · (intro w hSw; (try dsimp only at hSw); go_simp <;> with_reducible rfl)
  simp only [Act.put, List.setIfInBounds_toArray, List.set_cons_zero, List.set_cons_succ]
  refine take_at (i := 7) (v := ?_) (some 26) rfl (by kernel_rfl) (by kernel_rfl) (by kernel_rfl) (fun _ _ _ h => h) (by kernel_rfl) (Or.inl ⟨by kernel_rfl, ?_⟩) (by assumption) ?_
  rotate_left
  · (intro w hSw; (try dsimp only at hSw); go_simp <;> with_reducible rfl)
  simp only [Act.put, List.setIfInBounds_toArray, List.set_cons_zero, List.set_cons_succ]
  refine take_at (i := 8) (v := ?_) (some 27) rfl (by kernel_rfl) (by kernel_rfl) (by kernel_rfl) (fun _ _ _ h => h) (by kernel_rfl) (Or.inl ⟨by kernel_rfl, ?_⟩) (by assumption) ?_
  rotate_left
  · (intro w hSw; (try dsimp only at hSw); go_simp <;> with_reducible rfl)
  simp only [Act.put, List.setIfInBounds_toArray, List.set_cons_zero, List.set_cons_succ]
  refine take_at (i := 9) (v := ?_) (some 28) rfl (by kernel_rfl) (by kernel_rfl) (by kernel_rfl) (fun _ _ _ h => h) (by kernel_rfl) (Or.inl ⟨by kernel_rfl, ?_⟩) (by assumption) ?_
  rotate_left
  · (intro w hSw; (try dsimp only at hSw); go_simp <;> with_reducible rfl)
  simp only [Act.put, List.setIfInBounds_toArray, List.set_cons_zero, List.set_cons_succ]
  refine wpAnyH_ready (rs := [10]) (by kernel_rfl) (by simp) ?_
  refine AllReadyH.cons rfl (fun K hK => ?_) AllReadyH.nil
  go_simp
  refine hN.mono ?_
  rintro e w2 ⟨A2, c2, rfl, o2, b2⟩
  obtain ⟨g2, rfl, _, _, hcl⟩ := own_cells2 o2 (by omega)
  have d2 := hcl 0 (uv n2) rfl
  have B2 : Below w1.heap.size w1 w2 := (below_drew (Below.refl _ _)).trans b2
  have x2 := x1.below B2 x1.lt
  have R2 := HB.out.trans (B2.mono HB.out.size)
  clear hcl o2 b2
  clear hHeld
  refine hK.out _ _ (KB.out _ B2) (fun hHeld => ?_)
  clear hK K
  try simp only [Act.put, List.setIfInBounds_toArray, List.set_cons_zero, List.set_cons_succ]
  refine take_at (i := 11) (v := ?_) (some 30) rfl (by kernel_rfl) (by kernel_rfl) (by kernel_rfl) (fun _ _ _ h => h) (by kernel_rfl) (Or.inl ⟨by kernel_rfl, ?_⟩) (by assumption) ?_
  rotate_left
  · (intro w hSw; (try dsimp only at hSw); go_simp <;> with_reducible rfl)
  simp only [Act.put, List.setIfInBounds_toArray, List.set_cons_zero, List.set_cons_succ]
  refine wpAnyH_ready (rs := [12]) (by kernel_rfl) (by simp) ?_
  refine AllReadyH.cons rfl (fun K hK => ?_) AllReadyH.nil
  go_simp
  clear hHeld
  refine hK.out _ _ (KB.out _ B2) (fun hHeld => ?_)
  clear hK K
  try simp only [Act.put, List.setIfInBounds_toArray, List.set_cons_zero, List.set_cons_succ]
  refine take_at (i := 13) (v := ?_) (some 32) rfl (by kernel_rfl) (by kernel_rfl) (by kernel_rfl) (fun _ _ _ h => h) (by kernel_rfl) (Or.inl ⟨by kernel_rfl, ?_⟩) (by assumption) ?_
  rotate_left
  · (intro w hSw; (try dsimp only at hSw); go_simp <;> with_reducible rfl)
  simp only [Act.put, List.setIfInBounds_toArray, List.set_cons_zero, List.set_cons_succ]
  refine wpAnyH_ready (rs := [14]) (by kernel_rfl) (by simp) ?_
  refine AllReadyH.cons rfl (fun K hK => ?_) AllReadyH.nil
  obtain ⟨q0, q1, q2⟩ := wh3 x2
  have f0 := x2.frozen 0
  have f1 := x2.frozen 1
  have f2 := x2.frozen 2
  (try rw [HW.out])
  (try rw [HE.out])
  (try rw [H1.out])
  go_simp
  have n02 : w.heap.size ≠ g := by omega
  have far3 : ∀ (u0 u1 u2 : Value) (j : Nat), (((w2.setCell ⟨w.heap.size, 0, none⟩ u0).setCell ⟨w.heap.size, 1, none⟩ u1).setCell ⟨w.heap.size, 2, none⟩ u2).cell? ⟨g, j, none⟩ = w2.cell? ⟨g, j, none⟩ := fun u0 u1 u2 j => ((World.cell?_setCell_far _ _ _ _ n02).trans (World.cell?_setCell_far _ _ _ _ n02)).trans (World.cell?_setCell_far _ _ _ _ n02)
  clear hHeld
  refine hK.out _ _ ⟨(far3 _ _ _ 0).trans (KB.out _ B2).1, (far3 _ _ _ 1).trans (KB.out _ B2).2⟩ (fun hHeld => ?_)
  clear hK K
  try simp only [Act.put, List.setIfInBounds_toArray, List.set_cons_zero, List.set_cons_succ]
  refine wpAnyH_done (by kernel_rfl) ?_ _
  go_wp2_with fail
  refine bodyPost_ret (results_row13 rfl _ _ w.heap.size 70 _ _ rfl (((x2.set_ 0 _).set_ 1 _).set_ 2 _) Tryz.underlying70 rfl (by kernel_rfl)) rfl ?_
  rw [HF.out]
  refine ⟨?_, ((R2.setCell (p := ⟨w.heap.size, 0, none⟩) (Nat.le_refl _) _).setCell (p := ⟨w.heap.size, 1, none⟩) (Nat.le_refl _) _).setCell (p := ⟨w.heap.size, 2, none⟩) (Nat.le_refl _) _⟩
  show _ = Ending.returned (.agg #[hv (UInt16.ofNat n0.toNat), .bool (n1 == 1), uv n2])
  rw [← HE.out]
  rfl
end Go.Proofs.YtmohbkniekeafaaGreatDoor


