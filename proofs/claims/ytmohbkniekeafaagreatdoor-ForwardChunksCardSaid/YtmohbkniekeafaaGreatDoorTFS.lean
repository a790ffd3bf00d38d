/- Layer 16: skips in a row of the call's own, sorted by insertion: mathematics, and stores into the row. -/
/- Layer 16: slices.insertionSortCmpFunc of skips (written by tools/gen_fwd_t.py). It writes the row of skips alone. -/
import Derived.Test.YtmohbkniekeafaaGreatDoorTFM
import Derived.Test.YtmohbkniekeafaaGreatDoorTSKJ
import Derived.Test.YtmohbkniekeafaaGreatDoorTFA
import Derived.Test.YtmohbkniekeafaaGreatDoorTNF
import Derived.BigGuard


namespace Go.Proofs.YtmohbkniekeafaaGreatDoor
open Go.RowKit

set_option linter.unusedSimpArgs false
/-- the number that orders a skip -/
def kF (a : Fs) : Nat := a.st.toNat * 2 + (unN a.un).toNat
theorem unN_le (b : Bool) : (unN b).toNat ≤ 1 := by cases b <;> decide
theorem fcmp_key (a b : Fs) : fcmp a b = if kF a < kF b then -1 else if kF b < kF a then 1 else 0 := by
  have h1 := unN_le a.un
  have h2 := unN_le b.un
  unfold fcmp cmp16 kF
  generalize (unN a.un).toNat = p at *
  generalize (unN b.un).toNat = q at *
  repeat' split
  all_goals first | rfl | omega | (simp at *; omega) | simp_all
theorem fcmp_lt0 (a b : Fs) : (fcmp a b < 0) ↔ kF a < kF b := by
  rw [fcmp_key]
  by_cases h : kF a < kF b
  · rw [if_pos h]; simp [h]
  · rw [if_neg h]
    by_cases h2 : kF b < kF a
    · rw [if_pos h2]; simp [h]
    · rw [if_neg h2]; simp [h]
/-- in the order of the numbers -/
def SrtF (l : List Fs) : Prop := l.Pairwise fun a b => kF a ≤ kF b
/-- where the insertion stops -/
theorem srt_ins {P1 P2 : List Fs} {x : Fs} (h : SrtF (P1 ++ P2)) (h2 : ∀ y ∈ P2, kF x < kF y) (h1 : ∀ y, P1.getLast? = some y → ¬ kF x < kF y) : SrtF (P1 ++ x :: P2) := by
  unfold SrtF at *
  rw [List.pairwise_append] at h ⊢
  obtain ⟨g1, g2, g3⟩ := h
  have hx : ∀ a ∈ P1, kF a ≤ kF x := by
    rcases List.eq_nil_or_concat P1 with rfl | ⟨Q, y, rfl⟩
    · intro a ha; cases ha
    · rw [List.concat_eq_append] at *
      have hy : ¬ kF x < kF y := h1 y (by simp)
      intro a ha
      rcases List.mem_append.1 ha with ha | ha
      · rw [List.pairwise_append] at g1
        have := g1.2.2 a ha y (by simp)
        omega
      · rw [List.mem_singleton.1 ha]; omega
  refine ⟨g1, List.pairwise_cons.2 ⟨fun y hy => Nat.le_of_lt (h2 y hy), g2⟩, fun a ha b hb => ?_⟩
  rcases List.mem_cons.1 hb with rfl | hb
  · exact hx a ha
  · exact g3 a ha b hb
theorem perm_step (P1 : List Fs) (x y : Fs) (R : List Fs) : (P1 ++ x :: y :: R).Perm (P1 ++ y :: x :: R) := List.Perm.append_left _ (List.Perm.swap _ _ _)
theorem fsFlat_app (a b : List Fs) : fsFlat (a ++ b) = fsFlat a ++ fsFlat b := by simp [fsFlat]
theorem fsFlat_cons (s : Fs) (l : List Fs) : fsFlat (s :: l) = hv s.st :: .bool s.un :: uv s.sq :: fsFlat l := by simp [fsFlat]
/-- two neighbours change places, cell by cell -/
theorem fsFlat_swap (P : List Fs) (y x : Fs) (R : List Fs) :
    ((((((fsFlat (P ++ y :: x :: R)).set ((P.length + 1) * 3) (hv y.st)).set ((P.length + 1) * 3 + 1) (.bool y.un)).set ((P.length + 1) * 3 + 2) (uv y.sq)).set (P.length * 3) (hv x.st)).set (P.length * 3 + 1) (.bool x.un)).set (P.length * 3 + 2) (uv x.sq) = fsFlat (P ++ x :: y :: R) := by
  have hl := fsFlat_len P
  rw [fsFlat_app, fsFlat_app, fsFlat_cons, fsFlat_cons, fsFlat_cons, fsFlat_cons]
  generalize fsFlat P = F at *
  generalize fsFlat R = G at *
  have e0 : P.length * 3 = F.length := hl.symm
  have e1 : (P.length + 1) * 3 = F.length + 3 := by omega
  rw [e0, e1]
  have hs : ∀ (L : List Value) (k : Nat) (v : Value), (F ++ L).set (F.length + k) v = F ++ L.set k v := fun L k v => by
    rw [List.set_append_right _ _ (by omega), Nat.add_sub_cancel_left]
  rw [hs, show F.length + 3 + 1 = F.length + 4 by omega, hs, show F.length + 3 + 2 = F.length + 5 by omega, hs]
  have hs0 : ∀ (L : List Value) (v : Value), (F ++ L).set F.length v = F ++ L.set 0 v := fun L v => hs L 0 v
  rw [hs0, hs, hs]
  rfl
theorem own_setS {w : World} {base g n c i sz : Nat} {t : TypeId} {xs : List Value} (h : w.ownsRow base t sz (.slice (some ⟨g, 0, none⟩) n c) n xs) (u : Value) (hn : 0 < n) :
    (w.setCell ⟨g, i, none⟩ u).ownsRow base t sz (.slice (some ⟨g, 0, none⟩) n c) n (xs.set i u) := by
  refine ⟨by rw [List.length_set]; exact h.1, ?_⟩
  rcases h.2 with ⟨_, h2⟩ | ⟨g', cap, cur, h1, h2, h3, h4, h5, h6, h7⟩
  · omega
  · cases h1
    have hw : Whole w g t cur := h3
    exact .inr ⟨g, c, _, rfl, h2, hw.set_ i u, h4, h5, by simpa using h6, by rw [Array.toList_setIfInBounds, List.take_set, h7]⟩
theorem own_atS {w : World} {base n c sz : Nat} {A : Option Addr} {t : TypeId} {xs : List Value} (h : w.ownsRow base t sz (.slice A n c) n xs) (hn : 0 < n) : ∃ g cur, A = some ⟨g, 0, none⟩ ∧ base ≤ g ∧ Whole w g t cur ∧ n ≤ c ∧ c ≤ maxLen ∧ ∀ (i : Nat) (x : Value), xs[i]? = some x → cur[i]? = some x := by
  have hl := h.1
  rcases h.2 with ⟨_, h2⟩ | ⟨g, cap, cur, h1, h2, h3, h4, h5, h6, h7⟩
  · omega
  · cases h1
    refine ⟨g, cur, rfl, h2, h3, h4, h5, fun i x hx => ?_⟩
    rw [← h7] at hx
    have hi : i < n * sz := by
      have := (List.getElem?_eq_some_iff.1 hx).1
      simp at this
      omega
    rw [List.getElem?_take_of_lt hi, Array.getElem?_toList] at hx
    exact hx
/-- a skip of the row: its cells -/
theorem own_fs {w : World} {base n c g : Nat} {l : List Fs} (h : w.ownsRow base 70 3 (.slice (some ⟨g, 0, none⟩) n c) n (fsFlat l)) {k : Nat} {s : Fs} (hs : l[k]? = some s) :
    w.cell? ⟨g, k * 3, none⟩ = some (hv s.st) ∧ w.cell? ⟨g, k * 3 + 1, none⟩ = some (.bool s.un) ∧ w.cell? ⟨g, k * 3 + 2, none⟩ = some (uv s.sq) ∧ (∀ i, w.frozen? ⟨g, i, none⟩ = false) := by
  have hl := h.1
  rw [fsFlat_len] at hl
  have hk := (List.getElem?_eq_some_iff.1 hs).1
  obtain ⟨g', cur, e, _, hw, _, _, hc⟩ := own_atS h (by omega)
  cases e
  obtain ⟨h1, h2, h3⟩ := fsFlat_at hs
  exact ⟨by rw [hw.cell]; exact hc _ _ h1, by rw [hw.cell]; exact hc _ _ h2, by rw [hw.cell]; exact hc _ _ h3, fun i => hw.frozen i⟩
end Go.Proofs.YtmohbkniekeafaaGreatDoor






namespace Go.Proofs.YtmohbkniekeafaaGreatDoor
open Go.RowKit

set_option linter.unusedSimpArgs false
theorem perm_len {a b : List Fs} (h : a.Perm b) : a.length = b.length := h.length_eq
set_option maxRecDepth 100000 in
set_option maxHeartbeats 16000000 in
theorem insF_any (B g c : Nat) (l : List Fs) (w : World) (hrow : w.ownsRow B 70 3 (.slice (some ⟨g, 0, none⟩) l.length c) l.length (fsFlat l)) (hgw : g < w.heap.size) (hn : l.length ≤ 100000) :
    Calls Tryz.prog 190 #[.slice (some ⟨g, 0, none⟩) l.length c, .int .i64 0, .int .i64 (l.length : Int), .func (.func 36) #[] #[]] w fun e w' => e = .returned (.tuple #[]) ∧
      ∃ l', l'.Perm l ∧ SrtF l' ∧ w'.ownsRow B 70 3 (.slice (some ⟨g, 0, none⟩) l.length c) l.length (fsFlat l') ∧ Below g w w' := by
  have HR0 := Lib.hid hrow
  clear hrow
  go_enter Tryz.func190, Tryz.ntmps190
  go_upto_region 1 with fail
  go_loopw [8] (fun i wr => ∃ (k : Nat) (L : List Fs), 1 ≤ k ∧ (k ≤ l.length ∨ k = 1) ∧ i = .int .i64 (k : Int) ∧ Hid (L.Perm l) ∧ Hid (SrtF (L.take k)) ∧ Hid (wr.ownsRow B 70 3 (.slice (some ⟨g, 0, none⟩) l.length c) l.length (fsFlat L)) ∧ Below g w wr) (fun i _ => l.length + 1 - (intOf i).toNat)
  case atStart => exact ⟨1, l, Nat.le_refl _, .inr rfl, by go_num, List.Perm.refl _, by
    have hlen : (l.take 1).length ≤ 1 := by rw [List.length_take]; omega
    match hq : l.take 1, hlen with
    | [], _ => exact List.Pairwise.nil
    | [a], _ => exact List.pairwise_singleton _ _
    | a :: b :: r, h => simp at h, HR0.out, Below.refl _ _⟩
  case round =>
    obtain ⟨k, L, hk1, hk2, rfl, hP, hS, hR, hbel⟩ := hrel
    have hsz := hbel.size
    clear HR0
    by_cases hlt : k < l.length
    · have hi1 : (k : Int) < (l.length : Int) := by omega
      have hkL : k < L.length := by rw [perm_len hP.out]; exact hlt
      have hInit : ∃ (P1 P2 R : List Fs) (x : Fs), P1.length = k ∧ Hid ((P1 ++ P2).length = k) ∧ Hid (SrtF (P1 ++ P2)) ∧ Hid (∀ y ∈ P2, kF x < kF y) ∧ Hid ((P1 ++ x :: (P2 ++ R)).Perm l) ∧ Hid (wr.ownsRow B 70 3 (.slice (some ⟨g, 0, none⟩) l.length c) l.length (fsFlat (P1 ++ x :: (P2 ++ R)))) := by
        have e : L = L.take k ++ L[k] :: ([] ++ L.drop (k + 1)) := by rw [List.nil_append, ← List.drop_eq_getElem_cons hkL, List.take_append_drop]
        refine ⟨L.take k, [], L.drop (k + 1), L[k], by rw [List.length_take]; omega, by unfold Hid; rw [List.append_nil, List.length_take]; omega, by unfold Hid; rw [List.append_nil]; exact hS.out, (by unfold Hid; intro y hy; cases hy), ?_, ?_⟩
        · unfold Hid; rw [← e]; exact hP.out
        · unfold Hid; rw [← e]; exact hR.out
      obtain ⟨P1, P2, R, x, hj0, hI1, hI2, hI3, hI4, hI5⟩ := hInit
      clear hP hS hR hkL
      go_upto_region 3 with fail
      go_wp2_with fail
      go_loopw [9] (fun v wr => ∃ (P1 P2 R : List Fs) (x : Fs), v = .int .i64 (P1.length : Int) ∧ Hid ((P1 ++ P2).length = k) ∧ Hid (SrtF (P1 ++ P2)) ∧ Hid (∀ y ∈ P2, kF x < kF y) ∧ Hid ((P1 ++ x :: (P2 ++ R)).Perm l) ∧ Hid (wr.ownsRow B 70 3 (.slice (some ⟨g, 0, none⟩) l.length c) l.length (fsFlat (P1 ++ x :: (P2 ++ R)))) ∧ Below g w wr) (fun v _ => (intOf v).toNat)
      case atStart => exact ⟨P1, P2, R, x, by rw [hj0], hI1, hI2, hI3, hI4, hI5, hbel⟩
      case round =>
        clear hI1 hI2 hI3 hI4 hI5 hj0 hsz hbel
        obtain ⟨P1, P2, R, x, rfl, hI1, hI2, hI3, hI4, hI5, hbel⟩ := hrel
        have hsz := hbel.size
        have hbel0 : w.heap.size ≤ wr.heap.size := by have := hbel.size; omega
        rcases List.eq_nil_or_concat P1 with rfl | ⟨P, y, rfl⟩
        · have hz : ¬ (0 : Int) < ((([] : List Fs).length : Nat) : Int) := by simp
          go_upto_region 4 with fail
          refine wp_region_held_drew (S := (fun _ : World => True)) (by kernel_rfl) trivial (fun hHeld => ?_)
          refine take_at (i := 0) (v := ?_) (some 18) rfl (by kernel_rfl) (by kernel_rfl) (by kernel_rfl) (fun _ _ _ h => h) (by kernel_rfl) (Or.inl ⟨by kernel_rfl, ?_⟩) (by assumption) ?_
          rotate_left
          · (intro w hSw; (try dsimp only at hSw); go_simp <;> with_reducible rfl)
          simp only [Act.put, List.setIfInBounds_toArray, List.set_cons_zero, List.set_cons_succ]
          refine take_at (i := 1) (v := ?_) (some 19) rfl (by kernel_rfl) (by kernel_rfl) (by kernel_rfl) (fun _ _ _ h => h) (by kernel_rfl) (Or.inl ⟨by kernel_rfl, ?_⟩) (by assumption) ?_
          rotate_left
          · (intro w hSw; (try dsimp only at hSw); go_simp <;> with_reducible rfl)
          simp only [Act.put, List.setIfInBounds_toArray, List.set_cons_zero, List.set_cons_succ]
          refine take_at (i := 2) (v := ?_) (some 20) rfl (by kernel_rfl) (by kernel_rfl) (by kernel_rfl) (fun _ _ _ h => h) (by kernel_rfl) (Or.inl ⟨by kernel_rfl, ?_⟩) (by assumption) ?_
          rotate_left
          · (intro w hSw; (try dsimp only at hSw); go_simp <;> with_reducible rfl)
          simp only [Act.put, List.setIfInBounds_toArray, List.set_cons_zero, List.set_cons_succ]
          refine take_at (i := 3) (v := ?_) (some 21) rfl (by kernel_rfl) (by kernel_rfl) (by kernel_rfl) (fun _ _ _ h => h) (by kernel_rfl) (Or.inl ⟨by kernel_rfl, ?_⟩) (by assumption) ?_
          rotate_left
          · (intro w hSw; (try dsimp only at hSw); go_simp <;> with_reducible rfl)
          simp only [Act.put, List.setIfInBounds_toArray, List.set_cons_zero, List.set_cons_succ]
          refine take_at (i := 4) (v := undef) (some 22) rfl (by kernel_rfl) (by kernel_rfl) (by kernel_rfl) (fun _ _ _ h => h) (by kernel_rfl) (Or.inr ⟨by kernel_rfl, rfl⟩) (by assumption) ?_
          simp only [Act.put, List.setIfInBounds_toArray, List.set_cons_zero, List.set_cons_succ]
          refine take_at (i := 5) (v := undef) (some 23) rfl (by kernel_rfl) (by kernel_rfl) (by kernel_rfl) (fun _ _ _ h => h) (by kernel_rfl) (Or.inr ⟨by kernel_rfl, rfl⟩) (by assumption) ?_
          simp only [Act.put, List.setIfInBounds_toArray, List.set_cons_zero, List.set_cons_succ]
          refine take_at (i := 6) (v := undef) (some 24) rfl (by kernel_rfl) (by kernel_rfl) (by kernel_rfl) (fun _ _ _ h => h) (by kernel_rfl) (Or.inr ⟨by kernel_rfl, rfl⟩) (by assumption) ?_
          simp only [Act.put, List.setIfInBounds_toArray, List.set_cons_zero, List.set_cons_succ]
          refine take_at (i := 7) (v := undef) (some 25) rfl (by kernel_rfl) (by kernel_rfl) (by kernel_rfl) (fun _ _ _ h => h) (by kernel_rfl) (Or.inr ⟨by kernel_rfl, rfl⟩) (by assumption) ?_
          simp only [Act.put, List.setIfInBounds_toArray, List.set_cons_zero, List.set_cons_succ]
          refine take_at (i := 8) (v := undef) (some 26) rfl (by kernel_rfl) (by kernel_rfl) (by kernel_rfl) (fun _ _ _ h => h) (by kernel_rfl) (Or.inr ⟨by kernel_rfl, rfl⟩) (by assumption) ?_
          simp only [Act.put, List.setIfInBounds_toArray, List.set_cons_zero, List.set_cons_succ]
          refine take_at (i := 9) (v := undef) (some 27) rfl (by kernel_rfl) (by kernel_rfl) (by kernel_rfl) (fun _ _ _ h => h) (by kernel_rfl) (Or.inr ⟨by kernel_rfl, rfl⟩) (by assumption) ?_
          simp only [Act.put, List.setIfInBounds_toArray, List.set_cons_zero, List.set_cons_succ]
          refine take_at (i := 10) (v := undef) (some 28) rfl (by kernel_rfl) (by kernel_rfl) (by kernel_rfl) (fun _ _ _ h => h) (by kernel_rfl) (Or.inr ⟨by kernel_rfl, rfl⟩) (by assumption) ?_
          simp only [Act.put, List.setIfInBounds_toArray, List.set_cons_zero, List.set_cons_succ]
          refine take_at (i := 11) (v := undef) (some 29) rfl (by kernel_rfl) (by kernel_rfl) (by kernel_rfl) (fun _ _ _ h => h) (by kernel_rfl) (Or.inr ⟨by kernel_rfl, rfl⟩) (by assumption) ?_
          simp only [Act.put, List.setIfInBounds_toArray, List.set_cons_zero, List.set_cons_succ]
          refine take_at (i := 12) (v := undef) (some 30) rfl (by kernel_rfl) (by kernel_rfl) (by kernel_rfl) (fun _ _ _ h => h) (by kernel_rfl) (Or.inr ⟨by kernel_rfl, rfl⟩) (by assumption) ?_
          simp only [Act.put, List.setIfInBounds_toArray, List.set_cons_zero, List.set_cons_succ]
          refine take_at (i := 13) (v := undef) (some 31) rfl (by kernel_rfl) (by kernel_rfl) (by kernel_rfl) (fun _ _ _ h => h) (by kernel_rfl) (Or.inr ⟨by kernel_rfl, rfl⟩) (by assumption) ?_
          simp only [Act.put, List.setIfInBounds_toArray, List.set_cons_zero, List.set_cons_succ]
          refine take_at (i := 14) (v := undef) (some 32) rfl (by kernel_rfl) (by kernel_rfl) (by kernel_rfl) (fun _ _ _ h => h) (by kernel_rfl) (Or.inr ⟨by kernel_rfl, rfl⟩) (by assumption) ?_
          simp only [Act.put, List.setIfInBounds_toArray, List.set_cons_zero, List.set_cons_succ]
          refine take_at (i := 15) (v := undef) (some 33) rfl (by kernel_rfl) (by kernel_rfl) (by kernel_rfl) (fun _ _ _ h => h) (by kernel_rfl) (Or.inr ⟨by kernel_rfl, rfl⟩) (by assumption) ?_
          simp only [Act.put, List.setIfInBounds_toArray, List.set_cons_zero, List.set_cons_succ]
          refine take_at (i := 16) (v := ?_) (some 34) rfl (by kernel_rfl) (by kernel_rfl) (by kernel_rfl) (fun _ _ _ h => h) (by kernel_rfl) (Or.inl ⟨by kernel_rfl, ?_⟩) (by assumption) ?_
          rotate_left
          · (intro w hSw; (try dsimp only at hSw); go_simp <;> with_reducible rfl)
          simp only [Act.put, List.setIfInBounds_toArray, List.set_cons_zero, List.set_cons_succ]
          refine wpAnyH_done (by kernel_rfl) ?_ _
          go_wp2_with fail
          go_roundw
          case rel => exact ⟨k + 1, ([] : List Fs) ++ x :: (P2 ++ R), by omega, by omega, by go_num, hI4, by
              have e : (([] : List Fs) ++ x :: (P2 ++ R)).take (k + 1) = ([] : List Fs) ++ x :: P2 := by
                have h1 := hI1.out
                rw [List.length_append] at h1
                rw [show ([] : List Fs) ++ x :: (P2 ++ R) = (([] : List Fs) ++ x :: P2) ++ R by simp]
                exact List.take_left' (by rw [List.length_append, List.length_cons]; omega)
              unfold Hid
              rw [e]
              exact srt_ins hI2.out hI3.out (fun y hy => by simp at hy), hI5, below_drew hbel⟩
          case measure => simp [intOf]; omega
        · rw [List.concat_eq_append] at *
          have hl1 := hI1.out
          have hll : (P ++ [y] ++ x :: (P2 ++ R)).length = l.length := perm_len hI4.out
          obtain ⟨j, hj⟩ : ∃ j, P.length = j := ⟨_, rfl⟩
          have hPl : (P ++ [y]).length = j + 1 := by rw [List.length_append, hj]; rfl
          have hjx : ((P ++ [y] ++ x :: (P2 ++ R))[j + 1]?) = some x := by rw [List.getElem?_append_right (by rw [hPl]; exact Nat.le_refl _), hPl, Nat.sub_self]; rfl
          have hjy : ((P ++ [y] ++ x :: (P2 ++ R))[j]?) = some y := by rw [List.append_assoc, List.getElem?_append_right (by rw [hj]; exact Nat.le_refl _), hj, Nat.sub_self]; rfl
          obtain ⟨a0, a1, a2, hfz⟩ := own_fs hI5.out hjx
          obtain ⟨b0, b1, b2, _⟩ := own_fs hI5.out hjy
          have hgr : g < wr.heap.size := Nat.lt_of_lt_of_le hgw hbel0
          have hjl : j + 1 < l.length := by
            have h1 := (List.getElem?_eq_some_iff.1 hjx).1
            rw [hll] at h1
            exact h1
          have hC := Lib.hid (fcmp_any x y)
          have hLT := Lib.hid (fcmp_lt0 x y)
          have HJX := Lib.hid hjx
          have HJY := Lib.hid hjy
          have HJ := Lib.hid hj
          have HPL := Lib.hid hPl
          clear hl1 hll hjx hjy
          have hi3 : j < l.length := by omega
          obtain ⟨j1, hj1⟩ : ∃ j1, j + 1 = j1 := ⟨_, rfl⟩
          have hw1 : (j1 : Int) - 1 = (j : Int) := by omega
          have hw2 : IntKind.i64.wrap (j : Int) = (j : Int) := by rw [IntKind.wrap_i64]; omega
          have hi0 : (0 : Int) < (j1 : Int) := by omega
          have hi0' : 0 < j1 := by omega
          rw [hj1] at a0 a1 a2 hjl hPl
          rw [hPl]
          have HJ1 := Lib.hid hj1
          clear hj hj1 hPl
          have KS : Hid (∀ V, Below wr.heap.size wr V → (V.cell? ⟨g, j1 * 3, none⟩ = some (hv x.st) ∧ V.cell? ⟨g, j1 * 3 + 1, none⟩ = some (.bool x.un) ∧ V.cell? ⟨g, j1 * 3 + 2, none⟩ = some (uv x.sq)) ∧ (V.cell? ⟨g, j * 3, none⟩ = some (hv y.st) ∧ V.cell? ⟨g, j * 3 + 1, none⟩ = some (.bool y.un) ∧ V.cell? ⟨g, j * 3 + 2, none⟩ = some (uv y.sq))) := Lib.hid (fun V hV => ⟨⟨(hV.cell (p := ⟨g, j1 * 3, none⟩) hgr).trans a0, (hV.cell (p := ⟨g, j1 * 3 + 1, none⟩) hgr).trans a1, (hV.cell (p := ⟨g, j1 * 3 + 2, none⟩) hgr).trans a2⟩, ⟨(hV.cell (p := ⟨g, j * 3, none⟩) hgr).trans b0, (hV.cell (p := ⟨g, j * 3 + 1, none⟩) hgr).trans b1, (hV.cell (p := ⟨g, j * 3 + 2, none⟩) hgr).trans b2⟩⟩)
          go_upto_region 4 with fail
          refine wp_region_held_drew (S := (fun V => (V.cell? ⟨g, j1 * 3, none⟩ = some (hv x.st) ∧ V.cell? ⟨g, j1 * 3 + 1, none⟩ = some (.bool x.un) ∧ V.cell? ⟨g, j1 * 3 + 2, none⟩ = some (uv x.sq)) ∧ (V.cell? ⟨g, j * 3, none⟩ = some (hv y.st) ∧ V.cell? ⟨g, j * 3 + 1, none⟩ = some (.bool y.un) ∧ V.cell? ⟨g, j * 3 + 2, none⟩ = some (uv y.sq)))) (by kernel_rfl) (KS.out _ (below_drew (Below.refl _ _))) (fun hHeld => ?_)
          refine take_at (i := 0) (v := ?_) (some 18) rfl (by kernel_rfl) (by kernel_rfl) (by kernel_rfl) (fun _ _ _ h => h) (by kernel_rfl) (Or.inl ⟨by kernel_rfl, ?_⟩) (by assumption) ?_
          rotate_left
          · (intro w hSw; (try dsimp only at hSw); go_simp <;> with_reducible rfl)
          simp only [Act.put, List.setIfInBounds_toArray, List.set_cons_zero, List.set_cons_succ]
          refine take_at (i := 1) (v := ?_) (some 19) rfl (by kernel_rfl) (by kernel_rfl) (by kernel_rfl) (fun _ _ _ h => h) (by kernel_rfl) (Or.inl ⟨by kernel_rfl, ?_⟩) (by assumption) ?_
          rotate_left
          · (intro w hSw; (try dsimp only at hSw); go_simp <;> with_reducible rfl)
          simp only [Act.put, List.setIfInBounds_toArray, List.set_cons_zero, List.set_cons_succ]
          refine take_at (i := 2) (v := ?_) (some 20) rfl (by kernel_rfl) (by kernel_rfl) (by kernel_rfl) (fun _ _ _ h => h) (by kernel_rfl) (Or.inl ⟨by kernel_rfl, ?_⟩) (by assumption) ?_
          rotate_left
          · (intro w hSw; (try dsimp only at hSw); go_simp <;> with_reducible rfl)
          simp only [Act.put, List.setIfInBounds_toArray, List.set_cons_zero, List.set_cons_succ]
          refine take_at (i := 3) (v := ?_) (some 21) rfl (by kernel_rfl) (by kernel_rfl) (by kernel_rfl) (fun _ _ _ h => h) (by kernel_rfl) (Or.inl ⟨by kernel_rfl, ?_⟩) (by assumption) ?_
          rotate_left
          · (intro w hSw; (try dsimp only at hSw); go_simp <;> with_reducible rfl)
          simp only [Act.put, List.setIfInBounds_toArray, List.set_cons_zero, List.set_cons_succ]
          refine take_at (i := 4) (v := ?_) (some 22) rfl (by kernel_rfl) (by kernel_rfl) (by kernel_rfl) (fun _ _ _ h => h) (by kernel_rfl) (Or.inl ⟨by kernel_rfl, ?_⟩) (by assumption) ?_
          rotate_left
          · (intro w hSw; (try dsimp only at hSw); go_simp <;> with_reducible rfl)
          simp only [Act.put, List.setIfInBounds_toArray, List.set_cons_zero, List.set_cons_succ]
          refine take_at (i := 5) (v := ?_) (some 23) rfl (by kernel_rfl) (by kernel_rfl) (by kernel_rfl) (fun _ _ _ h => h) (by kernel_rfl) (Or.inl ⟨by kernel_rfl, ?_⟩) (by assumption) ?_
          rotate_left
          · (intro w hSw; (try dsimp only at hSw); go_simp <;> with_reducible rfl)
          simp only [Act.put, List.setIfInBounds_toArray, List.set_cons_zero, List.set_cons_succ]
          refine take_at (i := 6) (v := ?_) (some 24) rfl (by kernel_rfl) (by kernel_rfl) (by kernel_rfl) (fun _ _ _ h => h) (by kernel_rfl) (Or.inl ⟨by kernel_rfl, ?_⟩) (by assumption) ?_
          rotate_left
          · (intro w hSw; (try dsimp only at hSw); go_simp <;> with_reducible rfl)
          simp only [Act.put, List.setIfInBounds_toArray, List.set_cons_zero, List.set_cons_succ]
          refine take_at (i := 7) (v := ?_) (some 25) rfl (by kernel_rfl) (by kernel_rfl) (by kernel_rfl) (fun _ _ _ h => h) (by kernel_rfl) (Or.inl ⟨by kernel_rfl, ?_⟩) (by assumption) ?_
          rotate_left
          · (intro w hSw; (try dsimp only at hSw); go_simp <;> with_reducible rfl)
          simp only [Act.put, List.setIfInBounds_toArray, List.set_cons_zero, List.set_cons_succ]
          refine take_at (i := 8) (v := ?_) (some 26) rfl (by kernel_rfl) (by kernel_rfl) (by kernel_rfl) (fun _ _ _ h => h) (by kernel_rfl) (Or.inl ⟨by kernel_rfl, ?_⟩) (by assumption) ?_
          rotate_left
          · (intro w hSw; (try dsimp only at hSw); go_simp <;> with_reducible rfl)
          simp only [Act.put, List.setIfInBounds_toArray, List.set_cons_zero, List.set_cons_succ]
          refine take_at (i := 9) (v := ?_) (some 27) rfl (by kernel_rfl) (by kernel_rfl) (by kernel_rfl) (fun _ _ _ h => h) (by kernel_rfl) (Or.inl ⟨by kernel_rfl, ?_⟩) (by assumption) ?_
          rotate_left
          · (intro w hSw; (try dsimp only at hSw); go_simp <;> with_reducible rfl)
          simp only [Act.put, List.setIfInBounds_toArray, List.set_cons_zero, List.set_cons_succ]
          refine take_at (i := 10) (v := ?_) (some 28) rfl (by kernel_rfl) (by kernel_rfl) (by kernel_rfl) (fun _ _ _ h => h) (by kernel_rfl) (Or.inl ⟨by kernel_rfl, ?_⟩) (by assumption) ?_
          rotate_left
          · (intro w hSw; (try dsimp only at hSw); go_simp <;> with_reducible rfl)
          simp only [Act.put, List.setIfInBounds_toArray, List.set_cons_zero, List.set_cons_succ]
          refine take_at (i := 11) (v := ?_) (some 29) rfl (by kernel_rfl) (by kernel_rfl) (by kernel_rfl) (fun _ _ _ h => h) (by kernel_rfl) (Or.inl ⟨by kernel_rfl, ?_⟩) (by assumption) ?_
          rotate_left
          · (intro w hSw; (try dsimp only at hSw); go_simp <;> with_reducible rfl)
          simp only [Act.put, List.setIfInBounds_toArray, List.set_cons_zero, List.set_cons_succ]
          refine take_at (i := 12) (v := ?_) (some 30) rfl (by kernel_rfl) (by kernel_rfl) (by kernel_rfl) (fun _ _ _ h => h) (by kernel_rfl) (Or.inl ⟨by kernel_rfl, ?_⟩) (by assumption) ?_
          rotate_left
          · (intro w hSw; (try dsimp only at hSw); go_simp <;> with_reducible rfl)
          simp only [Act.put, List.setIfInBounds_toArray, List.set_cons_zero, List.set_cons_succ]
          refine take_at (i := 13) (v := ?_) (some 31) rfl (by kernel_rfl) (by kernel_rfl) (by kernel_rfl) (fun _ _ _ h => h) (by kernel_rfl) (Or.inl ⟨by kernel_rfl, ?_⟩) (by assumption) ?_
          rotate_left
          · (intro w hSw; (try dsimp only at hSw); go_simp <;> with_reducible rfl)
          simp only [Act.put, List.setIfInBounds_toArray, List.set_cons_zero, List.set_cons_succ]
          refine wpAnyH_ready (rs := [14]) (by kernel_rfl) (by simp) ?_
          refine AllReadyH.cons rfl (fun K hK => ?_) AllReadyH.nil
          go_simp
          go_at_call 36; (with_reducible refine (hC.out wr.drew).mono ?_); rintro e w2 ⟨rfl, b2⟩
          go_wp2_with fail
          have V2 : Below wr.heap.size wr w2 := (below_drew (Below.refl _ _)).trans b2
          clear hHeld
          refine hK.out _ _ (KS.out _ V2) (fun hHeld => ?_)
          clear hK K
          try simp only [Act.put, List.setIfInBounds_toArray, List.set_cons_zero, List.set_cons_succ]
          refine take_at (i := 15) (v := ?_) (some 33) rfl (by kernel_rfl) (by kernel_rfl) (by kernel_rfl) (fun _ _ _ h => h) (by kernel_rfl) (Or.inl ⟨by kernel_rfl, ?_⟩) (by assumption) ?_
          rotate_left
          · (intro w hSw; (try dsimp only at hSw); go_simp <;> with_reducible rfl)
          simp only [Act.put, List.setIfInBounds_toArray, List.set_cons_zero, List.set_cons_succ]
          refine take_at (i := 16) (v := ?_) (some 34) rfl (by kernel_rfl) (by kernel_rfl) (by kernel_rfl) (fun _ _ _ h => h) (by kernel_rfl) (Or.inl ⟨by kernel_rfl, ?_⟩) (by assumption) ?_
          rotate_left
          · (intro w hSw; (try dsimp only at hSw); go_simp <;> with_reducible rfl)
          simp only [Act.put, List.setIfInBounds_toArray, List.set_cons_zero, List.set_cons_succ]
          refine wpAnyH_done (by kernel_rfl) ?_ _
          have hRW := own_belowR hI5.out V2
          have HB2 := Lib.hid (hbel.trans (V2.mono (Nat.le_of_lt hgr)))
          have HRW := Lib.hid hRW
          by_cases hlt2 : kF x < kF y
          · have hd : fcmp x y < 0 := hLT.out.2 hlt2
            have HLT2 := Lib.hid hlt2
            clear hlt2 a0 a1 a2 b0 b1 b2 hfz KS hHeld
            have hjx2 := HJX.out
            rw [HJ1.out] at hjx2
            obtain ⟨a0, a1, a2, hfz⟩ := own_fs hRW hjx2
            obtain ⟨b0, b1, b2, _⟩ := own_fs hRW HJY.out
            have f0 := hfz (j1 * 3)
            have f1 := hfz (j1 * 3 + 1)
            have f2 := hfz (j1 * 3 + 2)
            have g0 := hfz (j * 3)
            have g1 := hfz (j * 3 + 1)
            have g2 := hfz (j * 3 + 2)
            clear hfz hRW hjx2
            have e0 : P ++ [y] ++ x :: (P2 ++ R) = P ++ y :: x :: (P2 ++ R) := by simp
            have HE0 := Lib.hid e0
            have HI1 : Hid ((P ++ y :: P2).length = k) := Lib.hid (by have := hI1.out; simpa using this)
            have HI2 : Hid (SrtF (P ++ y :: P2)) := Lib.hid (by have := hI2.out; simpa using this)
            have HI3 : Hid (∀ z ∈ y :: P2, kF x < kF z) := Lib.hid (fun z hz => by
              rcases List.mem_cons.1 hz with rfl | hz
              · exact HLT2.out
              · exact hI3.out z hz)
            have HI4 : Hid ((P ++ x :: (y :: P2 ++ R)).Perm l) := Lib.hid ((perm_step P x y (P2 ++ R)).trans (by have := hI4.out; rw [e0] at this; exact this))
            have HFS : Hid (((((((fsFlat (P ++ [y] ++ x :: (P2 ++ R))).set (j1 * 3) (hv y.st)).set (j1 * 3 + 1) (.bool y.un)).set (j1 * 3 + 2) (uv y.sq)).set (j * 3) (hv x.st)).set (j * 3 + 1) (.bool x.un)).set (j * 3 + 2) (uv x.sq) = fsFlat (P ++ x :: (y :: P2 ++ R))) := Lib.hid (by
              rw [e0, ← HJ1.out, ← HJ.out]
              exact fsFlat_swap P y x (P2 ++ R))
            have hl0 : 0 < l.length := by omega
            have HROW : Hid (World.ownsRow ((((((w2.setCell ⟨g, j1 * 3, none⟩ (hv y.st)).setCell ⟨g, j1 * 3 + 1, none⟩ (.bool y.un)).setCell ⟨g, j1 * 3 + 2, none⟩ (uv y.sq)).setCell ⟨g, j * 3, none⟩ (hv x.st)).setCell ⟨g, j * 3 + 1, none⟩ (.bool x.un)).setCell ⟨g, j * 3 + 2, none⟩ (uv x.sq)) B 70 3 (.slice (some ⟨g, 0, none⟩) l.length c) l.length (fsFlat (P ++ x :: (y :: P2 ++ R)))) := Lib.hid (by
              rw [← HFS.out]
              exact own_setS (own_setS (own_setS (own_setS (own_setS (own_setS HRW.out _ hl0) _ hl0) _ hl0) _ hl0) _ hl0) _ hl0)
            have HB6 : Hid (Below g w ((((((w2.setCell ⟨g, j1 * 3, none⟩ (hv y.st)).setCell ⟨g, j1 * 3 + 1, none⟩ (.bool y.un)).setCell ⟨g, j1 * 3 + 2, none⟩ (uv y.sq)).setCell ⟨g, j * 3, none⟩ (hv x.st)).setCell ⟨g, j * 3 + 1, none⟩ (.bool x.un)).setCell ⟨g, j * 3 + 2, none⟩ (uv x.sq))) := Lib.hid ((((((HB2.out.setCell (p := ⟨g, j1 * 3, none⟩) (Nat.le_refl _) _).setCell (p := ⟨g, j1 * 3 + 1, none⟩) (Nat.le_refl _) _).setCell (p := ⟨g, j1 * 3 + 2, none⟩) (Nat.le_refl _) _).setCell (p := ⟨g, j * 3, none⟩) (Nat.le_refl _) _).setCell (p := ⟨g, j * 3 + 1, none⟩) (Nat.le_refl _) _).setCell (p := ⟨g, j * 3 + 2, none⟩) (Nat.le_refl _) _)
            clear e0
            go_upto_region 6 with fail
            go_region_law (fail)
            all_goals
              go_wp2_with fail
              go_roundw
              case rel => exact ⟨P, y :: P2, R, x, by rw [HJ.out], HI1, HI2, HI3, HI4, World.ownsRow.drew HROW.out, below_drew HB6.out⟩
              case measure => simp [intOf]; omega
          · have hd : ¬ fcmp x y < 0 := fun h => hlt2 (hLT.out.1 h)
            have HLT2 := Lib.hid hlt2
            clear hlt2 a0 a1 a2 b0 b1 b2 hfz KS hHeld hRW
            go_wp2_with fail
            go_roundw
            case rel => exact ⟨k + 1, (P ++ [y]) ++ x :: (P2 ++ R), by omega, by omega, by go_num, hI4, by
              have e : ((P ++ [y]) ++ x :: (P2 ++ R)).take (k + 1) = (P ++ [y]) ++ x :: P2 := by
                have h1 := hI1.out
                rw [List.length_append] at h1
                rw [show (P ++ [y]) ++ x :: (P2 ++ R) = ((P ++ [y]) ++ x :: P2) ++ R by simp]
                exact List.take_left' (by rw [List.length_append, List.length_cons]; omega)
              unfold Hid
              rw [e]
              exact srt_ins hI2.out hI3.out (fun z hz => by simp at hz; subst hz; exact HLT2.out), HRW, HB2.out⟩
            case measure => simp [intOf]; omega
    · have hk : k = l.length ∨ (k = 1 ∧ l.length = 0) := by omega
      have hi1 : ¬ (k : Int) < (l.length : Int) := by omega
      have HS2 : Hid (SrtF L) := Lib.hid (by
        have hlen := perm_len hP.out
        have h1 := hS.out
        rw [List.take_of_length_le (by omega)] at h1
        exact h1)
      clear hS
      go_wp2_with fail
      go_end0
      exact ⟨rfl, L, hP.out, HS2.out, hR.out, hbel⟩
end Go.Proofs.YtmohbkniekeafaaGreatDoor


