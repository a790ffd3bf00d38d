/- Layer 16: what the statements check first (awake). It writes nothing that was there. -/
import Derived.Test.YtmohbkniekeafaaGreatDoorRFwdO
import Derived.Test.YtmohbkniekeafaaGreatDoorRFD
import Derived.Test.YtmohbkniekeafaaGreatDoorRFG
import Derived.BigGuard




namespace Go.Proofs.YtmohbkniekeafaaGreatDoor
open Go.RowKit

set_option linter.unusedSimpArgs false
def awLf : List Fs := [⟨5, false, 1⟩, ⟨2, false, 7⟩, ⟨5, false, 3⟩]
def awM : List Fs := [⟨2, false, 7⟩, ⟨5, false, 3⟩]
def awU : List Fs := [⟨0, true, 0⟩]
theorem awM_mg : MgF awLf awM := by
  refine ⟨⟨?_, fun s => ⟨fun h => ?_, fun h => ?_⟩⟩, ?_⟩
  · unfold awM
    refine List.nodup_cons.2 ⟨fun h => ?_, by simp⟩
    rw [List.mem_singleton] at h
    injection h with h1
    exact absurd h1 (by decide)
  · unfold awM at h
    rcases List.mem_cons.1 h with rfl | h
    · rfl
    · rw [List.mem_singleton] at h
      subst h
      rfl
  · have h1 : s ∈ awLf := lastP_mem h
    unfold awLf at h1
    simp only [List.mem_cons, List.not_mem_nil, or_false] at h1
    rcases h1 with rfl | rfl | rfl
    · have h2 : lastP awLf ⟨5, false, 1⟩ = some ⟨5, false, 3⟩ := rfl
      rw [h2] at h
      injection h with h3
      injection h3 with _ _ h4
      exact absurd h4 (by decide)
    · unfold awM; simp
    · unfold awM; simp
  · unfold SrtF awM
    refine List.pairwise_cons.2 ⟨fun b hb => ?_, by simp⟩
    rw [List.mem_singleton] at hb
    subst hb
    decide
def awC16 : Ck := fwC false 9 awM
theorem aw16_have : haveB false awM = true := by decide +kernel
theorem aw16_no : haveB false awU = false := by decide +kernel
theorem aw16_w : isW awC16 = true := by decide +kernel
theorem aw16_t : ofWt awC16 = 9 := by decide +kernel
theorem aw16_l : (ofWl awC16).length = 2 := by decide +kernel
theorem aw16_len : (fB false 9 awM).length = 12 := fB_len false 9 awM
theorem ak16_mg (w : World) : Calls Tryz.prog 34 #[.slice (some ⟨w.heap.size, 0, none⟩) 3 3] (w.alloc (.cells #[.int .u16 5, .bool false, .int .u32 1, .int .u16 2, .bool false, .int .u32 7, .int .u16 5, .bool false, .int .u32 3] 70)) fun e w' =>
    ∃ (g c' : Nat), e = .returned (.slice (some ⟨g, 0, none⟩) 2 c') ∧ w'.ownsRow w.heap.size 70 3 (.slice (some ⟨g, 0, none⟩) 2 c') 2 (fsFlat awM) ∧ Below w.heap.size w w' := by
  have b : Below w.heap.size w (w.alloc (.cells #[.int .u16 5, .bool false, .int .u32 1, .int .u16 2, .bool false, .int .u32 7, .int .u16 5, .bool false, .int .u32 3] 70)) := (Below.refl _ w).alloc (Nat.le_refl _) _
  have hL : FsL (w.alloc (.cells #[.int .u16 5, .bool false, .int .u32 1, .int .u16 2, .bool false, .int .u32 7, .int .u16 5, .bool false, .int .u32 3] 70)) (w.alloc (.cells #[.int .u16 5, .bool false, .int .u32 1, .int .u16 2, .bool false, .int .u32 7, .int .u16 5, .bool false, .int .u32 3] 70)).heap.size (some ⟨w.heap.size, 0, none⟩) 3 awLf :=
    ⟨(Lies.newN w (fsFlat awLf) 70).more (by simp), Nat.le_refl _, by unfold maxLen; omega⟩
  refine Calls.mono (fmerge_any awLf (some ⟨w.heap.size, 0, none⟩) 3 _ hL (by decide) (by unfold awLf; simp)) fun e w' h => ?_
  obtain ⟨A', c', m, he, hm, ho, hb⟩ := h
  have hme := hm.eq awM_mg
  subst hme
  obtain ⟨g, cur, rfl, _⟩ := own_atS ho (by decide)
  exact ⟨g, c', he, own_baseS ho b.size, b.trans (hb.mono b.size)⟩
theorem ak16_fsl {w : World} {B g c : Nat} (h : w.ownsRow B 70 3 (.slice (some ⟨g, 0, none⟩) 2 c) 2 (fsFlat awM)) : FsL w w.heap.size (some ⟨g, 0, none⟩) c awM := by
  rcases h.2 with ⟨h1, _⟩ | ⟨g', cap, cur, h1, h2, h3, h4, h5, h6, h7⟩
  · cases h1
  · simp only [Value.slice.injEq, Option.some.injEq, Addr.mk.injEq] at h1
    obtain ⟨⟨rfl, _⟩, _, rfl⟩ := h1
    have hw : Whole w g 70 cur := h3
    refine ⟨fun _ => ⟨_, rfl, hw.lt, fun j x hx => ?_⟩, h4, h5⟩
    rw [add_row, hw.cell]
    rw [← h7] at hx
    have hi : j < 2 * 3 := by
      have := (List.getElem?_eq_some_iff.1 hx).1
      simp at this
      omega
    rw [List.getElem?_take_of_lt hi, Array.getElem?_toList] at hx
    exact hx
theorem ak16_mk (g c : Nat) (w : World) (h : FsL w w.heap.size (some ⟨g, 0, none⟩) c awM) : Calls Tryz.prog 22 #[.bool false, .int .u32 9, .slice (some ⟨g, 0, none⟩) 2 c] w fun e w' => Below w.heap.size w w' ∧ ∃ A' c', e = .returned (.tuple #[.agg #[.int .u8 192, .int .u8 0, .slice A' 12 c', .slice none 0 0], .bool true]) ∧ w'.ownsRow w.heap.size 5 1 (.slice A' 12 c') 12 (awC16.d.map bv) :=
  Calls.mono (fmake_any false 9 awM (some ⟨g, 0, none⟩) c w h (by decide)) fun e w' h => by
    obtain ⟨hb, ⟨_, A', c', he, ho⟩ | ⟨h1, _⟩⟩ := h
    · exact ⟨hb, A', c', he, ho⟩
    · rw [aw16_have] at h1; cases h1
theorem ak16_no (w : World) : Calls Tryz.prog 22 #[.bool false, .int .u32 9, .slice (some ⟨w.heap.size, 0, none⟩) 1 1] (w.alloc (.cells #[.int .u16 0, .bool true, .int .u32 0] 70)) fun e w' => Below w.heap.size w w' ∧ e = .returned (.tuple #[.agg #[.int .u8 0, .int .u8 0, .slice none 0 0, .slice none 0 0], .bool false]) := by
  have b : Below w.heap.size w (w.alloc (.cells #[.int .u16 0, .bool true, .int .u32 0] 70)) := (Below.refl _ w).alloc (Nat.le_refl _) _
  refine Calls.mono (fmake_any false 9 awU (some ⟨w.heap.size, 0, none⟩) 1 _ ⟨(Lies.newN w (fsFlat awU) 70).more (by simp), Nat.le_refl _, by unfold maxLen; omega⟩ (by decide)) fun e w' h => ?_
  obtain ⟨hb, ⟨h1, _⟩ | ⟨_, he⟩⟩ := h
  · rw [aw16_no] at h1; cases h1
  · exact ⟨b.trans (hb.mono b.size), he⟩
theorem ak16_of (A : Option Addr) (c B : Nat) (w : World) (h : w.ownsRow B 5 1 (.slice A 12 c) 12 (awC16.d.map bv)) (hh : Handle w) : Calls Tryz.prog 25 #[.agg #[.int .u8 192, .int .u8 0, .slice A 12 c, .slice none 0 0]] w fun e w' => Below w.heap.size w w' ∧ ∃ A' c', e = .returned (.tuple #[.int .u32 9, .slice A' 2 c', .bool true]) := by
  have hc := own_cap h
  refine Calls.mono (fof_any awC16 ⟨by show (fB false 9 awM).length ≤ _; rw [aw16_len]; omega, Nat.zero_le _, fun k hk => by cases hk⟩ A c none 0 w ⟨Lies.own h, by show (fB false 9 awM).length ≤ _; rw [aw16_len]; exact hc.2.1, hc.2.2, Nodes.nil _ _ _, Nat.le_refl _, Nat.zero_le _⟩ hh) fun e w' h => ?_
  obtain ⟨hb, A', c', he, _⟩ := h
  rw [aw16_t, aw16_l, aw16_w] at he
  exact ⟨hb, A', c', he⟩
theorem ak16_most (w : World) : Calls Tryz.prog 38 #[.bool true, .int .i64 24] w fun e w' => e = .returned (.int .i64 2) ∧ w = w' := fmost_any true 24 (by omega) w
set_option maxRecDepth 100000 in
set_option maxHeartbeats 8000000 in
theorem awake16_any (w : World) (hh : Handle w) : Calls Tryz.prog 21 #[] w fun e w' => e = .returned (.bool true) ∧ Below w.heap.size w w' := by
  have HH := Lib.hid (fun (V : World) (hb : Below w.heap.size w V) => hh.below hb hh.lt)
  have HM := Lib.hid (ak16_mg w)
  clear hh
  go_enter Tryz.func21, Tryz.ntmps21
  go_wp2_with fail
  refine HM.out.mono ?_
  rintro e w1 ⟨g, c1, rfl, o1, b1⟩
  clear HM
  have HK1 := Lib.hid (ak16_mk g c1 w1 (ak16_fsl o1))
  go_wp2_with fail
  refine HK1.out.mono ?_
  rintro e w2 ⟨b2, A2, c2, rfl, d2⟩
  have B2 := b1.trans (b2.mono b1.size)
  have o2 := own_belowR o1 b2
  clear HK1 o1 b1 b2
  go_upto_region 5 with fail
  have B3 := B2.alloc B2.size (.cells #[.int .u8 192, .int .u8 0, .slice A2 12 c2, .slice none 0 0] 44)
  have x3 := Whole.new w2 44 #[.int .u8 192, .int .u8 0, .slice A2 12 c2, .slice none 0 0]
  have d3 := d2.alloc (.cells #[.int .u8 192, .int .u8 0, .slice A2 12 c2, .slice none 0 0] 44)
  have o3 := own_belowR o2 ((Below.refl w2.heap.size w2).alloc (Nat.le_refl _) (.cells #[.int .u8 192, .int .u8 0, .slice A2 12 c2, .slice none 0 0] 44))
  generalize w2.alloc (.cells #[.int .u8 192, .int .u8 0, .slice A2 12 c2, .slice none 0 0] 44) = w3 at *
  generalize w2.heap.size = g3 at *
  clear B2 d2 o2
  have HO3 := Lib.hid (ak16_of A2 c2 _ w3 d3 (HH.out w3 B3))
  obtain ⟨q0, q1, q2, q3⟩ := wh4 x3
  go_wp2_with fail
  refine HO3.out.mono ?_
  rintro e w4 ⟨b4, A4, c4, rfl⟩
  have B4 := B3.trans (b4.mono B3.size)
  have o4 := own_belowR o3 b4
  clear HO3 q0 q1 q2 q3 x3 d3 o3 B3 b4 HH
  have HN4 := Lib.hid (ak16_no w4)
  go_wp2_with fail
  refine HN4.out.mono ?_
  rintro e w5 ⟨b5, rfl⟩
  have B5 := B4.trans (b5.mono B4.size)
  have o5 := own_belowR o4 b5
  clear HN4 o4 B4 b5
  go_upto_region 7 with fail
  have B6 := B5.alloc B5.size (.cells #[.int .u8 0, .int .u8 0, .slice none 0 0, .slice none 0 0] 44)
  have o6 := own_belowR o5 ((Below.refl w5.heap.size w5).alloc (Nat.le_refl _) (.cells #[.int .u8 0, .int .u8 0, .slice none 0 0, .slice none 0 0] 44))
  generalize w5.alloc (.cells #[.int .u8 0, .int .u8 0, .slice none 0 0, .slice none 0 0] 44) = w6 at *
  have k0 : w6.cell? ⟨g, 0, none⟩ = some (.int .u16 2) := (own_fs o6 (k := 0) (s := ⟨2, false, 7⟩) rfl).1
  have k5 : w6.cell? ⟨g, 5, none⟩ = some (.int .u32 3) := (own_fs o6 (k := 1) (s := ⟨5, false, 3⟩) rfl).2.2.1
  have HT := Lib.hid (ak16_most w6)
  clear o6 o5 B5
  go_wp2_with fail
  refine HT.out.mono ?_
  rintro e w7 ⟨rfl, rfl⟩
  go_wp2_with fail
  go_ret
  exact ⟨rfl, B6⟩
end Go.Proofs.YtmohbkniekeafaaGreatDoor


