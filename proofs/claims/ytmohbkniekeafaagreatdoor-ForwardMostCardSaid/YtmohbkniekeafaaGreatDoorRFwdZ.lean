/- Layer 16: the law ForwardMost. It writes nothing that was there. -/
import Derived.Test.YtmohbkniekeafaaGreatDoorRFwdV
import Derived.Test.YtmohbkniekeafaaGreatDoorRCA
import Derived.Test.YtmohbkniekeafaaGreatDoorRNS
import Derived.Test.YtmohbkniekeafaaGreatDoorRNodeUO
import Derived.BigGuard





namespace Go.Proofs.YtmohbkniekeafaaGreatDoor
open Go.ChangeShapes Go.WideShapes Go.ChangeAt Go.RowKit

set_option linter.unusedSimpArgs false
def zFs : Fs := ⟨0, false, 0⟩
theorem madeCells_sk (n : Nat) : (madeCells #[.int .u16 0, .bool false, .int .u32 0] (n * 3)).toList = fsFlat (List.replicate n zFs) := by
  apply List.ext_getElem?
  intro i
  have hl : (fsFlat (List.replicate n zFs)).length = n * 3 := by rw [fsFlat_len, List.length_replicate]
  have hm : (madeCells #[.int .u16 0, .bool false, .int .u32 0] (n * 3)).toList.length = n * 3 := by rw [Array.length_toList, size_madeCells]
  by_cases hi : i < n * 3
  · have hk : (List.replicate n zFs)[i / 3]? = some zFs := by rw [List.getElem?_replicate, if_pos (by omega)]
    obtain ⟨h0, h1, h2⟩ := fsFlat_at hk
    have e : (madeCells #[.int .u16 0, .bool false, .int .u32 0] (n * 3)).toList[i]? = some (#[Value.int .u16 0, .bool false, .int .u32 0][i % 3]!) := by
      unfold madeCells
      rw [Array.getElem?_toList, Array.getElem?_map, Array.getElem?_range, if_pos hi]
      rfl
    rw [e]
    have h3 : i % 3 = 0 ∨ i % 3 = 1 ∨ i % 3 = 2 := by omega
    rcases h3 with h3 | h3 | h3
    · rw [h3, show i = i / 3 * 3 by omega, h0]; rfl
    · rw [h3, show i = i / 3 * 3 + 1 by omega, h1]; rfl
    · rw [h3, show i = i / 3 * 3 + 2 by omega, h2]; rfl
  · rw [List.getElem?_eq_none (by omega), List.getElem?_eq_none (by omega)]
theorem skinfo : (Tryz.prog.info? 70).map (fun i => (i.zero, i.size, i.bytes)) = some (some (.agg #[.int .u16 0, .bool false, .int .u32 0]), 3, 8) := by kernel_rfl
theorem haveB_zero (inter : Bool) (m n : Nat) (hm : m = mostN inter n) (hn : n ≤ 65535) : haveB inter (List.replicate m zFs) = true := by
  have h1 : (List.replicate m zFs).any onlyB = false := by
    rw [List.any_eq_false]
    intro s hs
    rw [(List.mem_replicate.1 hs).2]
    decide
  unfold haveB
  rw [h1, List.length_replicate]
  have h2 : m ≤ mostN inter 65535 := by
    rw [hm]
    unfold mostN unitN
    have e : ¬ (65535 : Nat) < 8 := by omega
    cases inter
    · simp only [Bool.false_eq_true, if_false, e]
      split <;> omega
    · simp only [if_true, if_false, e]
      split <;> omega
  rw [decide_eq_true h2]
  cases inter <;> rfl
set_option maxRecDepth 100000 in
set_option maxHeartbeats 8000000 in
theorem fmost_law (inter : Bool) (n : UInt16) (w : World) (hh : Handle w) :
    Calls Tryz.prog 9 #[.bool inter, hv n] w fun e w' => e = .returned (.bool true) ∧ Below w.heap.size w w' := by
  have HW := Lib.hid (awake16_any w hh)
  have hnl := n.toNat_lt
  have HMO := Lib.hid (fun V => fmost_any inter n.toNat (by omega) V)
  obtain ⟨m, hm⟩ : ∃ m, mostN inter n.toNat = m := ⟨_, rfl⟩
  have hnw : IntKind.i64.wrap (n.toNat : Int) = (n.toNat : Int) := by rw [IntKind.wrap_i64]; omega
  rcases Nat.eq_zero_or_pos m with h0 | hpos
  · rw [hm, h0] at HMO
    have hlt : (n.toNat : Int) < 8 + ((unitN inter : Nat) : Int) := by
      rw [h0] at hm
      unfold mostN at hm
      unfold unitN at hm ⊢
      cases inter
      · simp only [Bool.false_eq_true, if_false] at hm ⊢
        split at hm <;> omega
      · simp only [if_true] at hm ⊢
        split at hm <;> omega
    clear hm h0
    cases inter
    all_goals
      simp only [unitN, Bool.false_eq_true, if_false, if_true] at hlt
      go_enter Tryz.func9, Tryz.ntmps9
      go_wp2_with fail
      refine HW.out.mono ?_
      rintro e w1 ⟨rfl, b1⟩
      go_wp2_with fail
      refine (HMO.out _).mono ?_
      rintro e w2 ⟨rfl, rfl⟩
      have hlt9 : (n.toNat : Int) < 8 + (4 : Int) ∨ (n.toNat : Int) < 8 + (8 : Int) := by omega
      clear hlt9
      go_wp2_with fail
      go_ret
      refine ⟨?_, b1⟩
      simp [hlt]
      (try omega)
  · have hmb : m ≤ 20000 ∧ 8 + unitN inter * m ≤ n.toNat ∧ n.toNat < 8 + unitN inter * m + unitN inter := by
      rw [← hm]
      rw [← hm] at hpos
      unfold mostN at hpos ⊢
      unfold unitN at hpos ⊢
      cases inter
      · simp only [Bool.false_eq_true, if_false] at hpos ⊢
        split at hpos <;> (try split) <;> omega
      · simp only [if_true] at hpos ⊢
        split at hpos <;> (try split) <;> omega
    have hHB := haveB_zero inter m n.toNat hm.symm (by omega)
    rw [hm] at HMO
    obtain ⟨d, hd⟩ : ∃ d, fB inter 1 (List.replicate m zFs) = d := ⟨_, rfl⟩
    have hdl : d.length = 4 + unitN inter * m := by rw [← hd, fB_len, List.length_replicate]
    obtain ⟨nd, hnd⟩ : ∃ nd, 4 + unitN inter * m = nd := ⟨_, rfl⟩
    have HMK : Hid (∀ (V : World) (A : Option Addr) (c : Nat), FsL V V.heap.size A c (List.replicate m zFs) → Calls Tryz.prog 22 #[.bool inter, .int .u32 1, .slice A m c] V fun e w' => Below V.heap.size V w' ∧ ∃ A' c', e = .returned (.tuple #[.agg #[bv (tyF inter), .int .u8 0, .slice A' nd c', .slice none 0 0], .bool true]) ∧ w'.ownsRow V.heap.size 5 1 (.slice A' nd c') nd (d.map bv)) := Lib.hid (fun V A c h => by
      have h9 := fmake_any inter 1 (List.replicate m zFs) A c V h (by rw [List.length_replicate]; omega)
      rw [List.length_replicate] at h9
      refine Calls.mono h9 fun e w' h => ?_
      unfold MkF at h
      rw [List.length_replicate, hnd, hd] at h
      obtain ⟨hb, ⟨_, A', c', he, ho⟩ | ⟨h1, _⟩⟩ := h
      · exact ⟨hb, A', c', he, ho⟩
      · rw [hHB] at h1; cases h1)
    have HSZ : Hid (∀ (V : World) (A : Option Addr) (c B : Nat), V.ownsRow B 5 1 (.slice A nd c) nd (d.map bv) → Calls Tryz.prog 39 #[.agg #[bv (tyF inter), .int .u8 0, .slice A nd c, .slice none 0 0]] V fun e w' => e = .returned (.int .i64 ((4 + nd : Nat) : Int)) ∧ Below V.heap.size V w') := Lib.hid (fun V A c B h => by
      have hc := own_cap h
      have hdn : d.length = nd := by rw [hdl, hnd]
      have h9 := csize_any ⟨tyF inter, 0, d, []⟩ ⟨by show d.length ≤ _; omega, Nat.zero_le _, fun k hk => by cases hk⟩ A c none 0 V ⟨Lies.own h, by show d.length ≤ _; rw [hdn]; exact hc.2.1, hc.2.2, Nodes.nil _ _ _, Nat.le_refl _, Nat.zero_le _⟩
      have hcs : csz ⟨tyF inter, 0, d, []⟩ = 4 + nd := by unfold csz; simp [sizes, lens, hdn]
      rw [hcs] at h9
      have h10 : Calls Tryz.prog 39 #[.agg #[bv (tyF inter), .int .u8 0, .slice A d.length c, .slice none 0 0]] V fun e w' => e = .returned (.int .i64 ((4 + nd : Nat) : Int)) ∧ Below V.heap.size V w' := h9
      rw [hdn] at h10
      exact h10)
    obtain ⟨i0, hi, hz0, hz1, hz2⟩ := info_parts skinfo
    have hm0 : ((m : Int) == 0) = false := by rw [beq_eq_false_iff_ne]; omega
    have hle : (4 : Int) + (nd : Int) ≤ (n.toNat : Int) := by omega
    have hgt4 : unitN inter = 4 → (n.toNat : Int) < 4 + (nd : Int) + 4 := by omega
    have hgt8 : unitN inter = 8 → (n.toNat : Int) < 4 + (nd : Int) + 8 := by omega
    have hnd2 : nd ≤ 70000 := by omega
    obtain ⟨hm2, hmb2, hmb3⟩ := hmb
    clear hm hHB hd hdl hnd hpos hmb2 hmb3
    generalize tyF inter = ty at *
    cases inter
    all_goals
      first
      | have hgt := hgt4 rfl
      | have hgt := hgt8 rfl
      clear hgt4 hgt8
      go_enter Tryz.func9, Tryz.ntmps9
      go_wp2_with fail
      refine HW.out.mono ?_
      rintro e w1 ⟨rfl, b1⟩
      go_wp2_with fail
      refine (HMO.out _).mono ?_
      rintro e w2 ⟨rfl, rfl⟩
      go_wp2_with (at_make; refine wpList_make_full _ rfl (.tmp 25) (.tmp 25) 47 rfl w1.heap.size 70 i0 _ 3 Tryz.underlying47 hi hz0 hz1 .i64 .i64 _ _ m rfl rfl rfl rfl (by rw [hz2]; omega) (by unfold maxLen; omega) (Nat.le_refl _) ?_; intro w3 hown hgrow)
      have b3 : Below w1.heap.size w1 w3 := (Below.refl _ w1).grown hgrow (Nat.le_refl _) (by simp)
      have hF : FsL w3 w3.heap.size (some ⟨w1.heap.size, 0, none⟩) m (List.replicate m zFs) := ⟨by
        have h := Lies.own hown
        simp only [Value.cells, madeCells_sk] at h
        exact h, by rw [List.length_replicate]; exact Nat.le_refl _, by unfold maxLen; omega⟩
      have HK3 := Lib.hid (HMK.out w3 _ m hF)
      have B3 := b1.trans (b3.mono b1.size)
      clear hown hgrow hF b3 b1 HMK HMO HW
      go_wp2_with fail
      refine HK3.out.mono ?_
      rintro e w4 ⟨b4, A4, c4, rfl, o4⟩
      have B4 := B3.trans (b4.mono B3.size)
      clear HK3 B3 b4
      go_upto_region 10 with fail
      have B5 := B4.alloc B4.size (.cells #[bv ty, .int .u8 0, .slice A4 nd c4, .slice none 0 0] 44)
      have x5 := Whole.new w4 44 #[bv ty, .int .u8 0, .slice A4 nd c4, .slice none 0 0]
      have o5 := o4.alloc (.cells #[bv ty, .int .u8 0, .slice A4 nd c4, .slice none 0 0] 44)
      generalize w4.alloc (.cells #[bv ty, .int .u8 0, .slice A4 nd c4, .slice none 0 0] 44) = w5 at *
      generalize w4.heap.size = g4 at *
      clear B4 o4
      have HS5 := Lib.hid (HSZ.out w5 A4 c4 _ o5)
      obtain ⟨q0, q1, q2, q3⟩ := wh4 x5
      have hsw : IntKind.i64.wrap ((4 + nd : Nat) : Int) = ((4 + nd : Nat) : Int) := by rw [IntKind.wrap_i64]; omega
      have hle' : ((4 + nd : Nat) : Int) ≤ (n.toNat : Int) := by omega
      go_wp2_with fail
      refine HS5.out.mono ?_
      rintro e w6 ⟨rfl, b6⟩
      have B6 := B5.trans (b6.mono B5.size)
      have x6 := x5.below b6 x5.lt
      have HS6 := Lib.hid (HSZ.out w6 A4 c4 _ (own_below' o5 b6))
      clear HS5 q0 q1 q2 q3 x5 o5 B5 b6
      obtain ⟨q0, q1, q2, q3⟩ := wh4 x6
      go_wp2_with fail
      refine HS6.out.mono ?_
      rintro e w7 ⟨rfl, b7⟩
      have hgt' : (n.toNat : Int) < ((4 + nd : Nat) : Int) + (if True then 4 else 0) ∨ (n.toNat : Int) < ((4 + nd : Nat) : Int) + 8 := by
        simp
        omega
      clear hgt'
      go_wp2_with fail
      go_ret
      exact ⟨rfl, B6.trans (b7.mono B6.size)⟩
set_option maxRecDepth 100000 in
theorem law_ForwardMost {H : Type} {enc : TypeId × Value → H} {W : World} {base : Nat} {v0 v1 : Value} {d0 d1 : DataW H} {p0 p1 : List MemPlace}
    (o0 : Value.okWide Tryz.prog W .any base 4 v0) (h0 : DataW.Trod enc Tryz.prog W 0 (fun _ => true) true 4 v0 d0 p0) (_s0 : Small Tryz.prog 4 d0)
    (o1 : Value.okWide Tryz.prog W .any base 37 v1) (h1 : DataW.Trod enc Tryz.prog W 0 (fun _ => true) true 37 v1 d1 p1) (_s1 : Small Tryz.prog 37 d1) (hL : laidMetH Tryz.prog laidL W) :
    Calls Tryz.prog 9 #[v0, v1] W fun e w' => e = .returned (.bool true) ∧ Below W.heap.size W w' := by
  obtain ⟨b, rfl⟩ := okWide_bool Tryz.underlying4 o0
  obtain ⟨t, rfl, _, _, wt⟩ := open_int Tryz.underlying37 o1 h1
  rw [hv_of' (wf_u16 wt)]
  exact fmost_law b _ W (handle_of_laid hL)
end Go.Proofs.YtmohbkniekeafaaGreatDoor


