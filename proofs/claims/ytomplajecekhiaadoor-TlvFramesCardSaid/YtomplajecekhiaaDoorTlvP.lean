/- Layer 6: the law TlvFrames. -/
import Derived.Test.YtomplajecekhiaaDoorTlvL
import Derived.Test.YtomplajecekhiaaDoorTlvO
namespace Go.Proofs.YtomplajecekhiaaDoor
open Go.ChangeShapes Go.WideShapes Go.ChangeAt Go.RowKit

theorem frames1 {w : World} (t1 : UInt16) (v1 : Value) (l1 : List UInt8) (T : TypeId) (h1 : IsB w w.heap.size v1 l1) :
    Frames (w.alloc (.cells #[hv t1, v1] T)) (w.alloc (.cells #[hv t1, v1] T)).heap.size (some ⟨w.heap.size, 0, none⟩) [hv t1, v1] [⟨t1, l1⟩] := by
  have hb : Below w.heap.size w (w.alloc (.cells #[hv t1, v1] T)) := (Below.refl _ w).alloc (Nat.le_refl _) _
  refine ⟨(Lies.newN w [hv t1, v1] _).more (by simp), rfl, fun i f hf => ?_⟩
  match i, hf with
  | 0, hf => simp only [List.getElem?_cons_zero, Option.some.injEq] at hf; subst hf; exact ⟨v1, rfl, rfl, h1.on hb⟩
  | i + 1, hf => simp at hf
theorem jn_one (f : Fr) : jn [f] = frB f := by
  show padB [] ++ frB f = frB f
  rfl
theorem sizes_one (k : Nat) : sizes [4 + k] = 4 + k := by simp [sizes, up, gap]
theorem sizes_two (k : Nat) : sizes [4 + k, 4 + k] = 2 * (k + 4) + gap k := by simp [sizes, up, gap]; omega

theorem size_one (t : UInt16) (A : Option Addr) (c : Nat) (l : List UInt8) (w : World) (h : Lies w w.heap.size A (l.map bv)) (hc : l.length ≤ c) (hm : c ≤ maxLen) (hl : l.length ≤ 900000) :
    Calls Tryd.prog 17 #[.slice (some ⟨w.heap.size, 0, none⟩) 1 1] (w.alloc (.cells #[hv t, .slice A l.length c] 48)) fun e w' => e = .returned (.int .i64 ((4 + l.length : Nat) : Int)) ∧ Below w.heap.size w w' := by
  have hF := frames1 t (.slice A l.length c) l 48 ⟨A, c, rfl, h, hc, hm⟩
  have h1 := tsize_any _ 1 _ _ _ hF (by simp) (fun i f hf => by
    have := List.mem_of_getElem? hf
    rw [List.mem_singleton.1 this]
    exact hl)
  refine h1.mono ?_
  rintro e w1 ⟨rfl, b1⟩
  refine ⟨?_, ((Below.refl _ w).alloc (Nat.le_refl _) _).trans (b1.mono (by simp))⟩
  have e1 : sizes ([(⟨t, l⟩ : Fr)].map frL) = 4 + l.length := sizes_one _
  rw [e1]
theorem size_two (t : UInt16) (A : Option Addr) (c : Nat) (l : List UInt8) (w : World) (h : Lies w w.heap.size A (l.map bv)) (hc : l.length ≤ c) (hm : c ≤ maxLen) (hl : l.length ≤ 900000) :
    Calls Tryd.prog 17 #[.slice (some ⟨w.heap.size, 0, none⟩) 2 2] (w.alloc (.cells #[hv t, .slice A l.length c, hv t, .slice A l.length c] 48)) fun e w' => e = .returned (.int .i64 ((2 * (l.length + 4) + gap l.length : Nat) : Int)) ∧ Below w.heap.size w w' := by
  have hF := frames2 t t (.slice A l.length c) (.slice A l.length c) l l ⟨A, c, rfl, h, hc, hm⟩ ⟨A, c, rfl, h, hc, hm⟩
  have h1 := tsize_any _ 2 _ _ _ hF (by simp) (fun i f hf => by
    have := List.mem_of_getElem? hf
    rcases List.mem_cons.1 this with rfl | h2
    · exact hl
    · rw [List.mem_singleton.1 h2]; exact hl)
  refine h1.mono ?_
  rintro e w1 ⟨rfl, b1⟩
  refine ⟨?_, ((Below.refl _ w).alloc (Nat.le_refl _) _).trans (b1.mono (by simp))⟩
  have e1 : sizes ([(⟨t, l⟩ : Fr), ⟨t, l⟩].map frL) = 2 * (l.length + 4) + gap l.length := sizes_two _
  rw [e1]
theorem rjoin_one (t : UInt16) (A : Option Addr) (c : Nat) (l : List UInt8) (w : World) (h : Lies w w.heap.size A (l.map bv)) (hc : l.length ≤ c) (hm : c ≤ maxLen) (hl : l.length ≤ 65531) :
    Calls Tryd.prog 16 #[.slice (some ⟨w.heap.size, 0, none⟩) 1 1] (w.alloc (.cells #[hv t, .slice A l.length c] 51)) fun e w' => (∃ A' c', e = .returned (.tuple #[.slice A' (4 + l.length) c', .bool true]) ∧
      Lies w' w'.heap.size A' ((frB ⟨t, l⟩).map bv)) ∧ Below w.heap.size w w' := by
  have hF := frames1 t (.slice A l.length c) l 51 ⟨A, c, rfl, h, hc, hm⟩
  have h1 := rjoin6_any _ 1 _ _ _ hF (by simp) (fun f hf => by rw [List.mem_singleton.1 hf]; show l.length ≤ _; omega)
  refine Calls.mono (R := JoinR (w.alloc (.cells #[hv t, .slice A l.length c] 51)) [⟨t, l⟩]) h1 ?_
  rintro e w1 ⟨b1, ⟨_, A1, c1, rfl, own1⟩ | ⟨⟨q, hq, hbad⟩, _⟩⟩
  · rw [jn_one, frB_len] at own1 ⊢
    exact ⟨⟨A1, c1, rfl, Lies.own own1⟩, ((Below.refl _ w).alloc (Nat.le_refl _) _).trans (b1.mono (by simp))⟩
  · rw [List.mem_singleton.1 hq] at hbad
    exact absurd hl hbad

set_option maxRecDepth 100000 in
set_option maxHeartbeats 8000000 in
theorem tframes_any (t u : UInt16) (n : Nat) (hn : n < 4294967296) (A A' : Option Addr) (c c' : Nat) (a b : List UInt8) (w : World) (ha : Lies w w.heap.size A (a.map bv)) (hb : Lies w w.heap.size A' (b.map bv))
    (hac : a.length ≤ c) (hcm : c ≤ maxLen) (hbc : b.length ≤ c') (hcm' : c' ≤ maxLen) (hh : Handle w) :
    Calls Tryd.prog 5 #[hv t, .int .u32 (n : Int), hv u, .slice A a.length c, .slice A' b.length c'] w fun e w' => e = .returned (.bool true) ∧ Below w.heap.size w w' := by
  by_cases hbig : 300 < a.length ∨ 300 < b.length
  · rcases Nat.lt_or_ge 300 a.length with h1 | h1
    · have h1' : (300 : Int) < (a.length : Int) := by omega
      have hal : (a.length : Int) ≤ 9223372036854775807 := by unfold maxLen at hcm; omega
      go_enter Tryd.func5, Tryd.ntmps5
      go_wp2_with fail
      refine (awake_any w hh).mono ?_
      rintro e w1 ⟨rfl, b1⟩
      go_wp2_with fail
      refine (awake_any w1 (hh.below b1 hh.lt)).mono ?_
      rintro e w2 ⟨rfl, b2⟩
      go_wp2_with fail
      go_ret
      exact ⟨rfl, b1.trans (b2.mono b1.size)⟩
    · have h1' : (a.length : Int) ≤ 300 := by omega
      have h2' : (300 : Int) < (b.length : Int) := by omega
      have hal : (b.length : Int) ≤ 9223372036854775807 := by unfold maxLen at hcm'; omega
      go_enter Tryd.func5, Tryd.ntmps5
      go_wp2_with fail
      refine (awake_any w hh).mono ?_
      rintro e w1 ⟨rfl, b1⟩
      go_wp2_with fail
      refine (awake_any w1 (hh.below b1 hh.lt)).mono ?_
      rintro e w2 ⟨rfl, b2⟩
      go_wp2_with fail
      go_ret
      exact ⟨rfl, b1.trans (b2.mono b1.size)⟩
  · have h1 : ((a.length : Nat) : Int) ≤ 300 := by omega
    have h2 : ((b.length : Nat) : Int) ≤ 300 := by omega
    obtain ⟨i0, hi, hz0, hz1, hz2⟩ := info_parts u8info
    obtain ⟨k, hk⟩ : ∃ k, k = 65500 + n % 70 := ⟨_, rfl⟩
    have hK : (65500 + (n : Int) % 70) = (k : Int) := by omega
    have hk1 : 65500 ≤ k := by omega
    have hk2 : k < 65570 := by omega
    clear hk
    go_enter Tryd.func5, Tryd.ntmps5
    go_wp2_with fail
    refine (awake_any w hh).mono ?_
    rintro e w1 ⟨rfl, b1⟩
    go_wp2_with (at_make; refine wpList_make_full _ rfl (.tmp 37) (.tmp 37) 22 rfl w1.heap.size 5 i0 _ 1 Tryd.underlying22 hi hz0 hz1 .i64 .i64 _ _ k rfl rfl (by first | rfl | exact hK) (by first | rfl | exact hK) (by rw [hz2]; omega) (by unfold maxLen; omega) (Nat.le_refl _) ?_; intro w2 hown hgrow)
    have L2 : Lies w2 w2.heap.size (some ⟨w1.heap.size, 0, none⟩) ((List.replicate k (0 : UInt8)).map bv) := by
      have h5 := Lies.own hown
      have e5 : (List.replicate k (0 : UInt8)).map bv = (madeCells (Value.int .u8 0).cells (k * 1)).toList := by
        simp only [Value.cells, toList_madeCells_one, List.map_replicate, Nat.mul_one]
        rfl
      rw [e5]
      exact h5
    have hzl : (List.replicate k (0 : UInt8)).length = k := List.length_replicate
    have b12 : Below w1.heap.size w1 w2 := (Below.refl _ w1).grown hgrow (Nat.le_refl _) (fun q e => by cases e)
    clear hown hgrow
    generalize List.replicate k (0 : UInt8) = zs at *
    have hB2 := b1.trans (b12.mono b1.size)
    have hbx := Whole.new w2 48 #[hv t, .slice (some ⟨w1.heap.size, 0, none⟩) k k]
    have b23 : Below w2.heap.size w2 (w2.alloc (.cells #[hv t, .slice (some ⟨w1.heap.size, 0, none⟩) k k] 48)) := (Below.refl _ w2).alloc (Nat.le_refl _) _
    have L3 := (L2.below b23).more b23.size
    -- what follows the first test
    by_cases hfit : k ≤ 65531
    · have h3 : (k : Int) ≤ 65531 := by omega
      have hP := tput_any t _ k zs _ L3 (by omega) (by unfold maxLen; omega) (by omega)
      rw [hzl] at hP
      refine hP.mono ?_
      rintro e w3 ⟨A3, c3, rfl, own3, b3⟩
      have b33 := b23.trans (b3.mono b23.size)
      have hbx3 := hbx.below b3 (by simp)
      have g0 : w3.cell? ⟨w2.heap.size, 0, none⟩ = some (hv t) := by rw [hbx3.cell]; rfl
      have g1 : w3.cell? ⟨w2.heap.size, 1, none⟩ = some (.slice (some ⟨w1.heap.size, 0, none⟩) k k) := by rw [hbx3.cell]; rfl
      have L4 := (L2.below b33).more b33.size
      have hS := size_one t _ k zs w3 L4 (by omega) (by unfold maxLen; omega) (by omega)
      rw [hzl] at hS
      go_wp2_with fail
      refine hS.mono ?_
      rintro e w4 ⟨rfl, b4⟩
      have b34 := b33.trans (b4.mono b33.size)
      have hbx4 := hbx3.below b4 hbx3.lt
      have g2 : w4.cell? ⟨w2.heap.size, 0, none⟩ = some (hv t) := by rw [hbx4.cell]; rfl
      have g3 : w4.cell? ⟨w2.heap.size, 1, none⟩ = some (.slice (some ⟨w1.heap.size, 0, none⟩) k k) := by rw [hbx4.cell]; rfl
      have hS2 := size_two t _ k zs w4 ((L2.below b34).more b34.size) (by omega) (by unfold maxLen; omega) (by omega)
      rw [hzl] at hS2
      go_wp2_with fail
      refine hS2.mono ?_
      rintro e w5 ⟨rfl, b5⟩
      have hgp := gap_lt k
      have hG := fun W => rgap_any k (by omega) W
      generalize gap k = gk at *
      go_wp2_with fail
      refine (hG _).mono ?_
      rintro e w6 ⟨rfl, rfl⟩
      have hB5 : Below w.heap.size w w5 := hB2.trans ((b34.trans (b5.mono b34.size)).mono hB2.size)
      clear hS2 L2 L3 L4 hbx hbx3 hbx4 g0 g1 g2 g3
      have La5 := (ha.below hB5).more hB5.size
      have hP5 := tput_any t A c a w5 La5 hac hcm (by omega)
      go_wp2_with fail
      refine hP5.mono ?_
      rintro e w7 ⟨A7, c7, rfl, own7, b7⟩
      have hB7 := hB5.trans (b7.mono hB5.size)
      have La7 := (ha.below hB7).more hB7.size
      have hR7 := rjoin_one t A c a w7 La7 hac hcm (by omega)
      have L7 := Lies.own own7
      clear own7 hP5
      go_wp2_with fail
      refine hR7.mono ?_
      rintro e w8 ⟨⟨A8, c8, rfl, L8⟩, b8⟩
      have hB8 := hB7.trans (b8.mono hB7.size)
      have hfl : (frB ⟨t, a⟩).length = 4 + a.length := frB_len _
      have hSm := same_any A7 A8 c7 c8 w8.heap.size (frB ⟨t, a⟩) (frB ⟨t, a⟩) w8 ((L7.below b8).more b8.size) L8 (by rw [hfl]; unfold maxLen; omega)
      rw [hfl, decide_eq_true rfl] at hSm
      clear hR7
      go_wp2_with fail
      refine hSm.mono ?_
      rintro e w9 ⟨rfl, q, rfl⟩
      have hB9 : Below w.heap.size w (w8.drewN q) := below_drewN hB8 q
      have La9 := ha.below hB9
      have Lb9 := hb.below hB9
      have hTS := tsame_any t u A A' c c' w.heap.size w.heap.size a b (w8.drewN q) La9 Lb9 hB9.size hB9.size
      clear hSm
      generalize w8.drewN q = w9 at *
      by_cases htu : t = u
      · subst htu
        have hq : ((t.toNat : Int) == (t.toNat : Int)) = true := by simp
        rw [decide_eq_true rfl, Bool.true_and] at hTS
        have hSab := fun W (hW : Below w9.heap.size w9 W) => same_any A A' c c' w.heap.size a b W (La9.below (hW.mono hB9.size)) (Lb9.below (hW.mono hB9.size)) (by unfold maxLen; omega)
        generalize decide (a = b) = dab at *
        cases dab
        · go_wp2_with fail
          refine hTS.mono ?_
          rintro e w10 ⟨rfl, b10⟩
          go_wp2_with fail
          refine (hSab _ b10).mono ?_
          rintro e w11 ⟨rfl, q2, rfl⟩
          go_wp2_with fail
          go_ret
          exact ⟨rfl, below_drewN (hB9.trans (b10.mono hB9.size)) q2⟩
        · go_wp2_with fail
          refine hTS.mono ?_
          rintro e w10 ⟨rfl, b10⟩
          go_wp2_with fail
          refine (hSab _ b10).mono ?_
          rintro e w11 ⟨rfl, q2, rfl⟩
          go_wp2_with fail
          go_ret
          exact ⟨rfl, below_drewN (hB9.trans (b10.mono hB9.size)) q2⟩
      · have hq : ((t.toNat : Int) == (u.toNat : Int)) = false := by
          rw [beq_eq_false_iff_ne]
          intro h
          exact htu (UInt16.toNat_inj.1 (by omega))
        rw [decide_eq_false htu, Bool.false_and] at hTS
        clear htu
        go_wp2_with fail
        refine hTS.mono ?_
        rintro e w10 ⟨rfl, b10⟩
        go_wp2_with fail
        go_ret
        exact ⟨rfl, hB9.trans (b10.mono hB9.size)⟩
    · have h3 : (65531 : Int) < (k : Int) := by omega
      refine (tput_no _ _ k _ _ (by omega) (by unfold maxLen; omega)).mono ?_
      rintro e w3 ⟨rfl, b3⟩
      have b33 := b23.trans (b3.mono b23.size)
      have hbx3 := hbx.below b3 (by simp)
      have g0 : w3.cell? ⟨w2.heap.size, 0, none⟩ = some (hv t) := by rw [hbx3.cell]; rfl
      have g1 : w3.cell? ⟨w2.heap.size, 1, none⟩ = some (.slice (some ⟨w1.heap.size, 0, none⟩) k k) := by rw [hbx3.cell]; rfl
      have L4 := (L2.below b33).more b33.size
      have hS := size_one t _ k zs w3 L4 (by omega) (by unfold maxLen; omega) (by omega)
      rw [hzl] at hS
      go_wp2_with fail
      refine hS.mono ?_
      rintro e w4 ⟨rfl, b4⟩
      have b34 := b33.trans (b4.mono b33.size)
      have hbx4 := hbx3.below b4 hbx3.lt
      have g2 : w4.cell? ⟨w2.heap.size, 0, none⟩ = some (hv t) := by rw [hbx4.cell]; rfl
      have g3 : w4.cell? ⟨w2.heap.size, 1, none⟩ = some (.slice (some ⟨w1.heap.size, 0, none⟩) k k) := by rw [hbx4.cell]; rfl
      have hS2 := size_two t _ k zs w4 ((L2.below b34).more b34.size) (by omega) (by unfold maxLen; omega) (by omega)
      rw [hzl] at hS2
      go_wp2_with fail
      refine hS2.mono ?_
      rintro e w5 ⟨rfl, b5⟩
      have hgp := gap_lt k
      have hG := fun W => rgap_any k (by omega) W
      generalize gap k = gk at *
      go_wp2_with fail
      refine (hG _).mono ?_
      rintro e w6 ⟨rfl, rfl⟩
      have hB5 : Below w.heap.size w w5 := hB2.trans ((b34.trans (b5.mono b34.size)).mono hB2.size)
      clear hS2 L2 L3 L4 hbx hbx3 hbx4 g0 g1 g2 g3
      have La5 := (ha.below hB5).more hB5.size
      have hP5 := tput_any t A c a w5 La5 hac hcm (by omega)
      go_wp2_with fail
      refine hP5.mono ?_
      rintro e w7 ⟨A7, c7, rfl, own7, b7⟩
      have hB7 := hB5.trans (b7.mono hB5.size)
      have La7 := (ha.below hB7).more hB7.size
      have hR7 := rjoin_one t A c a w7 La7 hac hcm (by omega)
      have L7 := Lies.own own7
      clear own7 hP5
      go_wp2_with fail
      refine hR7.mono ?_
      rintro e w8 ⟨⟨A8, c8, rfl, L8⟩, b8⟩
      have hB8 := hB7.trans (b8.mono hB7.size)
      have hfl : (frB ⟨t, a⟩).length = 4 + a.length := frB_len _
      have hSm := same_any A7 A8 c7 c8 w8.heap.size (frB ⟨t, a⟩) (frB ⟨t, a⟩) w8 ((L7.below b8).more b8.size) L8 (by rw [hfl]; unfold maxLen; omega)
      rw [hfl, decide_eq_true rfl] at hSm
      clear hR7
      go_wp2_with fail
      refine hSm.mono ?_
      rintro e w9 ⟨rfl, q, rfl⟩
      have hB9 : Below w.heap.size w (w8.drewN q) := below_drewN hB8 q
      have La9 := ha.below hB9
      have Lb9 := hb.below hB9
      have hTS := tsame_any t u A A' c c' w.heap.size w.heap.size a b (w8.drewN q) La9 Lb9 hB9.size hB9.size
      clear hSm
      generalize w8.drewN q = w9 at *
      by_cases htu : t = u
      · subst htu
        have hq : ((t.toNat : Int) == (t.toNat : Int)) = true := by simp
        rw [decide_eq_true rfl, Bool.true_and] at hTS
        have hSab := fun W (hW : Below w9.heap.size w9 W) => same_any A A' c c' w.heap.size a b W (La9.below (hW.mono hB9.size)) (Lb9.below (hW.mono hB9.size)) (by unfold maxLen; omega)
        generalize decide (a = b) = dab at *
        cases dab
        · go_wp2_with fail
          refine hTS.mono ?_
          rintro e w10 ⟨rfl, b10⟩
          go_wp2_with fail
          refine (hSab _ b10).mono ?_
          rintro e w11 ⟨rfl, q2, rfl⟩
          go_wp2_with fail
          go_ret
          exact ⟨rfl, below_drewN (hB9.trans (b10.mono hB9.size)) q2⟩
        · go_wp2_with fail
          refine hTS.mono ?_
          rintro e w10 ⟨rfl, b10⟩
          go_wp2_with fail
          refine (hSab _ b10).mono ?_
          rintro e w11 ⟨rfl, q2, rfl⟩
          go_wp2_with fail
          go_ret
          exact ⟨rfl, below_drewN (hB9.trans (b10.mono hB9.size)) q2⟩
      · have hq : ((t.toNat : Int) == (u.toNat : Int)) = false := by
          rw [beq_eq_false_iff_ne]
          intro h
          exact htu (UInt16.toNat_inj.1 (by omega))
        rw [decide_eq_false htu, Bool.false_and] at hTS
        clear htu
        go_wp2_with fail
        refine hTS.mono ?_
        rintro e w10 ⟨rfl, b10⟩
        go_wp2_with fail
        go_ret
        exact ⟨rfl, hB9.trans (b10.mono hB9.size)⟩
end Go.Proofs.YtomplajecekhiaaDoor
