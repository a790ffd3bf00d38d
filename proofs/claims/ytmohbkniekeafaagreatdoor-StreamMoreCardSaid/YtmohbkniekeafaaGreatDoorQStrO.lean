/- Layer 17: the law StreamMore. It writes nothing that was there. -/
import Derived.Test.YtmohbkniekeafaaGreatDoorQStrL
import Derived.Test.YtmohbkniekeafaaGreatDoorQSTP
import Derived.BigGuard
import Derived.Deep.RegionHeld3




namespace Go.Proofs.YtmohbkniekeafaaGreatDoor
open Go.ChangeShapes Go.WideShapes Go.ChangeAt Go.RowKit

set_option linter.unusedSimpArgs false
theorem morN_v (t : UInt16) (a : UInt32) (n : UInt16) : puts 4 [a] ++ puts 2 (wid [n, 0]) = (morN t a n).v := rfl
theorem morN_len (t : UInt16) (a : UInt32) (n : UInt16) : (morN t a n).v.length = 8 := by
  show (puts 4 [a] ++ puts 2 [u32of n.toNat, 0]).length = _
  rw [List.length_append, puts_len, puts_len]
  rfl
set_option maxRecDepth 100000 in
set_option maxHeartbeats 16000000 in
theorem more_law (t : UInt16) (a : UInt32) (n : UInt16) (w : World) (hh : Handle w) :
    Calls Tryz.prog 14 #[hv t, uv a, hv n] w fun e w' => e = .returned (.bool true) ∧ Below w.heap.size w w' := by
  have HW := Lib.hid (awake17_any w hh)
  by_cases ht : t = 17 ∨ t = 18
  · have hD : ((t.toNat : Int) != 17) = false ∨ (((t.toNat : Int) != 17) = true ∧ ((t.toNat : Int) != 18) = false) := by
      rcases ht with rfl | rfl
      · exact .inl rfl
      · exact .inr ⟨rfl, rfl⟩
    have HMK : Hid (∀ V : World, Calls Tryz.prog 57 #[hv t, uv a, hv n] V fun e w' => Below V.heap.size V w' ∧ ∃ A' c', e = .returned (.tuple #[.agg #[hv t, .slice A' 8 c', .slice none 0 0], .bool true]) ∧ w'.ownsRow V.heap.size 5 1 (.slice A' 8 c') 8 ((morN t a n).v.map bv)) := Lib.hid (fun V => more17_yes t a n ht V)
    have hlen := morN_len t a n
    have hseq := morN_seq ht a n
    have hsv : seqV (morN t a n) = a := by unfold seqV; rw [if_pos hseq]; exact seqN_mor t a n
    have hstr := morN_str ht a n
    have hfi : Fine (morN t a n) := fine17 t _ (by
      have h := hlen
      show (puts 4 [a] ++ puts 2 [u32of n.toNat, 0]).length ≤ _
      change (puts 4 [a] ++ puts 2 [u32of n.toNat, 0]).length = 8 at h
      omega)
    have HSQ : Hid (∀ (V : World) (A' : Option Addr) (c' B : Nat), V.ownsRow B 5 1 (.slice A' 8 c') 8 ((morN t a n).v.map bv) → Calls Tryz.prog 49 #[.agg #[hv t, .slice A' 8 c', .slice none 0 0]] V fun e w' => e = .returned (.tuple #[uv a, .bool true]) ∧ Below V.heap.size V w') := Lib.hid (fun V A' c' B ho => by
      have h9 := seq17_any (morN t a n) hfi A' c' none 0 V (node17 ho)
      rw [hsv, hseq] at h9
      unfold ndV at h9
      rw [hlen] at h9
      exact h9)
    have HST : Hid (∀ (V : World) (A' : Option Addr) (c' B : Nat), V.ownsRow B 5 1 (.slice A' 8 c') 8 ((morN t a n).v.map bv) → Calls Tryz.prog 52 #[.agg #[hv t, .slice A' 8 c', .slice none 0 0]] V fun e w' => ∃ A2 c2, e = .returned (.slice A2 0 c2) ∧ Below V.heap.size V w') := Lib.hid (fun V A' c' B ho => by
      have h9 := streams17_any (morN t a n) hfi A' c' none 0 V (node17 ho)
      rw [hstr] at h9
      unfold ndV at h9
      rw [hlen] at h9
      exact Calls.mono h9 fun e w' h => by
        obtain ⟨A2, c2, he, _, hb⟩ := h
        exact ⟨A2, c2, he, hb⟩)
    have HSM : Hid (∀ (V : World) (A' : Option Addr) (c' B : Nat) (A2 : Option Addr) (c2 B2 : Nat), V.ownsRow B 5 1 (.slice A' 8 c') 8 ((morN t a n).v.map bv) → V.ownsRow B2 5 1 (.slice A2 8 c2) 8 ((morN t a n).v.map bv) → Calls Tryz.prog 46 #[.agg #[hv t, .slice A' 8 c', .slice none 0 0], .agg #[hv t, .slice A2 8 c2, .slice none 0 0]] V fun e w' => e = .returned (.bool true) ∧ Below V.heap.size V w') := Lib.hid (fun V A' c' B A2 c2 B2 ho ho2 => by
      have h9 := same17_any (morN t a n) (morN t a n) A' c' none 0 A2 c2 none 0 V (node17 ho) (node17 ho2)
      rw [beq_self17] at h9
      unfold ndV at h9
      rw [hlen] at h9
      exact h9)
    have HBU : Hid (∀ (V : World) (Al As : Option Addr), Lies V V.heap.size Al [uv a] → Lies V V.heap.size As [hv n, hv 0] → Calls Tryz.prog 45 #[hv t, .slice Al 1 1, .slice As 2 2] V fun e w' => Below V.heap.size V w' ∧ ∃ A' c', e = .returned (.agg #[hv t, .slice A' 8 c', .slice none 0 0]) ∧ w'.ownsRow V.heap.size 5 1 (.slice A' 8 c') 8 ((morN t a n).v.map bv)) := Lib.hid (fun V Al As h1 h2 => rbuild17_any t [a] [n, 0] Al 1 As 2 V h1 h2 (by simp) (by simp))
    clear hlen hseq hsv hstr hfi hh
    generalize (morN t a n).v = mv at *
    rcases hD with hD | ⟨hD, hD'⟩
    all_goals
      go_enter Tryz.func14, Tryz.ntmps14
      go_wp2_with fail
      refine HW.out.mono ?_
      rintro e w1 ⟨rfl, b1⟩
      have HM1 := Lib.hid (HMK.out w1)
      clear ht
      go_upto_region 3 with fail
      go_wp2_with fail
      refine HM1.out.mono ?_
      rintro e w2 ⟨b2, A2, c2, rfl, o2⟩
      have B2 := b1.trans (b2.mono b1.size)
      clear HM1 b1 b2
      go_upto_region 4 with fail
      have B3 := B2.alloc B2.size (.cells #[hv t, .slice A2 8 c2, .slice none 0 0] 76)
      have x3 := Whole.new w2 76 #[hv t, .slice A2 8 c2, .slice none 0 0]
      have o3 := o2.alloc (.cells #[hv t, .slice A2 8 c2, .slice none 0 0] 76)
      generalize w2.alloc (.cells #[hv t, .slice A2 8 c2, .slice none 0 0] 76) = w3 at *
      generalize w2.heap.size = g2 at *
      clear B2 o2
      go_upto_region 6 with fail
      clear hD
      (try clear hD')
      obtain ⟨q0, q1, q2⟩ := wh317 x3
      have HQ3 := Lib.hid (HSQ.out w3 A2 c2 _ o3)
      go_wp2_with fail
      refine HQ3.out.mono ?_
      rintro e w5 ⟨rfl, b5⟩
      have B5 := Lib.hid (B3.trans (b5.mono B3.size))
      have x5 := x3.below b5 x3.lt
      have o5 := Lib.hid (own_below' o3 b5)
      clear HQ3 HSQ q0 q1 q2 x3 o3 B3 b5
      have KS : Hid (∀ V, Below w5.heap.size w5 V → V.cell? ⟨g2, 0, none⟩ = some (hv t) ∧ V.cell? ⟨g2, 1, none⟩ = some (.slice A2 8 c2) ∧ V.cell? ⟨g2, 2, none⟩ = some (.slice none 0 0)) := Lib.hid (fun V hV => wh317 (x5.below hV x5.lt))
      have vA : Below w5.heap.size w5 ((w5.alloc (.cells #[uv a] 22)).alloc (.cells #[hv n, .int .u16 0] 37)).drew := below_drew (((Below.refl _ _).alloc (Nat.le_refl _) _).alloc (by simp) _)
      have vB : Below w5.heap.size w5 ((w5.alloc (.cells #[hv n, .int .u16 0] 37)).alloc (.cells #[uv a] 22)).drew := below_drew (((Below.refl _ _).alloc (Nat.le_refl _) _).alloc (by simp) _)
      have HA := Lib.hid (HBU.out ((w5.alloc (.cells #[uv a] 22)).alloc (.cells #[hv n, .int .u16 0] 37)).drew (some ⟨w5.heap.size, 0, none⟩) (some ⟨w5.heap.size + 1, 0, none⟩)
        (((Lies.newN w5 [uv a] 22).alloc (by simp) (.cells #[hv n, .int .u16 0] 37)).more (by show _ ≤ (World.alloc _ _).heap.size; simp))
        (by
          have h := Lies.newN (w5.alloc (.cells #[uv a] 22)) [hv n, hv 0] 37
          rw [World.size_alloc] at h
          exact h.more (by show _ ≤ (World.alloc _ _).heap.size; simp)))
      have HB := Lib.hid (HBU.out ((w5.alloc (.cells #[hv n, .int .u16 0] 37)).alloc (.cells #[uv a] 22)).drew (some ⟨w5.heap.size + 1, 0, none⟩) (some ⟨w5.heap.size, 0, none⟩)
        (by
          have h := Lies.newN (w5.alloc (.cells #[hv n, .int .u16 0] 37)) [uv a] 22
          rw [World.size_alloc] at h
          exact h.more (by show _ ≤ (World.alloc _ _).heap.size; simp))
        (((Lies.newN w5 [hv n, hv 0] 37).alloc (by simp) (.cells #[uv a] 22)).more (by show _ ≤ (World.alloc _ _).heap.size; simp)))
      have VA := Lib.hid vA
      have VB := Lib.hid vB
      have e1 : ((a.toNat : Int) == (a.toNat : Int)) = true := by simp
      clear x5 vA vB HBU HMK HW
      go_upto_region 7 with fail
      go_region_held3 (fun V => V.cell? ⟨g2, 0, none⟩ = some (hv t) ∧ V.cell? ⟨g2, 1, none⟩ = some (.slice A2 8 c2) ∧ V.cell? ⟨g2, 2, none⟩ = some (.slice none 0 0))
        (first | exact KS.out _ R8 | exact KS.out _ R7 | exact KS.out _ R6 | exact KS.out _ (below_drew (Below.refl _ _)) | exact KS.out _ (below_drew ((Below.refl _ _).alloc (Nat.le_refl _) _)) | exact KS.out _ VA.out | exact KS.out _ VB.out | fail)
        (first
        | (go_at_call 45; first
          | ((with_reducible refine HA.out.mono ?_); rintro e w6 ⟨b6, A6, c6, rfl, o6⟩; have R6 : Below w5.heap.size w5 w6 := VA.out.trans (b6.mono VA.out.size))
          | ((with_reducible refine HB.out.mono ?_); rintro e w6 ⟨b6, A6, c6, rfl, o6⟩; have R6 : Below w5.heap.size w5 w6 := VB.out.trans (b6.mono VB.out.size)))
        | (go_at_call 46; (with_reducible refine (HSM.out w6 A2 c2 _ A6 c6 _ (own_below' o5.out R6) o6).mono ?_); rintro e w7 ⟨rfl, b7⟩; have R7 : Below w5.heap.size w5 w7 := R6.trans (b7.mono R6.size))
        | (go_at_call 52; (with_reducible refine (HST.out w7 A2 c2 _ (own_below' o5.out R7)).mono ?_); rintro e w8 ⟨A8, c8, rfl, b8⟩; have R8 : Below w5.heap.size w5 w8 := R7.trans (b8.mono R7.size))
        | fail)
      all_goals
        go_wp2_with fail
        go_ret
        exact ⟨rfl, B5.out.trans (R8.mono B5.out.size)⟩
  · have h1 : ¬ t = 17 := fun h => ht (.inl h)
    have h2 : ¬ t = 18 := fun h => ht (.inr h)
    have HMK := Lib.hid (fun V : World => more17_no t a n h1 h2 V)
    have e1 : ((t.toNat : Int) != 17) = true := u16_ne h1
    have e2 : ((t.toNat : Int) != 18) = true := u16_ne h2
    have HSM : Hid (∀ V : World, Calls Tryz.prog 46 #[.agg #[.int .u16 0, .slice none 0 0, .slice none 0 0], .agg #[.int .u16 0, .slice none 0 0, .slice none 0 0]] V fun e w' => e = .returned (.bool true) ∧ Below V.heap.size V w') := Lib.hid (fun V => by
      have h9 := same17_any (.mk 0 [] []) (.mk 0 [] []) none 0 none 0 none 0 none 0 V (zN17 V) (zN17 V)
      rw [beq_self17] at h9
      exact h9)
    clear h1 h2 ht hh
    go_enter Tryz.func14, Tryz.ntmps14
    go_wp2_with fail
    refine HW.out.mono ?_
    rintro e w1 ⟨rfl, b1⟩
    have HM1 := Lib.hid (HMK.out w1)
    go_upto_region 3 with fail
    go_wp2_with fail
    refine HM1.out.mono ?_
    rintro e w2 ⟨b2, rfl⟩
    have B2 := b1.trans (b2.mono b1.size)
    clear HM1 b1 b2
    go_upto_region 4 with fail
    have B3 := B2.alloc B2.size (.cells #[.int .u16 0, .slice none 0 0, .slice none 0 0] 76)
    have x3 := Whole.new w2 76 #[.int .u16 0, .slice none 0 0, .slice none 0 0]
    generalize w2.alloc (.cells #[.int .u16 0, .slice none 0 0, .slice none 0 0] 76) = w3 at *
    generalize w2.heap.size = g2 at *
    obtain ⟨q0, q1, q2⟩ := wh317 x3
    have HS3 := Lib.hid (HSM.out w3)
    go_wp2_with fail
    refine HS3.out.mono ?_
    rintro e w4 ⟨rfl, b4⟩
    go_wp2_with fail
    go_ret
    exact ⟨rfl, B3.trans (b4.mono B3.size)⟩
set_option maxRecDepth 100000 in
theorem law_StreamMore {H : Type} {enc : TypeId × Value → H} {W : World} {base : Nat} {v0 v1 v2 : Value} {d0 d1 d2 : DataW H} {p0 p1 p2 : List MemPlace}
    (o0 : Value.okWide Tryz.prog W .any base 37 v0) (h0 : DataW.Trod enc Tryz.prog W 0 (fun _ => true) true 37 v0 d0 p0) (_s0 : Small Tryz.prog 37 d0)
    (o1 : Value.okWide Tryz.prog W .any base 22 v1) (h1 : DataW.Trod enc Tryz.prog W 0 (fun _ => true) true 22 v1 d1 p1) (_s1 : Small Tryz.prog 22 d1)
    (o2 : Value.okWide Tryz.prog W .any base 37 v2) (h2 : DataW.Trod enc Tryz.prog W 0 (fun _ => true) true 37 v2 d2 p2) (_s2 : Small Tryz.prog 37 d2) (hL : laidMetH Tryz.prog laidL W) :
    Calls Tryz.prog 14 #[v0, v1, v2] W fun e w' => e = .returned (.bool true) ∧ Below W.heap.size W w' := by
  obtain ⟨t, rfl, _, _, wt⟩ := open_int Tryz.underlying37 o0 h0
  obtain ⟨a, rfl, _, _, wa⟩ := open_int Tryz.underlying22 o1 h1
  obtain ⟨n, rfl, _, _, wn⟩ := open_int Tryz.underlying37 o2 h2
  rw [hv17 (wf_u16 wt), uv17 (wf_u32 wa), hv17 (wf_u16 wn)]
  exact more_law _ _ _ W (handle_of_laid hL)
end Go.Proofs.YtmohbkniekeafaaGreatDoor


