/- Layer 13: the law DataMost. It writes nothing that was there. -/
import Derived.Test.YtgjmgphmakiffaaGreatDoorQDataT
import Derived.Test.YtgjmgphmakiffaaGreatDoorQCA
import Derived.Test.YtgjmgphmakiffaaGreatDoorQNodeUO
import Derived.Test.YtgjmgphmakiffaaGreatDoorQChunkFl
import Derived.Test.YtgjmgphmakiffaaGreatDoorQChunkUn
import Derived.BigGuard






namespace Go.Proofs.YtgjmgphmakiffaaGreatDoor
open Go.ChangeShapes Go.WideShapes Go.ChangeAt Go.RowKit

set_option linter.unusedSimpArgs false
def mostP (b : Bool) (n : Nat) : Pt := ⟨b, 0, 0, 0, 0, false, false, false, false, List.replicate n 0⟩
theorem mostP_des (b : Bool) (n : Nat) (h1 : 1 ≤ n) (h2 : n ≤ 65535 - frontD b) : desB (mostP b n) = true := by
  unfold desB mostP
  simp only [List.length_replicate, Bool.and_eq_true, Bool.or_eq_true, decide_eq_true_eq]
  exact ⟨h1, h2, Or.inr (by decide)⟩
theorem mostP_csz (b : Bool) (n : Nat) : csz (ckD (mostP b n)) = frontD b + n := by
  have hl := datB_len (mostP b n)
  unfold csz
  show 4 + (datB (mostP b n)).length + sizes (lens []) = _
  rw [hl]
  have e1 : (mostP b n).us.length = n := by simp [mostP]
  have e2 : (mostP b n).inter = b := rfl
  have e3 : sizes (lens []) = 0 := by decide
  rw [e1, e2, e3]
  unfold frontD
  split <;> omega
theorem mo_mk (b : Bool) (n : Nat) (h1 : 1 ≤ n) (h2 : n ≤ 65535 - frontD b) (A : Option Addr) (w : World) (h : Lies w w.heap.size A ((List.replicate n (0 : UInt8)).map bv)) : Calls Tryz.prog 15 #[.agg #[.bool b, .int .u32 0, .int .u16 0, .int .u32 0, .int .u32 0, .bool false, .bool false, .bool false, .bool false, .slice A n n]] w fun e w' => Below w.heap.size w w' ∧ ∃ A' c', e = .returned (.tuple #[ckV (ckD (mostP b n)) A' c' none 0, .bool true]) ∧ Chunk w' w'.heap.size A' c' none 0 (ckD (mostP b n)) := by
  have hp : PtL w w.heap.size A n (mostP b n) := ⟨h, by simp [mostP], by unfold maxLen; omega⟩
  have h3 := dmake_any (mostP b n) A n w hp
  have e1 : (mostP b n).us.length = n := by simp [mostP]
  unfold ptV at h3
  rw [e1] at h3
  exact Calls.mono (R := MkR (mostP b n) w) h3 fun _ _ h => mkR_ck (mostP_des b n h1 h2) h
theorem mo_size (b : Bool) (n : Nat) (h1 : 1 ≤ n) (h2 : n ≤ 65535 - frontD b) (A : Option Addr) (c : Nat) (w : World) (h : Chunk w w.heap.size A c none 0 (ckD (mostP b n))) : Calls Tryz.prog 31 #[ckV (ckD (mostP b n)) A c none 0] w fun e w' => e = .returned (.int .i64 ((frontD b + n : Nat) : Int)) ∧ Below w.heap.size w w' := by
  have h3 := csize_any (ckD (mostP b n)) (ckD_fine (mostP_des b n h1 h2)) A c none 0 w h
  rw [mostP_csz] at h3
  exact h3
set_option maxRecDepth 100000 in
set_option maxHeartbeats 8000000 in
theorem dmost_true (k : UInt16) (w : World) (hh : Handle w) : Calls Tryz.prog 7 #[.bool true, hv k] w fun e w' => e = .returned (.bool true) ∧ Below w.heap.size w w' := by
  have hk := k.toNat_lt
  have hA := awake13_any w hh
  obtain ⟨i0, hi, hz0, hz1, hz2⟩ := made_u12
  go_enter Tryz.func7, Tryz.ntmps7
  go_wp2_with fail
  refine hA.mono ?_
  rintro e w1 ⟨rfl, b1⟩
  go_upto_region 3 with fail
  have hM := most_any true (k.toNat : Int) (by omega) (by omega) w1
  go_wp2_with fail
  refine hM.mono ?_
  rintro e w1' ⟨rfl, rfl⟩
  by_cases hle : k.toNat ≤ 20
  · have e1 : mostD true (k.toNat : Int) = 0 := by unfold mostD frontD; rw [if_pos (by simp; omega)]
    have hle' : (k.toNat : Int) ≤ 20 := by omega
    rw [e1]
    go_wp2_with fail
    go_ret
    exact ⟨rfl, b1⟩
  · obtain ⟨n, hn⟩ : ∃ n, k.toNat = 20 + n := ⟨k.toNat - 20, by omega⟩
    have e1 : mostD true (k.toNat : Int) = (n : Int) := by unfold mostD frontD; rw [if_neg (by simp; omega)]; simp; omega
    have hne : ((n : Int) == 0) = false := by rw [beq_eq_false_iff_ne]; omega
    rw [e1]
    go_upto_region 9 with fail
    have hn1 : 1 ≤ n := by omega
    have hn2 : n ≤ 65535 - frontD true := by unfold frontD; simp; omega
    clear e1 hM hA hle
    go_wp2_with (first | (refine wpList_make_full _ rfl (.tmp 24) (.tmp 24) 24 rfl w1.heap.size 5 i0 _ 1 Tryz.underlying24 hi hz0 hz1 .i64 .i64 _ _ n rfl rfl rfl rfl (by rw [hz2]; omega) (by unfold maxLen; omega) (Nat.le_refl _) ?_; intro w2 hown hgrow) | fail)
    have hL2 := bytes_new12 hown
    have b2 : Below w.heap.size w w2 := b1.trans (((Below.refl _ w1).grown hgrow (Nat.le_refl _) (by simp)).mono b1.size)
    clear hown hgrow b1
    refine (mo_mk true n hn1 hn2 _ w2 hL2).mono ?_
    rintro e w3 ⟨b3, A3, c3, rfl, hC3⟩
    have B3 := b2.trans (b3.mono b2.size)
    clear b3 b2 hL2
    have HSz := fun w h => mo_size true n hn1 hn2 A3 c3 w h
    generalize ckD (mostP true n) = x at *
    obtain ⟨ty, fl, d, ks⟩ := x
    go_upto_region 10 with fail
    have v4 : Below w3.heap.size w3 (w3.alloc (.cells #[bv ty, bv fl, .slice A3 d.length c3, .slice none ks.length 0] 31)) := (Below.refl _ _).alloc (Nat.le_refl _) _
    have x4 := Whole.new w3 31 #[bv ty, bv fl, .slice A3 d.length c3, .slice none ks.length 0]
    have hC4 := hC3.on v4
    have B4 := B3.trans (v4.mono B3.size)
    generalize w3.alloc (.cells #[bv ty, bv fl, .slice A3 d.length c3, .slice none ks.length 0] 31) = w4 at *
    generalize w3.heap.size = g3 at *
    obtain ⟨p0, p1, p2, p3⟩ := wh4 x4
    have hE : ((n : Int) == 20 + (n : Int) - 20) = true := by rw [beq_iff_eq]; omega
    have hE2 : ((20 + n : Nat) : Int) = (k.toNat : Int) := by omega
    go_wp2_with fail
    refine (HSz _ hC4).mono ?_
    rintro e w5 ⟨rfl, b5⟩
    have B5 := B4.trans (b5.mono B4.size)
    have hE3 : (((frontD true + n : Nat) : Int) == (k.toNat : Int)) = true := by rw [beq_iff_eq]; unfold frontD; simp; omega
    go_wp2_with fail
    go_ret
    refine ⟨?_, B5⟩
    show Ending.returned (.bool _) = _
    rw [show ∀ b : Bool, b = true → Ending.returned (.bool b) = Ending.returned (.bool true) from fun b h => by rw [h]]
    rw [beq_iff_eq]; unfold frontD; simp
    omega
set_option maxRecDepth 100000 in
set_option maxHeartbeats 8000000 in
theorem dmost_false (k : UInt16) (w : World) (hh : Handle w) : Calls Tryz.prog 7 #[.bool false, hv k] w fun e w' => e = .returned (.bool true) ∧ Below w.heap.size w w' := by
  have hk := k.toNat_lt
  have hA := awake13_any w hh
  obtain ⟨i0, hi, hz0, hz1, hz2⟩ := made_u12
  go_enter Tryz.func7, Tryz.ntmps7
  go_wp2_with fail
  refine hA.mono ?_
  rintro e w1 ⟨rfl, b1⟩
  go_upto_region 3 with fail
  have hM := most_any false (k.toNat : Int) (by omega) (by omega) w1
  go_wp2_with fail
  refine hM.mono ?_
  rintro e w1' ⟨rfl, rfl⟩
  by_cases hle : k.toNat ≤ 16
  · have e1 : mostD false (k.toNat : Int) = 0 := by unfold mostD frontD; rw [if_pos (by simp; omega)]
    have hle' : (k.toNat : Int) ≤ 16 := by omega
    rw [e1]
    go_wp2_with fail
    go_ret
    exact ⟨rfl, b1⟩
  · obtain ⟨n, hn⟩ : ∃ n, k.toNat = 16 + n := ⟨k.toNat - 16, by omega⟩
    have e1 : mostD false (k.toNat : Int) = (n : Int) := by unfold mostD frontD; rw [if_neg (by simp; omega)]; simp; omega
    have hne : ((n : Int) == 0) = false := by rw [beq_eq_false_iff_ne]; omega
    rw [e1]
    go_upto_region 9 with fail
    have hn1 : 1 ≤ n := by omega
    have hn2 : n ≤ 65535 - frontD false := by unfold frontD; simp; omega
    clear e1 hM hA hle
    go_wp2_with (first | (refine wpList_make_full _ rfl (.tmp 24) (.tmp 24) 24 rfl w1.heap.size 5 i0 _ 1 Tryz.underlying24 hi hz0 hz1 .i64 .i64 _ _ n rfl rfl rfl rfl (by rw [hz2]; omega) (by unfold maxLen; omega) (Nat.le_refl _) ?_; intro w2 hown hgrow) | fail)
    have hL2 := bytes_new12 hown
    have b2 : Below w.heap.size w w2 := b1.trans (((Below.refl _ w1).grown hgrow (Nat.le_refl _) (by simp)).mono b1.size)
    clear hown hgrow b1
    refine (mo_mk false n hn1 hn2 _ w2 hL2).mono ?_
    rintro e w3 ⟨b3, A3, c3, rfl, hC3⟩
    have B3 := b2.trans (b3.mono b2.size)
    clear b3 b2 hL2
    have HSz := fun w h => mo_size false n hn1 hn2 A3 c3 w h
    generalize ckD (mostP false n) = x at *
    obtain ⟨ty, fl, d, ks⟩ := x
    go_upto_region 10 with fail
    have v4 : Below w3.heap.size w3 (w3.alloc (.cells #[bv ty, bv fl, .slice A3 d.length c3, .slice none ks.length 0] 31)) := (Below.refl _ _).alloc (Nat.le_refl _) _
    have x4 := Whole.new w3 31 #[bv ty, bv fl, .slice A3 d.length c3, .slice none ks.length 0]
    have hC4 := hC3.on v4
    have B4 := B3.trans (v4.mono B3.size)
    generalize w3.alloc (.cells #[bv ty, bv fl, .slice A3 d.length c3, .slice none ks.length 0] 31) = w4 at *
    generalize w3.heap.size = g3 at *
    obtain ⟨p0, p1, p2, p3⟩ := wh4 x4
    have hE : ((n : Int) == 16 + (n : Int) - 16) = true := by rw [beq_iff_eq]; omega
    have hE2 : ((16 + n : Nat) : Int) = (k.toNat : Int) := by omega
    go_wp2_with fail
    refine (HSz _ hC4).mono ?_
    rintro e w5 ⟨rfl, b5⟩
    have B5 := B4.trans (b5.mono B4.size)
    have hE3 : (((frontD false + n : Nat) : Int) == (k.toNat : Int)) = true := by rw [beq_iff_eq]; unfold frontD; simp; omega
    go_wp2_with fail
    go_ret
    refine ⟨?_, B5⟩
    show Ending.returned (.bool _) = _
    rw [show ∀ b : Bool, b = true → Ending.returned (.bool b) = Ending.returned (.bool true) from fun b h => by rw [h]]
    rw [beq_iff_eq]; unfold frontD; simp
    omega
set_option maxRecDepth 100000 in
theorem law_DataMost {H : Type} {enc : TypeId × Value → H} {W : World} {base : Nat} {v0 v1 : Value} {d0 d1 : DataW H} {p0 p1 : List MemPlace}
    (o0 : Value.okWide Tryz.prog W .any base 4 v0) (h0 : DataW.Trod enc Tryz.prog W 0 (fun _ => true) true 4 v0 d0 p0) (_s0 : Small Tryz.prog 4 d0)
    (o1 : Value.okWide Tryz.prog W .any base 23 v1) (h1 : DataW.Trod enc Tryz.prog W 0 (fun _ => true) true 23 v1 d1 p1) (_s1 : Small Tryz.prog 23 d1) (hL : laidMetH Tryz.prog laidL W) :
    Calls Tryz.prog 7 #[v0, v1] W fun e w' => e = .returned (.bool true) ∧ Below W.heap.size W w' := by
  obtain ⟨b, rfl⟩ := okWide_bool Tryz.underlying4 o0
  obtain ⟨t, rfl, _, _, wt⟩ := open_int Tryz.underlying23 o1 h1
  rw [hv_of' (wf_u16 wt)]
  cases b with
  | true => exact dmost_true _ W (handle_of_laid hL)
  | false => exact dmost_false _ W (handle_of_laid hL)
theorem door_met (os : Os) (args : Array Value) : laidMetH Tryz.prog laidL ((World.doorLaid Tryz.prog 200 os).forCall (fun _ _ => 0) ⟨#[], args, []⟩).memory :=
  laidMetH_of_parts3 (fuel := 8) (laidMet_of_run' 8 (by kernel_rfl) (by kernel_rfl)) (by kernel_rfl) (by kernel_rfl)
end Go.Proofs.YtgjmgphmakiffaaGreatDoor


