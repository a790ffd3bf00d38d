/- Layer 11: the law KindMatchesReference. -/
import Derived.Test.YtcbheefmggajcaaKindE
import Derived.Test.YtcbheefmggajcaaKindR
import Derived.Test.YtcbheefmggajcaaOpen
import Derived.Laws.StructEq




namespace Go.Proofs.Ytcbheefmggajcaa
open Go.ChangeShapes Go.WideShapes Go.ChangeAt Go.RowKit


def u8of (n : Nat) : UInt8 := UInt8.ofNat n
theorem bv_of {z : Int} (h : 0 ≤ z ∧ z < 256) : Value.int .u8 z = bv (u8of z.toNat) := by
  unfold bv u8of
  congr 1
  rw [UInt8.toNat_ofNat']
  omega
theorem isdata_eq (t : UInt8) : isDataB t = (((t.toNat : Int) == 0) || ((t.toNat : Int) == 64)) := by
  unfold isDataB
  have h0 : decide (t = 0) = ((t.toNat : Int) == 0) := by
    by_cases h : t = 0
    · subst h; rfl
    · have : ¬ (t.toNat : Int) = 0 := fun e => h (UInt8.toNat_inj.1 (by simpa using e))
      rw [decide_eq_false h, beq_eq_false_iff_ne.2 this]
  have h1 : decide (t = 64) = ((t.toNat : Int) == 64) := by
    by_cases h : t = 64
    · subst h; rfl
    · have : ¬ (t.toNat : Int) = 64 := fun e => h (UInt8.toNat_inj.1 (by have : (64 : UInt8).toNat = 64 := rfl; omega))
      rw [decide_eq_false h, beq_eq_false_iff_ne.2 this]
  rw [h0, h1]

set_option maxRecDepth 100000 in
set_option maxHeartbeats 8000000 in
theorem kmatches_any (t : UInt8) (w : World) :
    Calls Try.prog 3 #[bv t] w fun e w' => e = .returned (.bool true) ∧ Below w.heap.size w w' := by
  have hO := kof_any t
  have hR := rkof_any t
  have hK := kknown_any t
  have hD := isdata_any t
  have hA := kawake_any w
  have hdt := isdata_eq t
  rw [hdt] at hD
  clear hdt
  unfold klook at hR hK
  generalize kT.find? (fun f => decide (f.ty = t)) = r at *
  have hbs : ∀ b : Bool, (b = true ∨ b = false) := fun b => by cases b <;> simp
  rcases hbs ((t.toNat : Int) == 0) with hq | hq
  all_goals rcases hbs ((t.toNat : Int) == 64) with hp | hp
  all_goals
    rw [hq, hp] at hD
    simp only [Bool.or_self, Bool.or_true, Bool.or_false] at hD
  all_goals rcases r with _ | f
  all_goals first
    | (
      unfold kV at hO hR
      simp only [Option.isSome_none] at hK
      go_enter Try.func3, Try.ntmps3
      go_wp2_with fail
      refine hA.mono ?_
      rintro e w1 ⟨rfl, b1⟩
      go_wp2_with fail
      refine (hO _).mono ?_
      rintro e w2 ⟨rfl, b2⟩
      have hb2 := b1.trans (b2.mono b1.size)
      clear b1 b2
      go_wp2_with (refine wpList_new_kd rfl 24 _ _ rfl w2 _ _ rfl rfl rfl (by kernel_rfl) rfl ?_)
      have hW2 := Whole.new w2 24 zkd
      have hb3 := hb2.alloc hb2.size (.cells zkd 24)
      generalize w2.alloc (.cells zkd 24) = w3 at *
      clear hb2
      refine (hR _).mono ?_
      rintro e w4 ⟨rfl, b4⟩
      have hW4 := hW2.below b4 hW2.lt
      have hb4 := hb3.trans (b4.mono hb3.size)
      clear hW2 hb3 b4
      have hW5 := hW4.alloc (.cells zkd 27)
      have hX5 := Whole.new w4 27 zkd
      have hb5 := hb4.alloc hb4.size (.cells zkd 27)
      clear hW4 hb4
      go_wp2_with (first
        | (refine wpList_new_kd rfl 27 _ _ rfl w4 _ _ rfl rfl rfl (by kernel_rfl) rfl ?_)
        | (refine wpList_load_row rfl 24 _ rfl w2.heap.size rfl _ _ (0, 0) _ hW5 Try.underlying24 rfl (by kernel_rfl) ?_)
        | (refine wpList_load_row rfl 27 _ rfl w4.heap.size rfl _ _ (0, 0) _ hX5 Try.underlying27 rfl (by kernel_rfl) ?_))
      generalize w4.alloc (.cells zkd 27) = w5 at *
      refine (hK _).mono ?_
      rintro e w6 ⟨rfl, b6⟩
      go_wp2_with fail
      refine (hD _).mono ?_
      rintro e w7 ⟨rfl, rfl⟩
      go_wp2_with fail
      go_ret
      exact ⟨rfl, hb5.trans (b6.mono hb5.size)⟩)
    | (
      unfold kV Kd.val at hO hR
      simp only [Option.isSome_some] at hK
      go_enter Try.func3, Try.ntmps3
      go_wp2_with fail
      refine hA.mono ?_
      rintro e w1 ⟨rfl, b1⟩
      go_wp2_with fail
      refine (hO _).mono ?_
      rintro e w2 ⟨rfl, b2⟩
      have hb2 := b1.trans (b2.mono b1.size)
      clear b1 b2
      go_wp2_with (refine wpList_new_kd rfl 24 _ _ rfl w2 _ _ rfl rfl rfl (by kernel_rfl) rfl ?_)
      have hW2 := Whole.new w2 24 #[bv f.ty, .string f.nm, bv f.ms, .int .i64 f.lo, .int .i64 f.hi, .int .i64 f.un, .int .i64 f.ki]
      have hb3 := hb2.alloc hb2.size (.cells #[bv f.ty, .string f.nm, bv f.ms, .int .i64 f.lo, .int .i64 f.hi, .int .i64 f.un, .int .i64 f.ki] 24)
      generalize w2.alloc (.cells #[bv f.ty, .string f.nm, bv f.ms, .int .i64 f.lo, .int .i64 f.hi, .int .i64 f.un, .int .i64 f.ki] 24) = w3 at *
      clear hb2
      refine (hR _).mono ?_
      rintro e w4 ⟨rfl, b4⟩
      have hW4 := hW2.below b4 hW2.lt
      have hb4 := hb3.trans (b4.mono hb3.size)
      clear hW2 hb3 b4
      have hW5 := hW4.alloc (.cells #[bv f.ty, .string f.nm, bv f.ms, .int .i64 f.lo, .int .i64 f.hi, .int .i64 f.un, .int .i64 f.ki] 27)
      have hX5 := Whole.new w4 27 #[bv f.ty, .string f.nm, bv f.ms, .int .i64 f.lo, .int .i64 f.hi, .int .i64 f.un, .int .i64 f.ki]
      have hb5 := hb4.alloc hb4.size (.cells #[bv f.ty, .string f.nm, bv f.ms, .int .i64 f.lo, .int .i64 f.hi, .int .i64 f.un, .int .i64 f.ki] 27)
      clear hW4 hb4
      go_wp2_with (first
        | (refine wpList_new_kd rfl 27 _ _ rfl w4 _ _ rfl rfl rfl (by kernel_rfl) rfl ?_)
        | (refine wpList_load_row rfl 24 _ rfl w2.heap.size rfl _ _ (0, 0) _ hW5 Try.underlying24 rfl (by kernel_rfl) ?_)
        | (refine wpList_load_row rfl 27 _ rfl w4.heap.size rfl _ _ (0, 0) _ hX5 Try.underlying27 rfl (by kernel_rfl) ?_))
      generalize w4.alloc (.cells #[bv f.ty, .string f.nm, bv f.ms, .int .i64 f.lo, .int .i64 f.hi, .int .i64 f.un, .int .i64 f.ki] 27) = w5 at *
      refine (hK _).mono ?_
      rintro e w6 ⟨rfl, b6⟩
      go_wp2_with fail
      refine (hD _).mono ?_
      rintro e w7 ⟨rfl, rfl⟩
      go_wp2_with fail
      go_ret
      exact ⟨rfl, hb5.trans (b6.mono hb5.size)⟩)

theorem law_KindMatchesReference {H : Type} {enc : TypeId × Value → H} {W : World} {base : Nat} {v0 : Value} {d0 : DataW H} {p0 : List MemPlace}
    (o0 : Value.okWide Try.prog W .any base 5 v0) (h0 : DataW.Trod enc Try.prog W 0 (fun _ => true) true 5 v0 d0 p0) (_s0 : Small Try.prog 5 d0) :
    Calls Try.prog 3 #[v0] W fun e w' => e = .returned (.bool true) ∧ Below W.heap.size W w' := by
  obtain ⟨t, rfl, _, _, wt⟩ := open_int Try.underlying5 o0 h0
  rw [bv_of (wf_u8 wt)]
  exact kmatches_any (u8of t.toNat) W
end Go.Proofs.Ytcbheefmggajcaa

