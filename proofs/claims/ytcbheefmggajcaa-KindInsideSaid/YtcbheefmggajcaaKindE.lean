/- Layer 11: awake, the examples that every statement checks first. It writes nothing that was there. -/
import Derived.Test.YtcbheefmggajcaaKindC
import Derived.Test.YtcbheefmggajcaaShapeE


namespace Go.Proofs.Ytcbheefmggajcaa
open Go.RowKit


def sackName : ByteArray := ⟨#[115, 97, 99, 107]⟩
theorem klook3 : ∃ ty mk lo hi un ki, kT.find? (fun f => decide (f.ty = 3)) = some ⟨ty, sackName, mk, lo, hi, un, ki⟩ ∧ KTame ⟨ty, sackName, mk, lo, hi, un, ki⟩ ∧
    kfitsB ⟨ty, sackName, mk, lo, hi, un, ki⟩ 12 = true ∧ kfitsB ⟨ty, sackName, mk, lo, hi, un, ki⟩ 16 = true ∧ kfitsB ⟨ty, sackName, mk, lo, hi, un, ki⟩ 14 = false :=
  ⟨3, 0, 12, 65531, 4, 0, rfl, ⟨by decide, by decide, by decide⟩, rfl, rfl, rfl⟩

set_option maxRecDepth 100000 in
set_option maxHeartbeats 4000000 in
theorem kawake_any (w : World) : Calls Try.prog 8 #[] w fun e w' => e = .returned (.bool true) ∧ Below w.heap.size w w' := by
  obtain ⟨ty, mk, lo, hi, un, ki, hk, hT, h8, h16, h12⟩ := klook3
  have hO := kof_any 3
  have hO2 := kof_any 16
  rw [hk] at hO
  rw [show kT.find? (fun f => decide (f.ty = 16)) = none from rfl] at hO2
  have hI := kinside_any 5
  have hF12 := kfits_any _ hT 12
  have hF16 := kfits_any _ hT 16
  have hF14 := kfits_any _ hT 14
  rw [h8] at hF12
  rw [h16] at hF16
  rw [h12] at hF14
  have hTy := ktypes_any
  have hD1 := isdata_any 64
  have hD2 := isdata_any 1
  rw [show isDataB 64 = true from rfl] at hD1
  rw [show isDataB 1 = false from rfl] at hD2
  rw [show kins 5 = (1, 1, 2) from rfl] at hI
  have HN : Hid (sackName.toList = [115, 97, 99, 107]) := by
    unfold Hid
    rw [ByteArray.toList_eq]
    rfl
  have e3 : bv 3 = .int .u8 3 := rfl
  have e16 : bv 16 = .int .u8 16 := rfl
  have e64 : bv 64 = .int .u8 64 := rfl
  have e1 : bv 1 = .int .u8 1 := rfl
  rw [e3] at hO
  rw [e16] at hO2
  rw [e64] at hD1
  rw [e1] at hD2
  generalize sackName = nm at *
  clear hT h8 h16 h12 hk e3 e16 e64 e1
  unfold kV Kd.val at hO
  unfold kV at hO2
  unfold Kd.val at hF12 hF16 hF14
  simp only [] at hO hO2 hF12 hF16 hF14 hI
  have hneq := HN.out
  go_enter Try.func8, Try.ntmps8
  go_wp2_with fail
  refine (hO _).mono ?_
  rintro e w1 ⟨rfl, b1⟩
  go_wp2_with (refine wpList_new_kd rfl 24 _ _ rfl w1 _ _ rfl rfl rfl (by kernel_rfl) rfl ?_)
  have hW1 := Whole.new w1 24 #[bv ty, .string nm, bv mk, .int .i64 lo, .int .i64 hi, .int .i64 un, .int .i64 ki]
  have hb1 : Below w.heap.size w (w1.alloc (.cells #[bv ty, .string nm, bv mk, .int .i64 lo, .int .i64 hi, .int .i64 un, .int .i64 ki] 24)) := b1.alloc b1.size _
  generalize w1.alloc (.cells #[bv ty, .string nm, bv mk, .int .i64 lo, .int .i64 hi, .int .i64 un, .int .i64 ki] 24) = w2 at *
  go_wp2_with fail
  refine (hO2 _).mono ?_
  rintro e w3 ⟨rfl, b3⟩
  have hW3 := hW1.below b3 hW1.lt
  have hb3 := hb1.trans (b3.mono hb1.size)
  clear hW1 hb1 b3
  go_wp2_with (refine wpList_new_kd rfl 24 _ _ rfl w3 _ _ rfl rfl rfl (by kernel_rfl) rfl ?_)
  have hW5 := hW3.alloc (.cells zkd 24)
  have hb5 := hb3.alloc hb3.size (.cells zkd 24)
  generalize w3.alloc (.cells zkd 24) = w5 at *
  clear hW3 hb3
  obtain ⟨c0, c1, c2, c3, c4, c5, c6⟩ := hW5.form7
  go_wp2_with fail
  refine (hI _).mono ?_
  rintro e w5' ⟨rfl, rfl⟩
  go_wp2_with fail
  refine (hF12 _).mono ?_
  rintro e w6 ⟨rfl, b6⟩
  have hW6 := hW5.below b6 hW5.lt
  have hb6 := hb5.trans (b6.mono hb5.size)
  clear hW5 hb5 b6 c0 c1 c2 c3 c4 c5 c6
  obtain ⟨c0, c1, c2, c3, c4, c5, c6⟩ := hW6.form7
  go_wp2_with fail
  refine (hF16 _).mono ?_
  rintro e w7 ⟨rfl, b7⟩
  have hW7 := hW6.below b7 hW6.lt
  have hb7 := hb6.trans (b7.mono hb6.size)
  clear hW6 hb6 b7 c0 c1 c2 c3 c4 c5 c6
  obtain ⟨c0, c1, c2, c3, c4, c5, c6⟩ := hW7.form7
  go_wp2_with fail
  refine (hF14 _).mono ?_
  rintro e w8 ⟨rfl, b8⟩
  have hW8 := hW7.below b8 hW7.lt
  have hb8 := hb7.trans (b8.mono hb7.size)
  clear hW7 hb7 b8 c0 c1 c2 c3 c4 c5 c6
  obtain ⟨c0, c1, c2, c3, c4, c5, c6⟩ := hW8.form7
  go_wp2_with fail
  clear c0 c1 c2 c3 c4 c5 c6
  refine (hTy _).mono ?_
  rintro e w9 ⟨A9, n9, rfl, _, b9⟩
  have hb9 := hb8.trans (b9.mono hb8.size)
  go_wp2_with fail
  refine (hD1 _).mono ?_
  rintro e w10 ⟨rfl, rfl⟩
  go_wp2_with fail
  refine (hD2 _).mono ?_
  rintro e w11 ⟨rfl, rfl⟩
  go_wp2_with fail
  go_ret
  exact ⟨rfl, hb9⟩
end Go.Proofs.Ytcbheefmggajcaa

