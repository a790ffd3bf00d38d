/- Layer 5: packets: Packet, Seal, Sealed, for whatever bytes. -/
import Derived.Test.YtgjedidpimncaaaCrcH
namespace Go.Proofs.Ytgjedidpimncaaa
open Go.RowKit

/-- three parts in a row of their own -/
theorem parts3 {w : World} (v1 v2 v3 : Value) (p1 p2 p3 : List UInt8) (h1 : IsB w w.heap.size v1 p1) (h2 : IsB w w.heap.size v2 p2) (h3 : IsB w w.heap.size v3 p3) :
    Parts (w.alloc (.cells #[v1, v2, v3] 24)) (w.alloc (.cells #[v1, v2, v3] 24)).heap.size (some ⟨w.heap.size, 0, none⟩) [v1, v2, v3] [p1, p2, p3] := by
  have hb : Below w.heap.size w (w.alloc (.cells #[v1, v2, v3] 24)) := (Below.refl _ w).alloc (Nat.le_refl _) _
  have hmore : ∀ v p, IsB w w.heap.size v p → IsB (w.alloc (.cells #[v1, v2, v3] 24)) (w.alloc (.cells #[v1, v2, v3] 24)).heap.size v p := by
    rintro v p ⟨A, c, h1, h2, h3, h4⟩
    exact ⟨A, c, h1, (h2.below hb).more hb.size, h3, h4⟩
  refine ⟨(Lies.newN w [v1, v2, v3] _).more (by simp), rfl, fun i p hp => ?_⟩
  match i, hp with
  | 0, hp => simp only [List.getElem?_cons_zero, Option.some.injEq] at hp; subst hp; exact ⟨_, rfl, hmore _ _ h1⟩
  | 1, hp => simp only [List.getElem?_cons_succ, List.getElem?_cons_zero, Option.some.injEq] at hp; subst hp; exact ⟨_, rfl, hmore _ _ h2⟩
  | 2, hp => simp only [List.getElem?_cons_succ, List.getElem?_cons_zero, Option.some.injEq] at hp; subst hp; exact ⟨_, rfl, hmore _ _ h3⟩
  | i + 3, hp => simp at hp
theorem setF_parts (b : List UInt8) (x : Nat) (h : 12 ≤ b.length) : setF b x = [b.take 8, [fb x 0, fb x 1, fb x 2, fb x 3], b.drop 12].flatten := by
  refine List.ext_getElem? fun i => ?_
  rw [setF_at b x h]
  simp only [List.flatten_cons, List.flatten_nil, List.append_nil]
  have l8 : (b.take 8).length = 8 := by rw [List.length_take]; omega
  by_cases h1 : i < 8
  · rw [if_neg (by omega), List.getElem?_append_left (by omega), List.getElem?_take, if_pos h1]
  · rw [List.getElem?_append_right (by omega), l8]
    by_cases h2 : i < 12
    · rw [if_pos ⟨by omega, h2⟩, List.getElem?_append_left (by simp; omega)]
      obtain rfl | rfl | rfl | rfl : i = 8 ∨ i = 9 ∨ i = 10 ∨ i = 11 := by omega
      all_goals rfl
    · rw [if_neg (by omega), List.getElem?_append_right (by simp; omega), List.getElem?_drop]
      congr 1
      simp
      omega
theorem zf_parts (b : List UInt8) (h : 12 ≤ b.length) : zf b = [b.take 8, bits8 (fun _ => false) 4, b.drop 12].flatten := by
  unfold zf
  rw [setF_parts b 0 h, fb_zero, fb_zero, fb_zero, fb_zero]
  rfl
theorem packet_any (A : Option Addr) (c : Nat) (b : List UInt8) (w : World) (h : Lies w w.heap.size A (b.map bv)) (hc : b.length ≤ c) (hcm : c ≤ maxLen) (h12 : 12 ≤ b.length) (hn : b.length ≤ 1000000) :
    Calls Try.prog 13 #[.slice A b.length c] w fun e w' => e = .returned (.tuple #[.int .u32 (crcN (zf b) : Nat), .bool true]) ∧ Below w.heap.size w w' := by
  have hD := divide_any A c w.heap.size b w h h12 hc hcm
  have HF : Hid (crcN [b.take 8, bits8 (fun _ => false) 4, b.drop 12].flatten = crcN (zf b)) := by rw [Hid, zf_parts b h12]
  have hk1 : (b.take 8).length = 8 := by rw [List.length_take]; omega
  have hk3 : (b.drop 12).length = b.length - 12 := by rw [List.length_drop]
  have HT : Hid (tot [b.take 8, bits8 (fun _ => false) 4, b.drop 12] ≤ 10000000) := by
    unfold Hid tot
    simp only [List.flatten_cons, List.flatten_nil, List.append_nil, List.length_append, bits8_len, hk1, hk3]
    omega
  go_enter Try.func13, Try.ntmps13
  go_wp2_with fail
  refine hD.mono ?_
  rintro e w' ⟨A1, A2, A3, rfl, rfl, l1, l3⟩
  have H1 := Lib.hid l1
  have H3 := Lib.hid l3
  have K1 := Lib.hid hk1
  have K3 := Lib.hid hk3
  clear l1 l3 hD hk1 hk3
  generalize b.take 8 = p1 at *
  generalize b.drop 12 = p3 at *
  go_wp2_with (at_make; refine wpList_make_zeros _ rfl (.tmp 19) (.tmp 19) 24 rfl Try.underlying24 _ 4 rfl rfl rfl (by omega) ?_; intro w1 hrow hb1)
  have hb1' := hb1.size
  have hP := parts3 (w := w1) (.slice A1 8 8) (.slice (some ⟨w.heap.size, 0, none⟩) 4 4) (.slice A3 (b.length - 12) (b.length - 12)) p1 (bits8 (fun _ => false) 4) p3
    ⟨A1, 8, by rw [K1.out], (H1.out.below hb1).more hb1', by rw [K1.out]; exact Nat.le_refl _, by unfold maxLen; omega⟩
    ⟨_, 4, rfl, hrow.lies hrow.lt, Nat.le_refl _, by unfold maxLen; omega⟩
    ⟨A3, b.length - 12, by rw [K3.out], (H3.out.below hb1).more hb1', by rw [K3.out]; exact Nat.le_refl _, by unfold maxLen; omega⟩
  have hba : Below w1.heap.size w1 (w1.alloc (.cells #[.slice A1 8 8, .slice (some ⟨w.heap.size, 0, none⟩) 4 4, .slice A3 (b.length - 12) (b.length - 12)] 24)) := (Below.refl _ w1).alloc (Nat.le_refl _) _
  have hS := sum_any (some ⟨w1.heap.size, 0, none⟩) 3 _ [p1, bits8 (fun _ => false) 4, p3] _ hP (by simp) HT.out
  rw [HF.out] at hS
  have HB := Lib.hid (hb1.trans (hba.mono hb1'))
  clear hP hrow
  generalize w1.alloc (.cells #[.slice A1 8 8, .slice (some ⟨w.heap.size, 0, none⟩) 4 4, .slice A3 (b.length - 12) (b.length - 12)] 24) = w2 at *
  go_wp2_with fail
  refine hS.mono ?_
  rintro e w3 ⟨rfl, b3⟩
  go_wp2_with fail
  go_ret2
  exact ⟨rfl, HB.out.trans (b3.mono HB.out.size)⟩
theorem packet_no (A : Option Addr) (c n : Nat) (w : World) (h12 : n < 12) :
    Calls Try.prog 13 #[.slice A n c] w fun e w' => e = .returned (.tuple #[.int .u32 0, .bool false]) ∧ w = w' := by
  go_enter Try.func13, Try.ntmps13
  go_wp2_with fail
  refine (divide_no A c n w h12).mono ?_
  rintro e w' ⟨rfl, rfl⟩
  go_wp2_with fail
  go_ret2
  exact ⟨rfl, rfl⟩
theorem seal_no (A : Option Addr) (c n : Nat) (w : World) (h12 : n < 12) :
    Calls Try.prog 14 #[.slice A n c] w fun e w' => e = .returned (.tuple #[.slice none 0 0, .bool false]) ∧ w = w' := by
  go_enter Try.func14, Try.ntmps14
  go_wp2_with fail
  refine (packet_no A c n w h12).mono ?_
  rintro e w' ⟨rfl, rfl⟩
  go_wp2_with fail
  go_ret2
  exact ⟨rfl, rfl⟩
theorem seal_any (A : Option Addr) (c : Nat) (b : List UInt8) (w : World) (h : Lies w w.heap.size A (b.map bv)) (hc : b.length ≤ c) (hcm : c ≤ maxLen) (h12 : 12 ≤ b.length) (hn : b.length ≤ 1000000) :
    Calls Try.prog 14 #[.slice A b.length c] w fun e w' => ∃ A' c', e = .returned (.tuple #[.slice A' b.length c', .bool true]) ∧
      w'.ownsRow w.heap.size 5 1 (.slice A' b.length c') b.length ((sealL b).map bv) ∧ Below w.heap.size w w' := by
  have hP := packet_any A c b w h hc hcm h12 hn
  have hx := crcN_lt (zf b)
  have HF : Hid ([b.take 8, [fb (crcN (zf b)) 0, fb (crcN (zf b)) 1, fb (crcN (zf b)) 2, fb (crcN (zf b)) 3], b.drop 12].flatten = sealL b) := (setF_parts b _ h12).symm
  have hk1 : (b.take 8).length = 8 := by rw [List.length_take]; omega
  have hk3 : (b.drop 12).length = b.length - 12 := by rw [List.length_drop]
  have HT : Hid (tot [b.take 8, [fb (crcN (zf b)) 0, fb (crcN (zf b)) 1, fb (crcN (zf b)) 2, fb (crcN (zf b)) 3], b.drop 12] = b.length) := by
    unfold Hid tot
    simp only [List.flatten_cons, List.flatten_nil, List.append_nil, List.length_append, List.length_cons, List.length_nil, hk1, hk3]
    omega
  go_enter Try.func14, Try.ntmps14
  go_wp2_with fail
  refine hP.mono ?_
  rintro e w1 ⟨rfl, b1⟩
  have hl1 := (h.below b1).more b1.size
  have hD := divide_any A c w1.heap.size b w1 hl1 h12 hc hcm
  go_wp2_with fail
  refine hD.mono ?_
  rintro e w2 ⟨A1, A2, A3, rfl, rfl, l1, l3⟩
  have hLw := lowest_any (crcN (zf b)) w1 hx
  generalize crcN (zf b) = x at *
  have H1 := Lib.hid l1
  have H3 := Lib.hid l3
  have K1 := Lib.hid hk1
  have K3 := Lib.hid hk3
  clear l1 l3 hD hk1 hk3 hP hl1
  go_wp2_with fail
  refine hLw.mono ?_
  rintro e w2 ⟨rfl, hw2⟩
  have hb12 : Below w1.heap.size w1 w2 := by rw [hw2]; exact below_wal _ _ _
  have hl2 : Lies w2 w2.heap.size (some ⟨w1.heap.size, 0, none⟩) ([fb x 0, fb x 1, fb x 2, fb x 3].map bv) := by rw [hw2]; exact (Lies.newN w1 _ _).more (by simp [wal])
  clear hw2 hLw
  have hs12 := hb12.size
  have hP3 := parts3 (w := w2) (.slice A1 8 8) (.slice (some ⟨w1.heap.size, 0, none⟩) 4 4) (.slice A3 (b.length - 12) (b.length - 12)) (b.take 8) [fb x 0, fb x 1, fb x 2, fb x 3] (b.drop 12)
    ⟨A1, 8, by rw [K1.out], (H1.out.below hb12).more hs12, by rw [K1.out]; exact Nat.le_refl _, by unfold maxLen; omega⟩
    ⟨_, 4, rfl, hl2, Nat.le_refl _, by unfold maxLen; omega⟩
    ⟨A3, b.length - 12, by rw [K3.out], (H3.out.below hb12).more hs12, by rw [K3.out]; exact Nat.le_refl _, by unfold maxLen; omega⟩
  have hba : Below w2.heap.size w2 (w2.alloc (.cells #[.slice A1 8 8, .slice (some ⟨w1.heap.size, 0, none⟩) 4 4, .slice A3 (b.length - 12) (b.length - 12)] 24)) := (Below.refl _ w2).alloc (Nat.le_refl _) _
  have hS := concat_any (some ⟨w2.heap.size, 0, none⟩) 3 _ [b.take 8, [fb x 0, fb x 1, fb x 2, fb x 3], b.drop 12] _ hP3 (by simp) (by rw [HT.out]; omega)
  rw [HF.out, HT.out] at hS
  have hb2 := b1.trans (hb12.mono b1.size)
  have HB := Lib.hid (hb2.trans (hba.mono hb2.size))
  clear hP3 hl2
  go_wp2_with fail
  generalize hw3 : w2.alloc (.cells #[.slice A1 8 8, .slice (some ⟨w1.heap.size, 0, none⟩) 4 4, .slice A3 (b.length - 12) (b.length - 12)] 24) = w3 at *
  clear hw3
  refine hS.mono ?_
  rintro e w4 ⟨A4, c4, rfl, hown, b4⟩
  have HO := Lib.hid (own_base hown HB.out.size)
  clear hown
  go_wp2_with fail
  go_ret2
  exact ⟨A4, c4, rfl, HO.out, HB.out.trans (b4.mono HB.out.size)⟩
theorem csealed_any (A : Option Addr) (c : Nat) (b : List UInt8) (w : World) (h : Lies w w.heap.size A (b.map bv)) (hc : b.length ≤ c) (hcm : c ≤ maxLen) (hn : b.length ≤ 1000000) :
    Calls Try.prog 15 #[.slice A b.length c] w fun e w' => e = .returned (.bool (isSealed b)) ∧ Below w.heap.size w w' := by
  by_cases h12 : 12 ≤ b.length
  · have HE : Hid (isSealed b = decide (sealL b = b)) := by
      unfold Hid isSealed
      rw [decide_eq_true h12, Bool.true_and]
    have HL := sealL_len b
    go_enter Try.func15, Try.ntmps15
    go_wp2_with fail
    refine (seal_any A c b w h hc hcm h12 hn).mono ?_
    rintro e w1 ⟨A1, c1, rfl, hown, b1⟩
    have hq := equal_any A1 A c1 c _ _ (sealL b) b w1 (Lies.own hown) (h.below b1)
    rw [HL] at hq
    clear hown HL
    go_wp2_with fail
    refine hq.mono ?_
    rintro e w2 ⟨rfl, rfl⟩
    go_wp2_with fail
    go_ret
    exact ⟨ret_bool (by rw [HE.out]), b1⟩
  · have HE : Hid (isSealed b = false) := by
      unfold Hid isSealed
      rw [decide_eq_false h12]
      rfl
    go_enter Try.func15, Try.ntmps15
    go_wp2_with fail
    refine (seal_no A c b.length w (by omega)).mono ?_
    rintro e w1 ⟨rfl, rfl⟩
    go_wp2_with fail
    go_ret
    exact ⟨ret_bool (by rw [HE.out]), Below.refl _ _⟩
end Go.Proofs.Ytgjedidpimncaaa
