/- Layer 5: the fixed examples that every statement checks first: awake returns true and writes nothing that was there. -/
import Derived.Test.YtgjedidpimncaaaCrcI
import Derived.Lib.SlBytesConst
namespace Go.Proofs.Ytgjedidpimncaaa
open Go.RowKit

def txt : List UInt8 := [49, 50, 51, 52, 53, 54, 55, 56, 57]
theorem txt_crc : crcN txt = 3808858755 := by kernel_rfl
theorem nil_crc : crcN [] = 0 := by kernel_rfl
theorem parts2 {w : World} (v1 v2 : Value) (p1 p2 : List UInt8) (h1 : IsB w w.heap.size v1 p1) (h2 : IsB w w.heap.size v2 p2) :
    Parts (w.alloc (.cells #[v1, v2] 24)) (w.alloc (.cells #[v1, v2] 24)).heap.size (some ⟨w.heap.size, 0, none⟩) [v1, v2] [p1, p2] := by
  have hb : Below w.heap.size w (w.alloc (.cells #[v1, v2] 24)) := (Below.refl _ w).alloc (Nat.le_refl _) _
  have hmore : ∀ v p, IsB w w.heap.size v p → IsB (w.alloc (.cells #[v1, v2] 24)) (w.alloc (.cells #[v1, v2] 24)).heap.size v p := by
    rintro v p ⟨A, c, h1, h2, h3, h4⟩
    exact ⟨A, c, h1, (h2.below hb).more hb.size, h3, h4⟩
  refine ⟨(Lies.newN w [v1, v2] _).more (by simp), rfl, fun i p hp => ?_⟩
  match i, hp with
  | 0, hp => simp only [List.getElem?_cons_zero, Option.some.injEq] at hp; subst hp; exact ⟨_, rfl, hmore _ _ h1⟩
  | 1, hp => simp only [List.getElem?_cons_succ, List.getElem?_cons_zero, Option.some.injEq] at hp; subst hp; exact ⟨_, rfl, hmore _ _ h2⟩
  | i + 2, hp => simp at hp
/-- a row with the mark that a constant string's bytes have -/
abbrev walm (w : World) (t : TypeId) (us : List Value) : World := w.alloc (.cells us.toArray t (us.length, us.length + 1))
theorem below_walm (w : World) (t : TypeId) (us : List Value) : Below w.heap.size w (walm w t us) := (Below.refl _ w).alloc (Nat.le_refl _) _
theorem Lies.newM (w : World) (us : List Value) (t : TypeId) : Lies (walm w t us) (walm w t us).heap.size (some ⟨w.heap.size, 0, none⟩) us := fun _ =>
  ⟨_, rfl, by simp [walm], fun j v hv => by rw [add_row, cell_of_row _ _ _ us.toArray t (us.length, us.length + 1) (heap_alloc_new w _)]; simpa using hv⟩
theorem sum_txt (w : World) : Calls Try.prog 10 #[.slice (some ⟨w.heap.size + 2, 0, none⟩) 2 2]
    (((w.alloc (.cells #[.int .u8 49, .int .u8 50, .int .u8 51, .int .u8 52] 5 (4, 5))).alloc (.cells #[.int .u8 53, .int .u8 54, .int .u8 55, .int .u8 56, .int .u8 57] 5 (5, 6))).alloc
      (.cells #[.slice (some ⟨w.heap.size, 0, none⟩) 4 4, .slice (some ⟨w.heap.size + 1, 0, none⟩) 5 5] 24)) fun e w' => e = .returned (.int .u32 3808858755) ∧ Below w.heap.size w w' := by
  have b1 : Below w.heap.size w (walm w 5 (([49, 50, 51, 52] : List UInt8).map bv)) := below_walm _ _ _
  have l1 : Lies (walm w 5 (([49, 50, 51, 52] : List UInt8).map bv)) (walm w 5 (([49, 50, 51, 52] : List UInt8).map bv)).heap.size (some ⟨w.heap.size, 0, none⟩) (([49, 50, 51, 52] : List UInt8).map bv) := Lies.newM w _ _
  have s1 : (walm w 5 (([49, 50, 51, 52] : List UInt8).map bv)).heap.size = w.heap.size + 1 := by simp [walm]
  show Calls _ _ _ ((walm (walm w 5 (([49, 50, 51, 52] : List UInt8).map bv)) 5 (([53, 54, 55, 56, 57] : List UInt8).map bv)).alloc _) _
  generalize walm w 5 (([49, 50, 51, 52] : List UInt8).map bv) = w1 at *
  have b2 : Below w1.heap.size w1 (walm w1 5 (([53, 54, 55, 56, 57] : List UInt8).map bv)) := below_walm _ _ _
  have l2 : Lies (walm w1 5 (([53, 54, 55, 56, 57] : List UInt8).map bv)) (walm w1 5 (([53, 54, 55, 56, 57] : List UInt8).map bv)).heap.size (some ⟨w1.heap.size, 0, none⟩) (([53, 54, 55, 56, 57] : List UInt8).map bv) := Lies.newM w1 _ _
  have s2 : (walm w1 5 (([53, 54, 55, 56, 57] : List UInt8).map bv)).heap.size = w.heap.size + 2 := by simp [walm, s1]
  generalize walm w1 5 (([53, 54, 55, 56, 57] : List UInt8).map bv) = w2 at *
  rw [s1] at l2
  have l12 := (l1.below b2).more b2.size
  have hP := parts2 (w := w2) (.slice (some ⟨w.heap.size, 0, none⟩) 4 4) (.slice (some ⟨w.heap.size + 1, 0, none⟩) 5 5) _ _ ⟨_, 4, rfl, l12, by decide, by unfold maxLen; omega⟩ ⟨_, 5, rfl, l2, by decide, by unfold maxLen; omega⟩
  have hS := sum_any _ 2 _ _ _ hP (by simp) (by simp [tot])
  rw [show crcN ([[49, 50, 51, 52], [53, 54, 55, 56, 57]] : List (List UInt8)).flatten = 3808858755 from txt_crc] at hS
  have hb : Below w.heap.size w (w2.alloc (.cells #[.slice (some ⟨w.heap.size, 0, none⟩) 4 4, .slice (some ⟨w.heap.size + 1, 0, none⟩) 5 5] 24)) := (b1.trans (b2.mono b1.size)).alloc (b1.trans (b2.mono b1.size)).size _
  rw [s2] at hS
  refine hS.mono ?_
  rintro e w' ⟨rfl, h3⟩
  exact ⟨rfl, hb.trans (h3.mono hb.size)⟩
theorem slow_txt (w : World) : Calls Try.prog 11 #[.slice (some ⟨w.heap.size, 0, none⟩) 9 9] (w.alloc (.cells #[.int .u8 49, .int .u8 50, .int .u8 51, .int .u8 52, .int .u8 53, .int .u8 54, .int .u8 55, .int .u8 56, .int .u8 57] 5 (9, 10))) fun e w' =>
    e = .returned (.int .u32 3808858755) ∧ Below w.heap.size w w' := by
  have hb := below_walm w 5 (txt.map bv)
  have h := slow_any (some ⟨w.heap.size, 0, none⟩) 9 txt (walm w 5 (txt.map bv)) (Lies.newM w _ _) (by decide)
  rw [txt_crc] at h
  refine h.mono ?_
  rintro e w' ⟨rfl, h3⟩
  exact ⟨rfl, hb.trans (h3.mono hb.size)⟩
theorem sum_nil (w : World) : Calls Try.prog 10 #[.slice none 0 0] w fun e w' => e = .returned (.int .u32 0) ∧ Below w.heap.size w w' := by
  have h := sum_any none 0 [] [] w ⟨Lies.nil, rfl, fun i p hp => by simp at hp⟩ (by simp) (by simp [tot])
  rw [show crcN ([] : List (List UInt8)).flatten = 0 from nil_crc] at h
  exact h
theorem csealed_nil (w : World) : Calls Try.prog 15 #[.slice none 0 0] w fun e w' => e = .returned (.bool false) ∧ Below w.heap.size w w' :=
  csealed_any none 0 [] w Lies.nil (Nat.le_refl _) (by unfold maxLen; omega) (by decide)
theorem awake_any (w : World) : Calls Try.prog 7 #[] w fun e w' => e = .returned (.bool true) ∧ Below w.heap.size w w' := by
  have hcv := fun (w : World) (C : Array Value) (n c : Nat) => Lib.run_convert_bytes_const (P := Try.prog) w 24 5 C n c Try.underlying24 Try.underlying5
  have hcv2 : ∀ (w : World) (O : Obj) (C : Array Value) (n c : Nat), (convert 24 24 (.slice (some ⟨w.heap.size + 1, 0, none⟩) n c)).run Try.prog ((w.alloc O).alloc (.cells C 5)) = .ok (.slice (some ⟨w.heap.size + 1, 0, none⟩) n c) ((w.alloc O).alloc (.cells C 5 (C.size, C.size + 1))) := fun w O C n c => by
    have h := hcv (w.alloc O) C n c
    rw [size_alloc] at h
    exact h
  have hz12 : (bits8 (fun _ => false) 12).length = 12 := bits8_len _ _
  have HS12 := Lib.hid (sealL_len (bits8 (fun _ => false) 12))
  have HSd := Lib.hid (sealL_sealed (b := bits8 (fun _ => false) 12) (by rw [hz12]; exact Nat.le_refl _))
  go_enter Try.func7, Try.ntmps7
  go_wp2_with (at_make; refine wpList_make_zeros _ rfl (.const (.int .i64 12)) (.const (.int .i64 12)) 24 rfl Try.underlying24 _ 12 rfl rfl rfl (by omega) ?_; intro w1 hrow hb1)
  have hS := seal_any (some ⟨w.heap.size, 0, none⟩) 12 (bits8 (fun _ => false) 12) w1 (hrow.lies hrow.lt) (by rw [hz12]; exact Nat.le_refl _) (by unfold maxLen; omega) (by rw [hz12]; exact Nat.le_refl _) (by rw [hz12]; omega)
  rw [hz12] at hS
  rw [hz12] at HS12
  clear hrow hz12
  generalize sealL (bits8 (fun _ => false) 12) = sl at *
  refine hS.mono ?_
  rintro e w2 ⟨A2, c2, rfl, hown, b2⟩
  have hcap := own_cap hown
  have HO := Lib.hid hown
  have hb2 := hb1.trans (b2.mono hb1.size)
  clear hown hS b2 hb1
  go_wp2_with (at_make; refine wpList_make_zeros _ rfl (.const (.int .i64 11)) (.const (.int .i64 11)) 24 rfl Try.underlying24 _ 11 rfl rfl rfl (by omega) ?_; intro w3 _ hb3)
  have HO3 := Lib.hid (own_below' HO.out hb3)
  have hb3' := hb2.trans (hb3.mono hb2.size)
  refine (seal_no _ 11 11 w3 (by omega)).mono ?_
  rintro e w4 ⟨rfl, rfl⟩
  go_wp2_with fail
  refine (packet_no none 0 0 w3 (by omega)).mono ?_
  rintro e w4 ⟨rfl, rfl⟩
  clear HO hb2 hb3
  go_wp2_with fail
  refine (sum_txt w3).mono ?_
  rintro e w4 ⟨rfl, b4⟩
  have HO4 := Lib.hid (own_below' HO3.out b4)
  have hb4 := hb3'.trans (b4.mono hb3'.size)
  clear HO3 b4 hb3'
  go_wp2_with fail
  refine (slow_txt w4).mono ?_
  rintro e w5 ⟨rfl, b5⟩
  have HO5 := Lib.hid (own_below' HO4.out b5)
  have hb5 := hb4.trans (b5.mono hb4.size)
  clear HO4 b5 hb4
  go_wp2_with fail
  refine (sum_nil w5).mono ?_
  rintro e w6 ⟨rfl, b6⟩
  have HO6 := own_below' HO5.out b6
  have hb6 := hb5.trans (b6.mono hb5.size)
  have hC := csealed_any A2 c2 sl w6 (Lies.own HO6) (by rw [HS12.out]; exact hcap.2.1) hcap.2.2 (by rw [HS12.out]; omega)
  rw [HS12.out, HSd.out] at hC
  clear HO5 HO6 b6 hb5
  go_wp2_with fail
  refine hC.mono ?_
  rintro e w7 ⟨rfl, b7⟩
  have hb7 := hb6.trans (b7.mono hb6.size)
  clear hb6 b7 hC
  go_wp2_with fail
  refine (csealed_nil w7).mono ?_
  rintro e w8 ⟨rfl, b8⟩
  have hb8 := hb7.trans (b8.mono hb7.size)
  go_wp2_with fail
  go_ret
  exact ⟨rfl, hb8⟩
end Go.Proofs.Ytgjedidpimncaaa
