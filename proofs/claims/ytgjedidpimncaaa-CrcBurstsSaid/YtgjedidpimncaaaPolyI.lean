/- Layer 4, package poly: polynomials of ones, the generator, those of bytes, and words, for whatever arguments. -/
import Derived.Test.YtgjedidpimncaaaPolyH
namespace Go.Proofs.Ytgjedidpimncaaa
open Go.RowKit

abbrev wal (w : World) (t : TypeId) (us : List Value) : World := w.alloc (.cells us.toArray t)
theorem below_wal (w : World) (t : TypeId) (us : List Value) : Below w.heap.size w (wal w t us) := (Below.refl _ w).alloc (Nat.le_refl _) _

/-! ### Ones -/
theorem ones_neg (n : Int) (w : World) (hn : n < 1) :
    Calls Try.prog 30 #[.int .i64 n] w fun e w' => e = .returned (.slice none 0 0) ∧ w = w' := by
  go_enter Try.func30, Try.ntmps30
  go_wp2_with fail
  go_ret
  exact ⟨rfl, rfl⟩
theorem ones_step (n k : Nat) : (bits8 (fun i => decide (i < k)) n).set k 1 = bits8 (fun i => decide (i < k + 1)) n := by
  rw [show (1 : UInt8) = b8 true from rfl, bits8_set]
  refine bits8_congr fun i _ => ?_
  unfold upd
  by_cases e : i = k
  · simp [e]
  · rw [if_neg e, show decide (i < k + 1) = decide (i < k) from decide_eq_decide.2 (by omega)]
theorem ones_any (n : Nat) (w : World) (hn : n ≤ 10000) (h0 : 0 < n) :
    Calls Try.prog 30 #[.int .i64 (n : Int)] w fun e w' => e = .returned (.slice (some ⟨w.heap.size, 0, none⟩) n n) ∧
      Row w' w.heap.size (List.replicate n 1) ∧ Below w.heap.size w w' := by
  go_enter Try.func30, Try.ntmps30
  go_wp2_with (at_make; refine wpList_make_zeros _ rfl (.tmp 11) (.tmp 11) 50 rfl Try.underlying50 _ n rfl rfl rfl (by omega) ?_; intro w1 hrow hb1)
  go_loopw [15] (fun i wr => ∃ k : Nat, k ≤ n ∧ i = .int .i64 k ∧ Row wr w.heap.size (bits8 (fun i => decide (i < k)) n) ∧ Below w.heap.size w wr) (fun i _ => n - (intOf i).toNat)
  case atStart => exact ⟨0, Nat.zero_le _, rfl, by simpa using hrow, hb1⟩
  case round =>
    obtain ⟨k, hk, rfl, hrk, hbk⟩ := hrel
    by_cases hlt : k < n
    · have hc2 := hrk.byte (bits8_at _ hlt)
      have hf2 := Whole.frozen hrk k
      have HS := Lib.hid (hrk.store k 1)
      rw [ones_step] at HS
      have HB := Lib.hid (hbk.setCell (p := ⟨w.heap.size, k, none⟩) (Nat.le_refl _) (.int .u8 (((1 : UInt8).toNat : Nat) : Int)))
      clear hrk
      go_wp2
      go_roundw
      case rel => exact ⟨k + 1, by omega, by go_num, HS.out, HB.out⟩
      case measure => simp [intOf]; omega
    · have HE : Hid (bits8 (fun i => decide (i < k)) n = List.replicate n 1) := by
        refine List.ext_getElem? fun i => ?_
        by_cases hi : i < n
        · rw [bits8_at _ hi, decide_eq_true (by omega)]; simp [hi, b8]
        · rw [List.getElem?_eq_none (by rw [bits8_len]; omega), List.getElem?_eq_none (by simp; omega)]
      have H := Lib.hid hrk
      clear hrk
      go_wp2
      go_ret
      exact ⟨rfl, by rw [← HE.out]; exact H.out, hbk⟩

/-! ### the generator -/
def genP : List Nat := [32, 28, 27, 26, 25, 23, 22, 20, 19, 18, 14, 13, 11, 10, 9, 8, 6, 0]
def genL : List UInt8 := bits8 (addP (fun _ => false) genP 0) 33
theorem generator_any (w : World) : Calls Try.prog 44 #[] w fun e w' => e = .returned (.slice (some ⟨w.heap.size, 0, none⟩) 33 33) ∧
      Row w' w.heap.size genL ∧ Below w.heap.size w w' := by
  go_enter Try.func44, Try.ntmps44
  go_wp2_with (at_make; refine wpList_make_zeros _ rfl (.const (.int .i64 33)) (.const (.int .i64 33)) 50 rfl Try.underlying50 _ 33 rfl rfl rfl (by omega) ?_; intro w1 hrow hb1)
  have hlt := hrow.lt
  have hrow2 : Row (wal w1 3 (genP.map iv)) w.heap.size (bits8 (fun _ => false) 33) := hrow.alloc _
  have hfar : Far (wal w1 3 (genP.map iv)) w.heap.size (some ⟨w1.heap.size, 0, none⟩) (genP.map iv) := fun _ =>
    ⟨_, rfl, by show w1.heap.size ≠ w.heap.size; omega, by simp [wal], fun j u hu => by rw [add_row, Whole.cell (Whole.new _ _ _)]; simpa using hu⟩
  have hb2 : Below w.heap.size w (wal w1 3 (genP.map iv)) := hb1.alloc hb1.size _
  refine (addp_any w.heap.size 33 0 18 (some ⟨w1.heap.size, 0, none⟩) genP (fun _ => false) (wal w1 3 (genP.map iv)) hrow2 hfar (by omega) (fun j x h => by
    have := List.mem_of_getElem? h
    simp [genP] at this
    omega) (by simp [genP])).mono ?_
  rintro e w2 ⟨rfl, hr2, hg2⟩
  have HB := Lib.hid (hb2.grown hg2 hb2.size (fun j e => by cases e; exact Nat.le_refl _))
  have HR : Hid (Row w2 w.heap.size genL) := hr2
  clear hr2 hg2
  go_wp2
  go_ret
  exact ⟨rfl, HR.out, HB.out⟩
end Go.Proofs.Ytgjedidpimncaaa
