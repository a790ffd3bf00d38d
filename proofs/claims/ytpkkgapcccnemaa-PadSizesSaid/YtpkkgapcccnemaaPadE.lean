/- Layer 3: the fixed examples that every statement checks first: awake returns true and writes nothing that was there. -/
import Derived.Test.YtpkkgapcccnemaaPadD
namespace Go.Proofs.Ytpkkgapcccnemaa
open Go.RowKit

abbrev wal (w : World) (t : TypeId) (us : List Value) : World := w.alloc (.cells us.toArray t)
theorem below_wal (w : World) (t : TypeId) (us : List Value) : Below w.heap.size w (wal w t us) := (Below.refl _ w).alloc (Nat.le_refl _) _

theorem aw_next1 (w : World) : Calls Try.prog 16 #[.slice (some ⟨w.heap.size, 0, none⟩) 4 4, .int .i64 1] (w.alloc (.cells #[.int .u8 1, .int .u8 0, .int .u8 0, .int .u8 0] 5)) fun e w' =>
    e = .returned (.tuple #[.int .i64 4, .bool true]) ∧ Below w.heap.size w w' := by
  have h := next_any (some ⟨w.heap.size, 0, none⟩) 4 [1, 0, 0, 0] 1 (wal w 5 (([1, 0, 0, 0] : List UInt8).map bv)) ((Lies.newN w _ _).more (by simp [wal])) (by decide) (by decide)
  exact h.mono fun e w' ⟨h1, h2⟩ => ⟨h1, by rw [← h2]; exact below_wal _ _ _⟩
theorem aw_next2 (w : World) : Calls Try.prog 16 #[.slice (some ⟨w.heap.size, 0, none⟩) 3 3, .int .i64 1] (w.alloc (.cells #[.int .u8 1, .int .u8 0, .int .u8 0] 5)) fun e w' =>
    e = .returned (.tuple #[.int .i64 0, .bool false]) ∧ Below w.heap.size w w' := by
  have h := next_any (some ⟨w.heap.size, 0, none⟩) 3 [1, 0, 0] 1 (wal w 5 (([1, 0, 0] : List UInt8).map bv)) ((Lies.newN w _ _).more (by simp [wal])) (by decide) (by decide)
  exact h.mono fun e w' ⟨h1, h2⟩ => ⟨h1, by rw [← h2]; exact below_wal _ _ _⟩
theorem aw_sizes (w : World) : Calls Try.prog 18 #[.slice (some ⟨w.heap.size, 0, none⟩) 2 2] (w.alloc (.cells #[.int .i64 5, .int .i64 6] 3)) fun e w' =>
    e = .returned (.int .i64 14) ∧ Below w.heap.size w w' := by
  have h := sizes_any (some ⟨w.heap.size, 0, none⟩) 2 [5, 6] (wal w 3 (([5, 6] : List Nat).map iv)) ((Lies.newN w _ _).more (by simp [wal])) (by decide)
    (fun i x hx => by match i, hx with
      | 0, hx => simp at hx; omega
      | 1, hx => simp at hx; omega
      | i + 2, hx => simp at hx)
  exact h.mono fun e w' ⟨h1, h2⟩ => ⟨h1, (below_wal _ _ _).trans (h2.mono (by simp [wal]))⟩
theorem aw_bytes (w : World) : Calls Try.prog 8 #[.slice (some ⟨w.heap.size, 0, none⟩) 1 1] (w.alloc (.cells #[.int .u8 7] 5)) fun e w' =>
    ∃ A' c', e = .returned (.slice A' 4 c') ∧ w'.ownsRow w.heap.size 5 1 (.slice A' 4 c') 4 (([7, 0, 0, 0] : List UInt8).map bv) ∧ Below w.heap.size w w' := by
  have h := bytes_any (some ⟨w.heap.size, 0, none⟩) 1 [7] (wal w 5 (([7] : List UInt8).map bv)) ((Lies.newN w _ _).more (by simp [wal])) (by decide)
  exact h.mono fun e w' ⟨A', c', h1, h2, h3⟩ => ⟨A', c', h1, own_base h2 (by simp [wal]), (below_wal _ _ _).trans (h3.mono (by simp [wal]))⟩
theorem aw_same (w : World) (A : Option Addr) (c base : Nat) (h : w.ownsRow base 5 1 (.slice A 4 c) 4 (([7, 0, 0, 0] : List UInt8).map bv)) :
    Calls Try.prog 12 #[.slice A 4 c, .slice (some ⟨w.heap.size, 0, none⟩) 4 4] (w.alloc (.cells #[.int .u8 7, .int .u8 0, .int .u8 0, .int .u8 0] 5)) fun e w' => e = .returned (.bool true) ∧ Below w.heap.size w w' := by
  have h := same_any A (some ⟨w.heap.size, 0, none⟩) c 4 (w.heap.size + 1) [7, 0, 0, 0] [7, 0, 0, 0] (wal w 5 (([7, 0, 0, 0] : List UInt8).map bv)) (((Lies.own h).alloc (Nat.le_refl _) _).more (by omega)) (Lies.newN w _ _) (by decide)
  exact h.mono fun e w' ⟨h1, q, h2⟩ => ⟨h1, by rw [h2]; exact below_drewN (below_wal _ _ _) _⟩
theorem aw_zero (w : World) : Calls Try.prog 14 #[.slice (some ⟨w.heap.size, 0, none⟩) 2 2] (w.alloc (.cells #[.int .u8 0, .int .u8 1] 5)) fun e w' => e = .returned (.bool false) ∧ Below w.heap.size w w' := by
  have h := zero_any (some ⟨w.heap.size, 0, none⟩) 2 (w.heap.size + 1) [0, 1] (wal w 5 (([0, 1] : List UInt8).map bv)) (Lies.newN w _ _) (by decide)
  exact h.mono fun e w' ⟨h1, h2⟩ => ⟨h1, by rw [← h2]; exact below_wal _ _ _⟩
theorem aw_zero0 (w : World) : Calls Try.prog 14 #[.slice none 0 0] w fun e w' => e = .returned (.bool true) ∧ w = w' := zero_any none 0 0 [] w Lies.nil (by decide)
theorem aw_gap (w : World) : Calls Try.prog 9 #[.int .i64 5] w fun e w' => e = .returned (.int .i64 3) ∧ w = w' := gap_any 5 (by decide) w
theorem aw_up (w : World) : Calls Try.prog 11 #[.int .i64 5] w fun e w' => e = .returned (.int .i64 8) ∧ w = w' := up_any 5 (by decide) w

set_option maxHeartbeats 1000000 in
theorem awake_any (w : World) : Calls Try.prog 7 #[] w fun e w' => e = .returned (.bool true) ∧ Below w.heap.size w w' := by
  go_enter Try.func7, Try.ntmps7
  go_wp2_with fail
  refine (aw_next1 w).mono ?_
  rintro e w1 ⟨rfl, b1⟩
  go_wp2_with fail
  refine (aw_next2 w1).mono ?_
  rintro e w2 ⟨rfl, b12⟩
  have b2 := b1.trans (b12.mono b1.size)
  clear b1 b12
  go_wp2_with fail
  refine (aw_gap w2).mono ?_
  rintro e w3 ⟨rfl, rfl⟩
  go_wp2_with fail
  refine (aw_up w2).mono ?_
  rintro e w3 ⟨rfl, rfl⟩
  go_wp2_with fail
  refine (aw_sizes w2).mono ?_
  rintro e w3 ⟨rfl, b23⟩
  have b3 := b2.trans (b23.mono b2.size)
  clear b2 b23
  go_wp2_with fail
  refine (aw_bytes w3).mono ?_
  rintro e w4 ⟨A4, c4, rfl, own4, b34⟩
  have b4 := b3.trans (b34.mono b3.size)
  clear b3 b34
  go_wp2_with fail
  refine (aw_same w4 A4 c4 _ own4).mono ?_
  rintro e w5 ⟨rfl, b45⟩
  have b5 := b4.trans (b45.mono b4.size)
  clear b4 b45 own4
  go_wp2_with fail
  refine (aw_zero0 w5).mono ?_
  rintro e w6 ⟨rfl, rfl⟩
  go_wp2_with fail
  refine (aw_zero w5).mono ?_
  rintro e w6 ⟨rfl, b56⟩
  have b6 := b5.trans (b56.mono b5.size)
  clear b5 b56
  go_wp2_with fail
  go_ret
  exact ⟨rfl, b6⟩
end Go.Proofs.Ytpkkgapcccnemaa
