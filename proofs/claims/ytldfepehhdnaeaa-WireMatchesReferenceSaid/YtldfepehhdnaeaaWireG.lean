/- Layer 1: the fixed examples that every statement checks first: awake returns true and writes nothing that was there. -/
import Derived.Test.YtldfepehhdnaeaaWireF
namespace Go.Proofs.Ytldfepehhdnaeaa
open Go.RowKit

def aw : List UInt8 := [1, 2, 0, 3]
def awn : List UInt32 := [258, 3]

theorem aw_put (w : World) : Calls Try.prog 20 #[.int .i64 2, .slice (some ⟨w.heap.size, 0, none⟩) 2 2] (w.alloc (.cells #[.int .u32 258, .int .u32 3] 32)) fun e w' => ∃ A c, e = .returned (.slice A 4 c) ∧
    w'.ownsRow w.heap.size 5 1 (.slice A 4 c) 4 (aw.map bv) ∧ Below w.heap.size w w' := by
  have hl : Lies (w.alloc (.cells #[.int .u32 258, .int .u32 3] 32)) (w.alloc (.cells #[.int .u32 258, .int .u32 3] 32)).heap.size (some ⟨w.heap.size, 0, none⟩) (awn.map uv) :=
    (Lies.newN w (awn.map uv) 32).more (by simp)
  refine (put_any 2 (.inr (.inl rfl)) _ 2 awn _ hl (by decide)).mono ?_
  rintro e w' ⟨A, c, rfl, hown, hb⟩
  have h2 : puts 2 awn = aw := by decide
  rw [h2] at hown
  exact ⟨A, c, rfl, own_base hown (by simp), ((Below.refl _ w).alloc (Nat.le_refl _) _).trans (hb.mono (by simp))⟩
theorem aw_new (w : World) (A : Option Addr) (c base : Nat) (h : w.ownsRow base 5 1 (.slice A 4 c) 4 (aw.map bv)) :
    Calls Try.prog 8 #[.slice A 4 c] w fun e w' => ∃ g A2 c2, e = .returned (.pointer (some ⟨g, 0, none⟩)) ∧ Cur w' w.heap.size g A2 c2 aw 0 ∧ Below w.heap.size w w' :=
  new_any A c aw w (Lies.own h) (own_cap h).2.1 (own_cap h).2.2 (by decide)
theorem aw_number {w : World} {base g c : Nat} {A : Option Addr} (h : Cur w base g A c aw 0) : Calls Try.prog 11 #[.pointer (some ⟨g, 0, none⟩), .int .i64 2] w fun e w' =>
    e = .returned (.tuple #[.int .u32 258, .bool true]) ∧ Cur w' base g A c aw 2 ∧ w.grownBy w' (some g) := cnumber_yes h 2 rfl (by decide)
theorem aw_peek {w : World} {base g c : Nat} {A : Option Addr} (h : Cur w base g A c aw 2) : Calls Try.prog 13 #[.pointer (some ⟨g, 0, none⟩), .int .i64 1] w fun e w' =>
    e = .returned (.tuple #[.int .u32 0, .bool true]) ∧ ∃ q, w' = w.drewN q := peek_yes h 1 rfl (by decide)
theorem aw_take {w : World} {base g c : Nat} {A : Option Addr} (h : Cur w base g A c aw 2) : Calls Try.prog 9 #[.pointer (some ⟨g, 0, none⟩), .int .i64 3] w fun e w' =>
    e = .returned (.tuple #[.slice none 0 0, .bool false]) ∧ ∃ q, w' = w.drewN q := take_no h 3 (by decide)
theorem aw_same (w : World) (A : Option Addr) (c base : Nat) (h : w.ownsRow base 5 1 (.slice A 4 c) 4 (aw.map bv)) :
    Calls Try.prog 10 #[.slice A 4 c, .slice (some ⟨w.heap.size, 0, none⟩) 4 4] (w.alloc (.cells #[.int .u8 1, .int .u8 2, .int .u8 0, .int .u8 3] 5)) fun e w' => e = .returned (.bool true) ∧ ∃ q, w' = (w.alloc (.cells #[.int .u8 1, .int .u8 2, .int .u8 0, .int .u8 3] 5)).drewN q :=
  same_any A _ c 4 _ aw aw _ (((Lies.own h).alloc (Nat.le_refl _) _).more (Nat.le_succ _)) (Lies.newN w (aw.map bv) 5) (by decide)
theorem aw_numbers (w : World) (A : Option Addr) (c base : Nat) (h : w.ownsRow base 5 1 (.slice A 4 c) 4 (aw.map bv)) :
    Calls Try.prog 16 #[.int .i64 2, .slice A 4 c] w fun e w' => ∃ A' c', e = .returned (.slice A' 2 c') ∧ w'.ownsRow w.heap.size 32 1 (.slice A' 2 c') 2 (awn.map uv) ∧ Below w.heap.size w w' := by
  have h2 : nums 2 aw = awn := by decide
  have := numbersF_any 2 rfl A c aw w (Lies.own h) rfl (by decide) (own_cap h).2.1
  rw [h2] at this
  exact this
theorem aw_equal (w : World) (A : Option Addr) (c base : Nat) (h : w.ownsRow base 32 1 (.slice A 2 c) 2 (awn.map uv)) :
    Calls Try.prog 17 #[.slice A 2 c, .slice (some ⟨w.heap.size, 0, none⟩) 2 2] (w.alloc (.cells #[.int .u32 258, .int .u32 3] 32)) fun e w' => e = .returned (.bool true) ∧ ∃ q, w' = (w.alloc (.cells #[.int .u32 258, .int .u32 3] 32)).drewN q :=
  equal32_any A _ c 2 _ awn awn _ (((Lies.own h).alloc (Nat.le_refl _) _).more (Nat.le_succ _)) (Lies.newN w (awn.map uv) 32) (by decide)
theorem aw_left {w : World} {base g c : Nat} {A : Option Addr} (h : Cur w base g A c aw 2) : Calls Try.prog 15 #[.pointer (some ⟨g, 0, none⟩)] w fun e w' => e = .returned (.int .i64 2) ∧ ∃ q, w' = w.drewN q := left_any h

set_option maxHeartbeats 1000000 in
theorem awake_any (w : World) : Calls Try.prog 7 #[] w fun e w' => e = .returned (.bool true) ∧ Below w.heap.size w w' := by
  go_enter Try.func7, Try.ntmps7
  go_wp2_with fail
  refine (aw_put w).mono ?_
  rintro e w1 ⟨A1, c1, rfl, own1, b1⟩
  go_wp2_with fail
  refine (aw_new w1 A1 c1 _ own1).mono ?_
  rintro e w2 ⟨g, A2, c2, rfl, cur2, b2⟩
  have own2 := own_below' own1 b2
  go_wp2_with fail
  refine (aw_number cur2).mono ?_
  rintro e w3 ⟨rfl, cur3, g3⟩
  have own3 := own2.kept g3 (.inr fun e => by have := (own1.lt g e).2; have := cur2.base_le; omega)
  have b13 : Below w1.heap.size w1 w3 := b2.grown g3 b2.size (fun k e => by cases e; exact cur2.base_le)
  have b03 : Below w.heap.size w w3 := b1.trans (b13.mono b1.size)
  clear own1 own2 cur2 b1 b2 b13 g3
  go_wp2_with fail
  refine (aw_peek cur3).mono ?_
  rintro e w4 ⟨rfl, q4, h4⟩
  have cur4 : Cur w4 w1.heap.size g A2 c2 aw 2 := by rw [h4]; exact cur3.drewN _
  have own4 : w4.ownsRow w.heap.size 5 1 (.slice A1 4 c1) 4 (aw.map bv) := by rw [h4]; exact own3
  have b4 : Below w.heap.size w w4 := by rw [h4]; exact below_drewN b03 _
  clear h4 own3 cur3 b03
  go_wp2_with fail
  refine (aw_take cur4).mono ?_
  rintro e w5 ⟨rfl, q5, h5⟩
  have cur5 : Cur w5 w1.heap.size g A2 c2 aw 2 := by rw [h5]; exact cur4.drewN _
  have own5 : w5.ownsRow w.heap.size 5 1 (.slice A1 4 c1) 4 (aw.map bv) := by rw [h5]; exact own4
  have b5 : Below w.heap.size w w5 := by rw [h5]; exact below_drewN b4 _
  clear h5 own4 cur4 b4
  go_wp2_with fail
  refine (aw_same w5 A1 c1 _ own5).mono ?_
  rintro e w6 ⟨rfl, q6, h6⟩
  have b56 : Below w5.heap.size w5 w6 := by rw [h6]; exact below_drewN ((Below.refl _ _).alloc (Nat.le_refl _) _) _
  have cur6 := cur5.below b56
  have own6 := own_below' own5 b56
  have b6 := b5.trans (b56.mono b5.size)
  clear h6 own5 cur5 b5 b56
  go_wp2_with fail
  refine (aw_numbers w6 A1 c1 _ own6).mono ?_
  rintro e w7 ⟨A7, c7, rfl, own7, b67⟩
  have cur7 := cur6.below b67
  have b7 := b6.trans (b67.mono b6.size)
  clear own6 cur6 b6 b67
  go_wp2_with fail
  refine (aw_equal w7 A7 c7 _ own7).mono ?_
  rintro e w8 ⟨rfl, q8, h8⟩
  have b78 : Below w7.heap.size w7 w8 := by rw [h8]; exact below_drewN ((Below.refl _ _).alloc (Nat.le_refl _) _) _
  have cur8 := cur7.below b78
  have b8 := b7.trans (b78.mono b7.size)
  clear h8 own7 cur7 b7 b78
  go_wp2_with fail
  refine (at_any cur8).mono ?_
  rintro e w9 ⟨rfl, rfl⟩
  go_wp2_with fail
  refine (aw_left cur8).mono ?_
  rintro e w9 ⟨rfl, q9, h9⟩
  have b9 : Below w.heap.size w w9 := by rw [h9]; exact below_drewN b8 _
  clear h9 cur8 b8
  go_wp2_with fail
  refine (put_bad 3 _ 1 1 _ rfl).mono ?_
  rintro e w10 ⟨rfl, h10⟩
  have b10 : Below w.heap.size w w10 := by rw [← h10]; exact b9.alloc b9.size _
  clear h10 b9
  go_wp2_with fail
  refine (left_nil w10).mono ?_
  rintro e w11 ⟨rfl, rfl⟩
  go_wp2_with fail
  go_ret
  exact ⟨rfl, b10⟩
end Go.Proofs.Ytldfepehhdnaeaa
