/- Layer 4: the fixed examples that every statement checks first: awake returns true and writes nothing that was there. -/
import Derived.Test.YtembggidhmdnfaaPolyQ
namespace Go.Proofs.Ytembggidhmdnfaa
open Go.RowKit

theorem one_holds {f : Nat → Bool} {A : Option Addr} {n c : Nat} {L : List UInt8} {w : World} (h : Holds w f A n c L) (e : ∀ i, f i = co [1] i) :
    Calls Try.prog 11 #[.slice A n c, .slice (some ⟨w.heap.size, 0, none⟩) 1 1] (w.alloc (.cells #[.int .u8 1] 5)) fun e w' => e = .returned (.bool true) ∧ Below w.heap.size w w' :=
  same_lit (M := [1]) h (by decide) e (by rw [← h.len]; have := h.can.le (N := 1) (fun i hi => by rw [e]; exact co_out hi); omega)
theorem three_holds {f : Nat → Bool} {A : Option Addr} {n c : Nat} {L : List UInt8} {w : World} (h : Holds w f A n c L) (e : ∀ i, f i = co [1, 0, 1] i) :
    Calls Try.prog 11 #[.slice A n c, .slice (some ⟨w.heap.size, 0, none⟩) 3 3] (w.alloc (.cells #[.int .u8 1, .int .u8 0, .int .u8 1] 5)) fun e w' => e = .returned (.bool true) ∧ Below w.heap.size w w' :=
  same_lit (M := [1, 0, 1]) h (by decide) e (by rw [← h.len]; have := h.can.le (N := 3) (fun i hi => by rw [e]; exact co_out hi); omega)
theorem ones_holds {f : Nat → Bool} {A : Option Addr} {n c : Nat} {L : List UInt8} {w : World} (h : Holds w f A n c L) (e : ∀ i, f i = co [1, 1, 1] i) :
    Calls Try.prog 11 #[.slice A n c, .slice (some ⟨w.heap.size, 0, none⟩) 3 3] (w.alloc (.cells #[.int .u8 1, .int .u8 1, .int .u8 1] 5)) fun e w' => e = .returned (.bool true) ∧ Below w.heap.size w w' :=
  same_lit (M := [1, 1, 1]) h (by decide) e (by rw [← h.len]; have := h.can.le (N := 3) (fun i hi => by rw [e]; exact co_out hi); omega)

set_option maxHeartbeats 1000000 in
theorem awake_any (w : World) : Calls Try.prog 8 #[] w fun e w' => e = .returned (.bool true) ∧ Below w.heap.size w w' := by
  have hx : Holds (w.alloc (.cells #[.int .u8 1, .int .u8 1] 5)) (co [1, 1]) (some ⟨w.heap.size, 0, none⟩) 2 2 [1, 1] := lit_holds w [1, 1] (by decide)
  have hb : Below w.heap.size w (w.alloc (.cells #[.int .u8 1, .int .u8 1] 5)) := below_wal _ _ _
  have hs : w.heap.size + 1 = (w.alloc (.cells #[.int .u8 1, .int .u8 1] 5)).heap.size := (size_alloc _ _).symm
  go_enter Try.func8, Try.ntmps8
  go_upto_region 2 with fail
  generalize w.alloc (.cells #[.int .u8 1, .int .u8 1] 5) = w1 at *
  clear hs
  go_wp2_with fail
  refine (aw_mod1 w1 (some ⟨w.heap.size, 0, none⟩) 2 hx.lies).mono ?_
  rintro e w2 ⟨A2, n2, c2, L2, rfl, h2, b12⟩
  have hx2 := hx.below b12
  have b2 := hb.trans (b12.mono hb.size)
  clear hb b12 hx
  go_wp2_with fail
  refine (aw_mod2 w2 (some ⟨w.heap.size, 0, none⟩) 2).mono ?_
  rintro e w3 ⟨rfl, b23⟩
  have hx3 := hx2.below b23
  have h23 := h2.below b23
  have b3 := b2.trans (b23.mono b2.size)
  clear b2 b23 hx2 h2
  go_wp2_with fail
  refine (aw_of w3).mono ?_
  rintro e w4 ⟨A4, n4, c4, L4, rfl, h4, b34⟩
  have hx4 := hx3.below b34
  have h24 := h23.below b34
  have b4 := b3.trans (b34.mono b3.size)
  clear b3 b34 hx3 h23
  have hn4 : n4 ≤ 32 := by rw [← h4.len]; exact h4.can.le fun i hi => ofB_out (by simpa using hi)
  have hW := word_holds h4 hn4
  rw [aw_word] at hW
  go_wp2_with fail
  refine hW.mono ?_
  rintro e w5 ⟨rfl, rfl⟩
  clear hW h4 hn4
  go_wp2_with fail
  refine (mul_holds hx4 hx4 (by decide) (by decide)).mono ?_
  rintro e w5 ⟨A5, n5, c5, L5, rfl, h5, b45⟩
  have h25 := h24.below b45
  have b5 := b4.trans (b45.mono b4.size)
  clear b4 b45 hx4 h24
  go_wp2_with fail
  refine (three_holds h5 aw_mul).mono ?_
  rintro e w6 ⟨rfl, b56⟩
  have h26 := h25.below b56
  have b6 := b5.trans (b56.mono b5.size)
  clear b5 b56 h5 h25
  go_wp2_with fail
  refine (one_holds h26 (fun _ => rfl)).mono ?_
  rintro e w7 ⟨rfl, b67⟩
  have b7 := b6.trans (b67.mono b6.size)
  clear b6 b67 h26
  go_wp2_with fail
  refine (aw_deg w7).mono ?_
  rintro e w8 ⟨rfl, rfl⟩
  go_wp2_with fail
  refine (aw_gen w7).mono ?_
  rintro e w8 ⟨A8, L8, rfl, h8, b78⟩
  have b8 := b7.trans (b78.mono b7.size)
  clear b7 b78
  go_wp2_with fail
  refine (degree_holds h8 (by decide)).mono ?_
  rintro e w9 ⟨rfl, rfl⟩
  clear h8
  go_wp2_with fail
  refine (aw_ones w8).mono ?_
  rintro e w9 ⟨A9, L9, rfl, h9, b89⟩
  have b9 := b8.trans (b89.mono b8.size)
  clear b8 b89
  go_wp2_with fail
  refine (ones_holds h9 (fun _ => rfl)).mono ?_
  rintro e w10 ⟨rfl, b910⟩
  have b10 := b9.trans (b910.mono b9.size)
  clear b9 b910 h9
  go_wp2_with fail
  go_ret
  exact ⟨rfl, b10⟩
end Go.Proofs.Ytembggidhmdnfaa
