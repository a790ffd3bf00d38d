/- Layer 7: awake, the examples that every statement checks first. It writes nothing that was there. -/
import Derived.Test.YtemjiijfndnhbaaShapeD
namespace Go.Proofs.Ytemjiijfndnhbaa
open Go.RowKit

theorem Whole.form7 {w : World} {g : Nat} {t : TypeId} {v0 v1 v2 v3 v4 v5 v6 : Value} (h : Whole w g t #[v0, v1, v2, v3, v4, v5, v6]) :
    w.cell? ⟨g, 0, none⟩ = some v0 ∧ w.cell? ⟨g, 1, none⟩ = some v1 ∧ w.cell? ⟨g, 2, none⟩ = some v2 ∧ w.cell? ⟨g, 3, none⟩ = some v3 ∧ w.cell? ⟨g, 4, none⟩ = some v4 ∧ w.cell? ⟨g, 5, none⟩ = some v5 ∧ w.cell? ⟨g, 6, none⟩ = some v6 :=
  ⟨h.cell 0, h.cell 1, h.cell 2, h.cell 3, h.cell 4, h.cell 5, h.cell 6⟩
def rcName : ByteArray := ⟨#[114, 101, 99, 111, 110, 102, 105, 103, 45, 114, 101, 115, 112, 111, 110, 115, 101]⟩
theorem look16 : ∃ cl ty lo hi un ki, look (tab 1) 16 = some ⟨cl, ty, rcName, lo, hi, un, ki⟩ ∧ Tame ⟨cl, ty, rcName, lo, hi, un, ki⟩ ∧
    fitsB ⟨cl, ty, rcName, lo, hi, un, ki⟩ 8 = true ∧ fitsB ⟨cl, ty, rcName, lo, hi, un, ki⟩ 16 = true ∧ fitsB ⟨cl, ty, rcName, lo, hi, un, ki⟩ 12 = false :=
  ⟨1, 16, 8, 16, 8, 0, rfl, ⟨by decide, by decide, by decide⟩, rfl, rfl, rfl⟩

set_option maxRecDepth 100000 in
set_option maxHeartbeats 4000000 in
theorem awake_any (w : World) : Calls Try.prog 8 #[] w fun e w' => e = .returned (.bool true) ∧ Below w.heap.size w w' := by
  obtain ⟨cl, ty, lo, hi, un, ki, hk, hT, h8, h16, h12⟩ := look16
  have hO := of_any 1 16
  have hO2 := of_any 1 2
  rw [hk] at hO
  rw [show look (tab 1) 2 = none from rfl] at hO2
  have hI := inside_any 3
  have hF8 := fits_any _ hT 8
  have hF16 := fits_any _ hT 16
  have hF12 := fits_any _ hT 12
  rw [h8] at hF8
  rw [h16] at hF16
  rw [h12] at hF12
  have hT1 := types_any 1
  have hT2 := types_any 2
  have hT0 := types_any 0
  rw [show (tab 1).length = 27 from rfl] at hT1
  rw [show (tab 2).length = 19 from rfl] at hT2
  rw [show (tab 0).length = 0 from rfl] at hT0
  rw [show ins 3 = (2, 1, 16384) from rfl] at hI
  have HN : Hid (rcName.toList = [114, 101, 99, 111, 110, 102, 105, 103, 45, 114, 101, 115, 112, 111, 110, 115, 101]) := by
    unfold Hid
    rw [ByteArray.toList_eq]
    rfl
  have e16 : hv 16 = .int .u16 16 := rfl
  have e2 : hv 2 = .int .u16 2 := rfl
  rw [e16] at hO
  rw [e2] at hO2
  generalize rcName = nm at *
  clear hT h8 h16 h12 hk e16 e2
  unfold ofV Form.val at hO
  unfold ofV at hO2
  unfold Form.val at hF8 hF16 hF12
  simp only [] at hO hO2 hF8 hF16 hF12 hI
  have hneq := HN.out
  go_enter Try.func8, Try.ntmps8
  go_wp2_with fail
  refine (hO _).mono ?_
  rintro e w1 ⟨rfl, b1⟩
  go_wp2_with (refine wpList_new_form rfl 25 _ _ rfl w1 _ _ rfl rfl rfl (by kernel_rfl) rfl ?_)
  have hW1 := Whole.new w1 25 #[.int .i64 cl, hv ty, .string nm, .int .i64 lo, .int .i64 hi, .int .i64 un, .int .i64 ki]
  have hb1 : Below w.heap.size w (w1.alloc (.cells #[.int .i64 cl, hv ty, .string nm, .int .i64 lo, .int .i64 hi, .int .i64 un, .int .i64 ki] 25)) := b1.alloc b1.size _
  generalize w1.alloc (.cells #[.int .i64 cl, hv ty, .string nm, .int .i64 lo, .int .i64 hi, .int .i64 un, .int .i64 ki] 25) = w2 at *
  go_wp2_with fail
  refine (hO2 _).mono ?_
  rintro e w3 ⟨rfl, b3⟩
  have hW3 := hW1.below b3 hW1.lt
  have hb3 := hb1.trans (b3.mono hb1.size)
  clear hW1 hb1 b3
  go_wp2_with (refine wpList_new_form rfl 25 _ _ rfl w3 _ _ rfl rfl rfl (by kernel_rfl) rfl ?_)
  have hW4 := hW3.alloc (.cells #[.int .i64 0, .int .u16 0, .string ByteArray.empty, .int .i64 0, .int .i64 0, .int .i64 0, .int .i64 0] 25)
  have hb4 := hb3.alloc hb3.size (.cells #[.int .i64 0, .int .u16 0, .string ByteArray.empty, .int .i64 0, .int .i64 0, .int .i64 0, .int .i64 0] 25)
  generalize w3.alloc (.cells #[.int .i64 0, .int .u16 0, .string ByteArray.empty, .int .i64 0, .int .i64 0, .int .i64 0, .int .i64 0] 25) = w4 at *
  clear hW3 hb3
  obtain ⟨c0, c1, c2, c3, c4, c5, c6⟩ := hW4.form7
  go_wp2_with fail
  refine (hI _).mono ?_
  rintro e w5 ⟨rfl, rfl⟩
  go_wp2_with fail
  refine (hF8 _).mono ?_
  rintro e w5 ⟨rfl, b5⟩
  have hW5 := hW4.below b5 hW4.lt
  have hb5 := hb4.trans (b5.mono hb4.size)
  clear hW4 hb4 b5 c0 c1 c2 c3 c4 c5 c6
  obtain ⟨c0, c1, c2, c3, c4, c5, c6⟩ := hW5.form7
  go_wp2_with fail
  refine (hF16 _).mono ?_
  rintro e w6 ⟨rfl, b6⟩
  have hW6 := hW5.below b6 hW5.lt
  have hb6 := hb5.trans (b6.mono hb5.size)
  clear hW5 hb5 b6 c0 c1 c2 c3 c4 c5 c6
  obtain ⟨c0, c1, c2, c3, c4, c5, c6⟩ := hW6.form7
  go_wp2_with fail
  refine (hF12 _).mono ?_
  rintro e w7 ⟨rfl, b7⟩
  have hb7 := hb6.trans (b7.mono hb6.size)
  clear hW6 hb6 b7 c0 c1 c2 c3 c4 c5 c6
  go_wp2_with fail
  refine (hT1 _).mono ?_
  rintro e w8 ⟨A8, n8, rfl, _, b8⟩
  have hb8 := hb7.trans (b8.mono hb7.size)
  go_wp2_with fail
  refine (hT2 _).mono ?_
  rintro e w9 ⟨A9, n9, rfl, _, b9⟩
  have hb9 := hb8.trans (b9.mono hb8.size)
  go_wp2_with fail
  refine (hT0 _).mono ?_
  rintro e w10 ⟨A10, n10, rfl, _, b10⟩
  have hb10 := hb9.trans (b10.mono hb9.size)
  go_wp2_with fail
  go_ret
  exact ⟨rfl, hb10⟩
end Go.Proofs.Ytemjiijfndnhbaa
