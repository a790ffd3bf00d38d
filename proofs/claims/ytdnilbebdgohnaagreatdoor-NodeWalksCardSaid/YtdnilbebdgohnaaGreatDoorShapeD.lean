/- Layer 7, package shape: Fits, Inside. They write nothing that was there. -/
import Derived.Test.YtdnilbebdgohnaaGreatDoorShapeC

namespace Go.Proofs.YtdnilbebdgohnaaGreatDoor
open Go.RowKit

/-! ### Fits -/
def fitsB (f : Form) (n : Int) : Bool := decide (f.lo ≤ n) && decide (n ≤ f.hi) && ((n - f.lo) % f.un == 0)
/-- what is in the table: small numbers, and a unit -/
structure Tame (f : Form) : Prop where
  lo : 0 ≤ f.lo ∧ f.lo ≤ 16
  hi : 0 ≤ f.hi ∧ f.hi ≤ 65531
  un : 1 ≤ f.un ∧ f.un ≤ 8

theorem fits_any (f : Form) (hf : Tame f) (n : Int) (w : World) : Calls Tryz.prog 43 #[f.val, .int .i64 n] w fun e w' => e = .returned (.bool (fitsB f n)) ∧ Below w.heap.size w w' := by
  obtain ⟨⟨h1, h2⟩, ⟨h3, h4⟩, h5, h6⟩ := hf
  unfold Form.val fitsB
  have h7 : 0 < f.un := by omega
  by_cases c1 : f.lo ≤ n
  · have hD1 : Hid (decide (f.lo ≤ n) = true) := decide_eq_true c1
    by_cases c2 : n ≤ f.hi
    · have hD2 : Hid (decide (n ≤ f.hi) = true) := decide_eq_true c2
      have hm : (n - f.lo).tmod f.un = (n - f.lo) % f.un := Int.tmod_eq_emod_of_nonneg (by omega)
      go_enter Tryz.func43, Tryz.ntmps43
      go_wp2_with fail
      go_ret
      exact ⟨ret_bool (by rw [hD1.out, hD2.out]; rfl), (Below.refl _ _).alloc (Nat.le_refl _) _⟩
    · have hD2 : Hid (decide (n ≤ f.hi) = false) := decide_eq_false c2
      go_enter Tryz.func43, Tryz.ntmps43
      go_wp2_with fail
      go_ret
      exact ⟨ret_bool (by first | (rw [hD1.out, hD2.out]; rfl) | (rw [hD2.out]; rfl)), (Below.refl _ _).alloc (Nat.le_refl _) _⟩
  · have hD1 : Hid (decide (f.lo ≤ n) = false) := decide_eq_false c1
    go_enter Tryz.func43, Tryz.ntmps43
    go_wp2_with fail
    go_ret
    exact ⟨ret_bool (by rw [hD1.out]; rfl), (Below.refl _ _).alloc (Nat.le_refl _) _⟩
/-! ### Inside -/
/-- the class, the least and the greatest number of nodes inside -/
def ins (k : Int) : Int × Int × Int := if k = 1 then (1, 1, 1) else if k = 4 then (1, 1, 1) else if k = 2 then (1, 1, 16384) else if k = 3 then (2, 1, 16384) else (0, 0, 0)
theorem inside_any (k : Int) (w : World) : Calls Tryz.prog 46 #[.int .i64 k] w fun e w' => e = .returned (.tuple #[.int .i64 (ins k).1, .int .i64 (ins k).2.1, .int .i64 (ins k).2.2]) ∧ w = w' := by
  unfold ins
  by_cases h1 : k = 1
  · subst h1
    go_enter Tryz.func46, Tryz.ntmps46
    go_wp2_with fail
    go_ret3
    exact ⟨rfl, rfl⟩
  · by_cases h4 : k = 4
    · subst h4
      go_enter Tryz.func46, Tryz.ntmps46
      go_wp2_with fail
      go_ret3
      exact ⟨rfl, rfl⟩
    · by_cases h2 : k = 2
      · subst h2
        go_enter Tryz.func46, Tryz.ntmps46
        go_wp2_with fail
        go_ret3
        exact ⟨rfl, rfl⟩
      · by_cases h3 : k = 3
        · subst h3
          go_enter Tryz.func46, Tryz.ntmps46
          go_wp2_with fail
          go_ret3
          exact ⟨rfl, rfl⟩
        · rw [if_neg h1, if_neg h4, if_neg h2, if_neg h3]
          go_enter Tryz.func46, Tryz.ntmps46
          go_wp2_with fail
          go_ret3
          exact ⟨rfl, rfl⟩
end Go.Proofs.YtdnilbebdgohnaaGreatDoor

