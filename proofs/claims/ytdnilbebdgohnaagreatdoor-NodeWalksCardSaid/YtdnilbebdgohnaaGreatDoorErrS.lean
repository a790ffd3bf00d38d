/- Shift at the errors of api. No condition of its own. -/
import Derived.Test.YtdnilbebdgohnaaGreatDoorErrD

namespace Go.Proofs.YtdnilbebdgohnaaGreatDoor
open Go.RowKit Go.Extern.Stop Go.Stop Go.Extern

theorem Shift_any (f : Bool) (c a n : Int) (w : World) (hh : Handle w) :
    Calls Tryz.prog 40 #[baseV f c a, .int .i64 n] w fun e w' => e = .returned (faultV c (wrap64 (offOf f a + n))) ∧ Below w.heap.size w w' := by
  go_enter Tryz.func40, Tryz.ntmps40
  go_wp2_with fail
  refine (Code_any f c a _ hh).mono ?_
  rintro e w1 ⟨rfl, b1⟩
  go_wp2_with fail
  refine (At_any f c a _ (hh.below b1 hh.lt)).mono ?_
  rintro e w2 ⟨rfl, b2⟩
  go_wp2_with fail
  refine (New_any c _ _).mono ?_
  rintro e w3 ⟨rfl, rfl⟩
  go_wp2_with fail
  go_ret
  exact ⟨rfl, b1.trans (b2.mono b1.size)⟩
/-- an error with an offset, moved -/
theorem Shift_fault (c : Int) (a n : Nat) (w : World) (hh : Handle w) (hs : a + n ≤ 9000000000000000000) :
    Calls Tryz.prog 40 #[faultV c (a : Int), .int .i64 (n : Int)] w fun e w' => e = .returned (faultV c ((a + n : Nat) : Int)) ∧ Below w.heap.size w w' := by
  have h := Shift_any true c a n w hh
  have e : wrap64 (offOf true (a : Int) + (n : Int)) = ((a + n : Nat) : Int) := by
    simp only [offOf, if_true]
    unfold wrap64
    omega
  rw [e] at h
  exact h
end Go.Proofs.YtdnilbebdgohnaaGreatDoor

