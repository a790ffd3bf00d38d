/- Layer 2: awake returns true. No condition of its own but what the two listed variables hold. -/
import Derived.Test.YtkcgmheljdkacaaDoorFaultE
namespace Go.Proofs.YtkcgmheljdkacaaDoor
open Go.RowKit Go.Extern.Stop Go.Stop Go.Extern

def chunkB : ByteArray := ⟨#[99, 104, 117, 110, 107]⟩
def fullB : ByteArray := ⟨#[99, 104, 117, 110, 107, 58, 32, 101, 114, 114, 111, 114, 32, 55]⟩
theorem text_chunk (w : World) : Calls Tryd.prog 66 #[.agg #[.string chunkB, faultV 7 7]] w fun e w' => e = .returned (.string fullB) ∧ Below w.heap.size w w' :=
  (werr_f (K := fun _ => True) ⟨fun _ _ _ => trivial, fun _ _ => trivial⟩ (fun w _ => ferr7 7 w) chunkB (by decide) w trivial)

set_option maxHeartbeats 4000000 in
set_option maxRecDepth 100000 in
theorem awake_any (w : World) (hh : Handle w) (hn : Names w) :
    Calls Tryd.prog 7 #[] w fun e w' => e = .returned (.bool true) ∧ Below w.heap.size w w' := by
  have hm := mEr_w
  go_enter Tryd.func7, Tryd.ntmps7
  go_wp2_with fail
  refine (New_any 7 7 _).mono ?_
  rintro e w0 ⟨rfl, rfl⟩
  go_wp2_with fail
  refine (In_any _ _ _ _).mono ?_
  rintro e w0 ⟨rfl, rfl⟩
  unfold wrapV
  go_wp2_with fail
  refine (Shift_any true 7 7 2 [chunkB] _ hh).mono ?_
  rintro e w1 ⟨rfl, b1⟩
  rw [show wrap64 (offOf true 7 + 2) = 9 from by simp [offOf, wrap64]]
  go_wp2_with fail
  refine (At_any true 7 9 [] _ (hh.below b1 hh.lt)).mono ?_
  rintro e w2 ⟨rfl, b2⟩
  rw [show offOf true 9 = 9 from by simp [offOf]]
  go_wp2_with fail
  refine (Code_nil _).mono ?_
  rintro e w3 ⟨rfl, b3⟩
  go_wp2_with fail
  refine (text_chunk _).mono ?_
  rintro e w4 ⟨rfl, b4⟩
  unfold fullB
  go_wp2_with fail
  refine (In_nil _ _).mono ?_
  rintro e w5 ⟨rfl, rfl⟩
  go_wp2_with fail
  refine (Shift_nil _ _).mono ?_
  rintro e w6 ⟨rfl, b6⟩
  go_wp2_with fail
  have b5 : Below w.heap.size w w6 := b1.trans ((b2.mono b1.size).trans ((b3.mono (Nat.le_trans b1.size b2.size)).trans ((b4.mono (Nat.le_trans b1.size (Nat.le_trans b2.size b3.size))).trans (b6.mono (Nat.le_trans b1.size (Nat.le_trans b2.size (Nat.le_trans b3.size b4.size)))))))
  refine (Name_in 10 ⟨#[112, 108, 97, 99, 101]⟩ (by omega) (by omega) rfl _ (hn.below b5 hn.lt)).mono ?_
  rintro e w7 ⟨rfl, rfl⟩
  go_wp2_with fail
  go_ret
  exact ⟨rfl, b5⟩
end Go.Proofs.YtkcgmheljdkacaaDoor
