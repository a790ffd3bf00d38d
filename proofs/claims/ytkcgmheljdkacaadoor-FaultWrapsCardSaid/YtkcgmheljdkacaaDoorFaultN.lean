/- Layer 2: the decimal text of a number, whatever the table of powers holds: it hangs on the number and the table alone. No condition of its own. -/
import Derived.Test.YtkcgmheljdkacaaDoorFaultM
import Derived.Test.YtkcgmheljdkacaaDoorFaultShelf
import Derived.Lib.ItoaWalk
import Derived.Lib.ItoaMem
import Derived.Lib.ItoaNum
import Derived.RegionTactic
import Derived.BigCall
import Derived.BigGuard
namespace Go.Proofs.YtkcgmheljdkacaaDoor
open Go.RowKit Go.Lib

/-! ### the table -/
def Tab (pw : Nat → Nat) (w : World) : Prop := ∀ i, i < 20 → w.cell? ⟨2, i, none⟩ = some (.int .u64 (pw i))
theorem Tab.lt {pw : Nat → Nat} {w : World} (h : Tab pw w) : 2 < w.heap.size := World.block_lt_of_cell? w _ (h 0 (by omega))
theorem Tab.below {pw : Nat → Nat} {B : Nat} {w w' : World} (h : Tab pw w) (hb : Below B w w') (hB : 2 < B) : Tab pw w' := fun i hi => (hb.cell (p := ⟨2, i, none⟩) hB).trans (h i hi)
theorem Tab.alloc {pw : Nat → Nat} {w : World} (h : Tab pw w) (o : Obj) : Tab pw (w.alloc o) := fun i hi => (World.cell?_alloc_lt w o ⟨2, i, none⟩ h.lt).trans (h i hi)
theorem Tab.drew {pw : Nat → Nat} {w : World} (h : Tab pw w) : Tab pw w.drew := h

/-! ### how many digits are written -/
def ndF (pw : Nat → Nat) (u : Nat) : Nat := if pw (Lib.l10 (Lib.bitLen u)) ≤ u then Lib.l10 (Lib.bitLen u) + 1 else Lib.l10 (Lib.bitLen u)
theorem ndF_le (pw : Nat → Nat) (u : Nat) (h1 : 1 ≤ u) (h2 : u < 18446744073709551616) : ndF pw u ≤ 20 ∧ u < 10 ^ (ndF pw u + 1) := by
  obtain ⟨hd, h19⟩ := Lib.numDigits_eq u h1 h2
  have hp := Lib.lt_pow_nDigits u
  have hq : Lib.nDigits u ≤ Lib.l10 (Lib.bitLen u) + 1 := by split at hd <;> omega
  unfold ndF
  split
  · exact ⟨by omega, Nat.lt_of_lt_of_le hp (Nat.pow_le_pow_right (by omega) (by omega))⟩
  · exact ⟨by omega, Nat.lt_of_lt_of_le hp (Nat.pow_le_pow_right (by omega) (by omega))⟩
theorem numDigits_any (pw : Nat → Nat) (u : Nat) (h1 : 1 ≤ u) (h2 : u < 18446744073709551616) (w : World) (hT : Tab pw w) :
    Calls Tryd.prog 54 #[.int .u64 u] w fun e w' => e = .returned (.int .i64 (ndF pw u)) ∧ w = w' := by
  have hL : Lib.bitLen u ≤ 64 := Lib.bitLen_le u 64 (Nat.le_refl _) h2
  obtain ⟨_, h19⟩ := Lib.numDigits_eq u h1 h2
  have hcell := hT (Lib.l10 (Lib.bitLen u)) (by omega)
  have hn : ndF pw u = if pw (Lib.l10 (Lib.bitLen u)) ≤ u then Lib.l10 (Lib.bitLen u) + 1 else Lib.l10 (Lib.bitLen u) := rfl
  generalize hq : Lib.l10 (Lib.bitLen u) = q at hcell hn h19
  have Q := Lib.hid hq
  have HN := Lib.hid hn
  have h20 : q < 20 := by omega
  clear hq hn hT
  have hto : ((u : Int)).toNat = u := by omega
  have TO := Lib.hid hto
  clear hto
  by_cases hge : pw q ≤ u
  · have hge' : ((pw q : Nat) : Int) ≤ (u : Int) := by omega
    have hf : ndF pw u = q + 1 := by rw [HN.out, if_pos hge]
    have HF := Lib.hid hf
    clear hf
    go_enter Tryd.func54, Tryd.ntmps54
    go_wp2_with fail
    refine (Tryd.bits_Len64 _ _ (by omega) (by omega)).mono ?_
    rintro e w' ⟨rfl, rfl⟩
    rw [TO.out]
    go_wp2_with fail
    refine (Tryd.internal_strconv_log10Pow2 _ hL _).mono ?_
    rintro e w' ⟨rfl, rfl⟩
    rw [Q.out]
    go_wp2_with fail
    refine (Tryd.internal_strconv_bool2_int _ _).mono ?_
    rintro e w' ⟨rfl, rfl⟩
    go_wp2_with fail
    go_ret
    exact ⟨by rw [HF.out]; simp, rfl⟩
  · have hge' : ¬ ((pw q : Nat) : Int) ≤ (u : Int) := by omega
    have hf : ndF pw u = q := by rw [HN.out, if_neg hge]
    have HF := Lib.hid hf
    clear hf
    go_enter Tryd.func54, Tryd.ntmps54
    go_wp2_with fail
    refine (Tryd.bits_Len64 _ _ (by omega) (by omega)).mono ?_
    rintro e w' ⟨rfl, rfl⟩
    rw [TO.out]
    go_wp2_with fail
    refine (Tryd.internal_strconv_log10Pow2 _ hL _).mono ?_
    rintro e w' ⟨rfl, rfl⟩
    rw [Q.out]
    go_wp2_with fail
    refine (Tryd.internal_strconv_bool2_int _ _).mono ?_
    rintro e w' ⟨rfl, rfl⟩
    go_wp2_with fail
    go_ret
    exact ⟨by rw [HF.out]; simp, rfl⟩
end Go.Proofs.YtkcgmheljdkacaaDoor
