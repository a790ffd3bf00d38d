/- The reference of wire: Right and Number, for whatever bytes. -/
import Derived.Test.YtdnilbebdgohnaaWireA

namespace Go.Proofs.Ytdnilbebdgohnaa
open Go.RowKit

theorem right_any (k : Int) (w : World) : Calls Try.prog 58 #[.int .i64 k] w fun e w' => e = .returned (.bool (widthB k)) ∧ w = w' := by
  by_cases h1 : k = 1
  · subst h1
    go_enter Try.func58, Try.ntmps58
    go_wp2
    go_ret
    exact ⟨rfl, rfl⟩
  · by_cases h2 : k = 2
    · subst h2
      go_enter Try.func58, Try.ntmps58
      go_wp2
      go_ret
      exact ⟨rfl, rfl⟩
    · by_cases h4 : k = 4
      · subst h4
        go_enter Try.func58, Try.ntmps58
        go_wp2
        go_ret
        exact ⟨rfl, rfl⟩
      · have e1 : (k == 1) = false := by simp [h1]
        have e2 : (k == 2) = false := by simp [h2]
        have e4 : (k == 4) = false := by simp [h4]
        go_enter Try.func58, Try.ntmps58
        go_wp2
        go_ret
        exact ⟨by simp [widthB, h1, h2, h4], rfl⟩

/-! ### Number of the reference -/
theorem rnumber_bad (A : Option Addr) (n c : Nat) (at_ k : Int) (w : World) (hw : widthB k = false) :
    Calls Try.prog 49 #[.slice A n c, .int .i64 at_, .int .i64 k] w fun e w' => e = .returned (.tuple #[.int .u32 0, .bool false]) ∧ w = w' := by
  go_enter Try.func49, Try.ntmps49
  go_wp2_with (go_at_call 58; refine (right_any _ _).mono ?_; rintro e w' ⟨rfl, rfl⟩)
  go_ret2
  exact ⟨rfl, rfl⟩
theorem width_le {k : Int} (h : widthB k = true) : 1 ≤ k ∧ k ≤ 4 := by
  simp [widthB] at h
  omega
theorem rnumber_no (A : Option Addr) (n c : Nat) (p : Nat) (k : Int) (w : World) (hn : n ≤ 140737488355328) (hp : p ≤ n) (hk : ¬ (widthB k = true ∧ k ≤ (n : Int) - (p : Int))) :
    Calls Try.prog 49 #[.slice A n c, .int .i64 (p : Int), .int .i64 k] w fun e w' => e = .returned (.tuple #[.int .u32 0, .bool false]) ∧ w = w' := by
  by_cases hw : widthB k = true
  · have hb := width_le hw
    have hb1 := hb.1
    have hb2 := hb.2
    have hgt : (n : Int) < (p : Int) + k := by
      have : ¬ k ≤ (n : Int) - (p : Int) := fun h => hk ⟨hw, h⟩
      omega
    clear hk hb
    go_enter Try.func49, Try.ntmps49
    go_wp2_with (go_at_call 58; refine (right_any _ _).mono ?_; rintro e w' ⟨rfl, rfl⟩)
    go_ret2
    exact ⟨rfl, rfl⟩
  · exact rnumber_bad A n c _ k w (by simpa using hw)
theorem rnumber_yes (A : Option Addr) (c B : Nat) (b : List UInt8) (p k : Nat) (w : World) (h : Lies w B A (b.map bv)) (hn : b.length ≤ 140737488355328) (hw : widthB k = true) (hk : p + k ≤ b.length) :
    Calls Try.prog 49 #[.slice A b.length c, .int .i64 (p : Int), .int .i64 (k : Int)] w fun e w' => e = .returned (.tuple #[.int .u32 (numOf ((b.drop p).take k) : Nat), .bool true]) ∧ w = w' := by
  have hb := width_le hw
  have hb2 := hb.2
  clear hb
  have hle : ¬ (b.length : Int) < (p : Int) + (k : Int) := by omega
  have hi : ∀ i, i < k → ((b.drop p).take k)[i]? = b[p + i]? := by
    intro i hi
    rw [List.getElem?_take, if_pos hi, List.getElem?_drop]
  have HI := Lib.hid hi
  have hlen : ((b.drop p).take k).length = k := by rw [List.length_take, List.length_drop]; omega
  have HL := Lib.hid hlen
  clear hi hlen
  generalize hl : (b.drop p).take k = l at *
  clear hl
  go_enter Try.func49, Try.ntmps49
  go_wp2_with (go_at_call 58; refine (right_any _ _).mono ?_; rintro e w' ⟨rfl, rfl⟩)
  go_loop [8, 9] (fun t i => ∃ j : Nat, j ≤ k ∧ i = .int .i64 j ∧ t = .int .u32 (numOf (l.take j) : Nat)) (fun _ i => k - (intOf i).toNat)
  case atStart => exact ⟨0, Nat.zero_le _, rfl, rfl⟩
  case round =>
    obtain ⟨j, hj, rfl, rfl⟩ := hrel
    by_cases hlt : j < k
    · obtain ⟨ad, x, rfl, _, hx, hc⟩ := h.byte (k := p + j) (by omega)
      have hx2 := Lib.hid (numOf_take ((HI.out j hlt).trans hx.out))
      have hxn := numOf_lt (l.take j)
      go_wp2
      go_round
      case rel => exact ⟨j + 1, by omega, by go_num, by rw [hx2.out]; unfold numStep; congr 1; omega⟩
      case measure => simp [intOf]; omega
    · have HE : Hid (l.take j = l) := List.take_of_length_le (by have := HL.out; omega)
      go_wp2
      go_ret2
      exact ⟨ret2_int (by rw [HE.out]), rfl⟩

end Go.Proofs.Ytdnilbebdgohnaa

