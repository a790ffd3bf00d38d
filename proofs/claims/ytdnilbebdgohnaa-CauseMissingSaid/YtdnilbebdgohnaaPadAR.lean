/- Layer 3, the reference: Gap, Zero. They write nothing that was there. -/
import Derived.Test.YtdnilbebdgohnaaPadA

namespace Go.Proofs.Ytdnilbebdgohnaa
open Go.RowKit

theorem rgap_any (n : Nat) (hn : n < 4611686018427387904) (w : World) : Calls Try.prog 50 #[.int .i64 (n : Int)] w fun e w' => e = .returned (.int .i64 (gap n : Nat)) ∧ w = w' := by
  have hg := gap_lt n
  go_enter Try.func50, Try.ntmps50
  go_wp2
  go_loop [3] (fun i => ∃ k : Nat, k ≤ gap n ∧ i = .int .i64 k) (fun i => gap n - (intOf i).toNat)
  case atStart => exact ⟨0, Nat.zero_le _, rfl⟩
  case round =>
    obtain ⟨k, hk, rfl⟩ := hrel
    by_cases hlt : k < gap n
    · have ht : (((n : Int) + (k : Int)) % 4 != 0) = true := by
        rw [bne_iff_ne]
        unfold gap at hlt
        omega
      go_wp2
      go_round
      case rel => exact ⟨k + 1, by omega, by go_num⟩
      case measure => simp [intOf]; omega
    · have hkg : k = gap n := by omega
      have ht : (((n : Int) + (k : Int)) % 4 != 0) = false := by
        rw [bne_eq_false_iff_eq]
        unfold gap at hkg
        omega
      have HK := Lib.hid hkg
      clear hkg hlt
      go_wp2
      go_ret
      exact ⟨ret_int (by rw [HK.out]), rfl⟩

end Go.Proofs.Ytdnilbebdgohnaa

