/- Layer 3, package pad: Next, for whatever bytes and numbers. They write nothing that was there. -/
import Derived.Test.YtdnilbebdgohnaaGreatDoorPadA

namespace Go.Proofs.YtdnilbebdgohnaaGreatDoor
open Go.RowKit

def Good (b : List UInt8) (n : Int) : Prop := 0 ≤ n ∧ up n.toNat ≤ b.length ∧ zeroB ((b.drop n.toNat).take (gap n.toNat)) = true
instance (b : List UInt8) (n : Int) : Decidable (Good b n) := by unfold Good; infer_instance
def nextN (b : List UInt8) (n : Int) : Nat := if Good b n then up n.toNat else 0
def nextB (b : List UInt8) (n : Int) : Bool := decide (Good b n)
theorem next_no {b : List UInt8} {n : Int} (h : ¬ Good b n) : nextN b n = 0 ∧ nextB b n = false := by simp [nextN, nextB, h]
theorem next_yes {b : List UInt8} {n : Int} (h : Good b n) : nextN b n = up n.toNat ∧ nextB b n = true := by simp [nextN, nextB, h]

/-- the padding's bytes, as a slice of the bytes -/
theorem lies_pad {w : World} {B : Nat} {A : Option Addr} {c n u : Nat} {b : List UInt8} (h : Lies w B A (b.map bv)) (hu : u = n + gap n) (hb : u ≤ b.length) (hc : b.length ≤ c) :
    Lies w B (if c = n then A else A.map (·.add n)) (((b.drop n).take (gap n)).map bv) ∧ ((b.drop n).take (gap n)).length = u - n := by
  have h1 := (h.drop (k := n) (c := c) (by simpa using hc)).take (gap n)
  rw [← List.map_drop, ← List.map_take] at h1
  exact ⟨h1, by rw [List.length_take, List.length_drop]; omega⟩

theorem next_any (A : Option Addr) (c : Nat) (b : List UInt8) (n : Int) (w : World) (h : Lies w w.heap.size A (b.map bv)) (hbc : b.length ≤ c) (hn : b.length ≤ 10000000) :
    Calls Tryz.prog 84 #[.slice A b.length c, .int .i64 n] w fun e w' => e = .returned (.tuple #[.int .i64 (nextN b n : Nat), .bool (nextB b n)]) ∧ w = w' := by
  by_cases h0 : n < 0
  · obtain ⟨e1, e2⟩ := next_no (b := b) (n := n) (fun hg => by have := hg.1; omega)
    rw [e1, e2]
    go_enter Tryz.func84, Tryz.ntmps84
    go_wp2_with fail
    go_ret2
    exact ⟨rfl, rfl⟩
  obtain ⟨m, rfl⟩ := Int.eq_ofNat_of_zero_le (show 0 ≤ n by omega)
  by_cases h1 : (b.length : Int) < (m : Int)
  · obtain ⟨e1, e2⟩ := next_no (b := b) (n := m) (fun hg => by have := hg.2.1; unfold up at this; simp at this; omega)
    rw [e1, e2]
    go_enter Tryz.func84, Tryz.ntmps84
    go_wp2_with fail
    go_ret2
    exact ⟨rfl, rfl⟩
  have hup : up m = m + gap m := rfl
  have hg4 := gap_lt m
  have hU := up_any m (by omega)
  have hgd : Good b m ↔ up m ≤ b.length ∧ zeroB ((b.drop m).take (gap m)) = true := ⟨fun hg => by simpa using hg.2, fun hg => ⟨by omega, by simpa using hg⟩⟩
  obtain ⟨u, hu⟩ : ∃ u, u = up m := ⟨_, rfl⟩
  have hmu : m ≤ u := by omega
  have hu4 : u < m + 4 := by omega
  by_cases h2 : (b.length : Int) < (u : Int)
  · obtain ⟨e1, e2⟩ := next_no (b := b) (n := m) (fun hg => by have := (hgd.1 hg).1; omega)
    rw [e1, e2]
    rw [← hu] at hU
    clear hgd hu hup hg4
    go_enter Tryz.func84, Tryz.ntmps84
    go_wp2_with (go_at_call 63; refine (hU _).mono ?_; rintro e w' ⟨rfl, rfl⟩)
    go_ret2
    exact ⟨rfl, rfl⟩
  obtain ⟨hl, hlen⟩ := lies_pad h (show u = m + gap m by omega) (by omega) hbc
  have hz : ∀ A' l' c', A' = (if c = m then A else A.map (·.add m)) → l' = u - m → Calls Tryz.prog 86 #[.slice A' l' c'] w fun e w' => e = .returned (.bool (zeroB ((b.drop m).take (gap m)))) ∧ w = w' := by
    rintro A' l' c' rfl rfl
    have hz := zero_any _ c' _ _ w hl (by rw [hlen]; unfold maxLen; omega)
    rw [hlen] at hz
    exact hz
  have h2' : (u : Int) ≤ (b.length : Int) := by omega
  have hcm : u ≠ m → ¬ c = m := by omega
  by_cases h3 : zeroB ((b.drop m).take (gap m)) = true
  · obtain ⟨e1, e2⟩ := next_yes (hgd.2 ⟨by omega, h3⟩)
    rw [e1, e2, Int.toNat_natCast, ← hu]
    rw [h3] at hz
    have HZ := Lib.hid hz
    rw [← hu] at hU
    clear hz hgd h3 hlen hl e1 e2 hg4 hu hup h2
    by_cases hc : c = m
    · go_enter Tryz.func84, Tryz.ntmps84
      go_wp2_with (first | (go_at_call 63; refine (hU _).mono ?_; rintro e w' ⟨rfl, rfl⟩) | (go_at_call 86; refine (HZ.out _ _ _ (by simp [hc]) (by omega)).mono ?_; rintro e w' ⟨rfl, rfl⟩))
      go_ret2
      exact ⟨rfl, rfl⟩
    · go_enter Tryz.func84, Tryz.ntmps84
      go_wp2_with (first | (go_at_call 63; refine (hU _).mono ?_; rintro e w' ⟨rfl, rfl⟩) | (go_at_call 86; refine (HZ.out _ _ _ (by simp [hc]) (by omega)).mono ?_; rintro e w' ⟨rfl, rfl⟩))
      go_ret2
      exact ⟨rfl, rfl⟩
  · obtain ⟨e1, e2⟩ := next_no (b := b) (n := m) (fun hg => h3 (hgd.1 hg).2)
    rw [e1, e2]
    rw [Bool.eq_false_iff.2 h3] at hz
    have HZ := Lib.hid hz
    rw [← hu] at hU
    clear hz hgd h3 hlen hl e1 e2 hg4 hu hup h2
    by_cases hc : c = m
    · go_enter Tryz.func84, Tryz.ntmps84
      go_wp2_with (first | (go_at_call 63; refine (hU _).mono ?_; rintro e w' ⟨rfl, rfl⟩) | (go_at_call 86; refine (HZ.out _ _ _ (by simp [hc]) (by omega)).mono ?_; rintro e w' ⟨rfl, rfl⟩))
      go_ret2
      exact ⟨rfl, rfl⟩
    · go_enter Tryz.func84, Tryz.ntmps84
      go_wp2_with (first | (go_at_call 63; refine (hU _).mono ?_; rintro e w' ⟨rfl, rfl⟩) | (go_at_call 86; refine (HZ.out _ _ _ (by simp [hc]) (by omega)).mono ?_; rintro e w' ⟨rfl, rfl⟩))
      go_ret2
      exact ⟨rfl, rfl⟩
end Go.Proofs.YtdnilbebdgohnaaGreatDoor

