/- Layer 1, package wire: Number, Take and New, for whatever cursor and arguments. -/
import Derived.Test.YtdnilbebdgohnaaGreatDoorWireB

namespace Go.Proofs.YtdnilbebdgohnaaGreatDoor
open Go.RowKit

theorem only_drewN (w : World) (row : Option Nat) (n : Nat) : w.grownBy (w.drewN n) row := ⟨rfl, rfl, rfl, Nat.le_refl _, fun _ _ _ => rfl⟩
theorem only_trans {a b c : World} {row : Option Nat} (h : a.grownBy b row) (k : b.grownBy c row) : a.grownBy c row :=
  ⟨k.os.trans h.os, k.tape.trans h.tape, k.output.trans h.output, Nat.le_trans h.size k.size, fun i hi hr => (k.block i (Nat.lt_of_lt_of_le hi h.size) hr).trans (h.block i hi hr)⟩
theorem Rdr.drewN {w : World} {base g c k : Nat} {A : Option Addr} {bs : List UInt8} (h : Rdr w base g A c bs k) (q : Nat) : Rdr (w.drewN q) base g A c bs k :=
  ⟨h.whole, h.own, h.le, h.base_le, h.small⟩

theorem cnumber_no {w : World} {base g c k : Nat} {A : Option Addr} {bs : List UInt8} (h : Rdr w base g A c bs k) (n : Int) (hn : ¬ (widthB n = true ∧ n ≤ (bs.length : Int) - (k : Int))) :
    Calls Tryz.prog 60 #[.pointer (some ⟨g, 0, none⟩), .int .i64 n] w fun e w' => e = .returned (.tuple #[.int .u32 0, .bool false]) ∧ ∃ q, w' = w.drewN q := by
  have hp := Lib.hid (peek_no h n hn)
  clear hn
  go_enter Tryz.func60, Tryz.ntmps60
  go_wp2_with (go_at_call 73; refine (hp.out).mono ?_; rintro e w' ⟨rfl, q, rfl⟩)
  go_ret2
  exact ⟨rfl, q, rfl⟩
theorem cnumber_yes {w : World} {base g c k : Nat} {A : Option Addr} {bs : List UInt8} (h : Rdr w base g A c bs k) (n : Nat) (hw : widthB n = true) (hn : k + n ≤ bs.length) :
    Calls Tryz.prog 60 #[.pointer (some ⟨g, 0, none⟩), .int .i64 (n : Int)] w fun e w' => e = .returned (.tuple #[.int .u32 (numOf ((bs.drop k).take n) : Nat), .bool true]) ∧
      Rdr w' base g A c bs (k + n) ∧ w.grownBy w' (some g) := by
  have hs := h.small
  have hl := h.le
  have hp := Lib.hid (peek_yes h n hw hn)
  have hfin : ∀ q, Rdr ((w.drewN q).setCell ⟨g, 1, none⟩ (.int .i64 ((k : Int) + (n : Int)))) base g A c bs (k + n) := fun q => (h.drewN q).moved hn
  have HF := Lib.hid hfin
  obtain ⟨c0, c1, c2⟩ := h.cells
  clear hfin
  generalize numOf ((bs.drop k).take n) = x at *
  go_enter Tryz.func60, Tryz.ntmps60
  go_wp2_with (go_at_call 73; refine (hp.out).mono ?_; rintro e w' ⟨rfl, q, rfl⟩)
  go_ret2
  exact ⟨rfl, HF.out q, only_trans (only_drewN w _ q) (grown_set _ _ _ _)⟩

/-- Join of one part. -/
theorem join_one (A' : Option Addr) (c' B : Nat) (p : List UInt8) (w : World) (hl : Lies w B A' (p.map bv)) (hB : B ≤ w.heap.size) (h1 : p.length ≤ c') (h2 : c' ≤ maxLen) (ht : p.length ≤ 140737488355328) :
    Calls Tryz.prog 35 #[.slice (some ⟨w.heap.size, 0, none⟩) 1 1] (w.alloc (.cells #[.slice A' p.length c'] 32)) fun e w' => ∃ A2 c2, e = .returned (.slice A2 p.length c2) ∧
      w'.ownsRow w.heap.size 5 1 (.slice A2 p.length c2) p.length (p.map bv) ∧ Below w.heap.size w w' := by
  have hp : Parts (w.alloc (.cells #[.slice A' p.length c'] 32)) (w.alloc (.cells #[.slice A' p.length c'] 32)).heap.size (some ⟨w.heap.size, 0, none⟩) [.slice A' p.length c'] [p] := by
    refine ⟨(Lies.new1 _ _ _).more (by simp), rfl, fun i q hq => ?_⟩
    match i, hq with
    | 0, hq =>
      simp only [List.getElem?_cons_zero, Option.some.injEq] at hq
      subst hq
      exact ⟨_, rfl, A', c', rfl, (hl.alloc hB _).more (by simp; omega), h1, h2⟩
    | i + 1, hq => simp at hq
  have ht' : tot [p] = p.length := by simp [tot]
  refine (join_any _ 1 _ [p] _ hp (by simp [maxLen]) (by omega)).mono ?_
  rintro e w' ⟨A2, c2, rfl, hown, hb⟩
  rw [ht'] at hown
  rw [ht']
  refine ⟨A2, c2, rfl, own_base (by simpa using hown) (by simp), ?_⟩
  exact ((Below.refl _ w).alloc (Nat.le_refl _) _).trans (hb.mono (by simp))
/-! ### New -/
theorem new_any (A : Option Addr) (c : Nat) (l : List UInt8) (w : World) (h : Lies w w.heap.size A (l.map bv)) (h1 : l.length ≤ c) (h2 : c ≤ maxLen) (hs : l.length ≤ 140737488355328) :
    Calls Tryz.prog 59 #[.slice A l.length c] w fun e w' => ∃ g A2 c2, e = .returned (.pointer (some ⟨g, 0, none⟩)) ∧ Rdr w' w.heap.size g A2 c2 l 0 ∧ Below w.heap.size w w' := by
  have HJ := Lib.hid (join_one A c w.heap.size l w h (Nat.le_refl _) h1 h2 hs)
  go_enter Tryz.func59, Tryz.ntmps59
  go_wp2_with (go_at_call 35; refine (HJ.out).mono ?_; rintro e w' ⟨A2, c2, rfl, hown, hbel⟩)
  go_ret
  refine ⟨_, A2, c2, rfl, ⟨Whole.new _ _ _, hown.alloc _, Nat.zero_le _, hbel.size, hs⟩, hbel.alloc hbel.size _⟩
end Go.Proofs.YtdnilbebdgohnaaGreatDoor

