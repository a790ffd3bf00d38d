/- Layer 13: the chunk of a description, the description of a chunk. Mathematics alone. -/
/- Layer 13: bytesOf. -/
/- Layer 13: Make (its region by tools/gen_data_k.py). It writes nothing that was there. -/
import Derived.Test.YtabljmiiekpgiaaGreatDoorQDE
import Derived.Test.YtabljmiiekpgiaaGreatDoorQCG
import Derived.Test.YtabljmiiekpgiaaGreatDoorQW
import Derived.Deep.RegionHeld3
import Derived.Deep.Cut
import Derived.Test.YtabljmiiekpgiaaGreatDoorQS
import Derived.Test.YtabljmiiekpgiaaGreatDoorQHX
import Derived.Test.YtabljmiiekpgiaaGreatDoorQNF
import Derived.Laws.Tables



namespace Go.Proofs.YtabljmiiekpgiaaGreatDoor
open Go.RowKit

def nrd (d : List UInt8) (at_ k : Nat) : UInt32 := UInt32.ofNat (numOf ((d.drop at_).take k))
theorem nrd_toNat (d : List UInt8) (at_ k : Nat) : (nrd d at_ k).toNat = numOf ((d.drop at_).take k) := u32_ofNat (numOf_lt _)
theorem nrd_be4 (x : UInt32) : UInt32.ofNat (numOf (be 4 x)) = x := by
  refine UInt32.toNat_inj.1 ?_
  rw [u32_ofNat (numOf_lt _), numOf_be (.inr (.inr rfl))]
  exact Nat.mod_eq_of_lt x.toNat_lt
theorem u16_32 (n : Nat) (h : n < 65536) : u32of (UInt16.ofNat n).toNat = UInt32.ofNat n := by
  rw [UInt16.toNat_ofNat', Nat.mod_eq_of_lt (by omega)]
  rfl
theorem numOf2_lt (l : List UInt8) (h : l.length = 2) : numOf l < 65536 := by
  match l, h with
  | [a, b], _ =>
    rw [numOf_pair]
    have := a.toNat_lt
    have := b.toNat_lt
    omega
theorem be4_num (a b c d : UInt8) : be 4 (UInt32.ofNat (numOf [a, b, c, d])) = [a, b, c, d] := be_numOf (.inr (.inr rfl)) rfl
theorem be2_num (a b : UInt8) : be 2 (UInt32.ofNat (numOf [a, b])) = [a, b] := be_numOf (.inr (.inl rfl)) rfl
theorem puts_two (k : Nat) (x y : UInt32) : puts k [x, y] = be k x ++ be k y := by simp [puts]
end Go.Proofs.YtabljmiiekpgiaaGreatDoor





namespace Go.Proofs.YtabljmiiekpgiaaGreatDoor
open Go.RowKit

set_option linter.unusedSimpArgs false
theorem lies_new (w : World) (l : List UInt32) : Lies (w.alloc (.cells (l.map uv).toArray 22)) (w.heap.size + 1) (some ⟨w.heap.size, 0, none⟩) (l.map uv) := Lies.newN w _ _
theorem IsB.up13 {w w' : World} {v : Value} {l : List UInt8} (h : IsB w w.heap.size v l) (hb : Below w.heap.size w w') : IsB w' w'.heap.size v l := by
  obtain ⟨A, c, h1, h2, h3, h4⟩ := h
  exact ⟨A, c, h1, (h2.below hb).more hb.size, h3, h4⟩
end Go.Proofs.YtabljmiiekpgiaaGreatDoor










namespace Go.Proofs.YtabljmiiekpgiaaGreatDoor
open Go.RowKit

set_option linter.unusedSimpArgs false
abbrev zck13 : Value := .agg #[.int .u8 0, .int .u8 0, .slice none 0 0, .slice none 0 0]
theorem own_set13 {W : World} {base e n g i : Nat} {v u : Value} {xs : List Value} {t : TypeId} {cs : Array Value} (h : W.ownsRow base e 1 v n xs) (hz : Whole W g t cs) (hte : t ≠ e) : (W.setCell ⟨g, i, none⟩ u).ownsRow base e 1 v n xs :=
  h.kept (grownBy_setCell1 W g i u) (.inr (whole_row_ne hz hte h))
end Go.Proofs.YtabljmiiekpgiaaGreatDoor


