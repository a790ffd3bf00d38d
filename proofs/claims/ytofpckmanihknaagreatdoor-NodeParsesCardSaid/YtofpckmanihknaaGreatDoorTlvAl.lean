/- Layer 6, package tlv: All: what it hands back. -/
import Derived.Test.YtofpckmanihknaaGreatDoorTlvE
import Derived.Test.YtofpckmanihknaaGreatDoorTlvF
namespace Go.Proofs.YtofpckmanihknaaGreatDoor
open Go.RowKit

theorem all_any (A : Option Addr) (c : Nat) (b : List UInt8) (w : World) (h : Lies w w.heap.size A (b.map bv)) (hc : b.length ≤ c) (hm : c ≤ maxLen) (hn : b.length ≤ 10000000) :
    Calls Tryz.prog 61 #[.slice A b.length c] w fun e w' => (∃ g, e = .returned (.func (.func 80) #[] #[.pointer (some ⟨g, 0, none⟩)])) ∧ Below w.heap.size w w' := by
  have hJ := copy_join A c b (w.alloc (.cells #[.slice A b.length c] 31)) ((h.alloc (Nat.le_refl _) _).more (by simp)) hc hm hn
  simp only [World.size_alloc] at hJ
  have hW := Whole.new w 31 #[.slice A b.length c]
  have hb0 : Below w.heap.size w (w.alloc (.cells #[.slice A b.length c] 31)) := (Below.refl _ w).alloc (Nat.le_refl _) _
  go_enter Tryz.func61, Tryz.ntmps61
  go_wp2_with fail
  refine hJ.mono ?_
  rintro e w2 ⟨A2, c2, rfl, _, b2⟩
  have hW2 := hW.below b2 (by omega)
  have d0 := hW2.cell 0
  have d1 := hW2.frozen 0
  simp only [List.getElem?_toArray, List.getElem?_cons_zero] at d0
  go_wp2_with fail
  go_ret
  exact ⟨⟨_, rfl⟩, (hb0.trans (b2.mono (by omega))).setCell (Nat.le_refl _) _⟩

theorem isB_new (w : World) (l : List UInt8) (hl : l.length ≤ maxLen) : IsB (w.alloc (.cells (l.map bv).toArray 5)) (w.alloc (.cells (l.map bv).toArray 5)).heap.size (.slice (some ⟨w.heap.size, 0, none⟩) l.length l.length) l :=
  ⟨_, _, rfl, (Lies.newN w (l.map bv) _).more (by simp), Nat.le_refl _, hl⟩
theorem isB_nil (w : World) (B : Nat) : IsB w B (.slice none 0 0) [] := ⟨none, 0, rfl, Lies.nil, Nat.le_refl _, Nat.zero_le _⟩

end Go.Proofs.YtofpckmanihknaaGreatDoor
