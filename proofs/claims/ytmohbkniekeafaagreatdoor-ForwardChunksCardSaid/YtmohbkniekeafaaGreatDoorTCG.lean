/- Layer 12: Check and Encode. They write nothing that was there. -/
import Derived.Test.YtmohbkniekeafaaGreatDoorTChunkF
import Derived.Test.YtmohbkniekeafaaGreatDoorTTA
import Derived.Test.YtmohbkniekeafaaGreatDoorTNF
import Derived.Test.YtmohbkniekeafaaGreatDoorTNA
import Derived.Test.YtmohbkniekeafaaGreatDoorTTC
import Derived.Deep.RegionHeld3




namespace Go.Proofs.YtmohbkniekeafaaGreatDoor
open Go.RowKit

/-- the code of a chunk's error, 0 if it is right -/
def chkC (x : Ck) : Nat := if flB x = true then 6 else if daB x = true then 7 else if kidB x = true then 7 else if cntC x = true then 8 else match cvalO x with
  | some _ => 11
  | none => if chkL (kc x.t) x.ks ≠ 0 then chkL (kc x.t) x.ks else if 65535 < csz x then 4 else 0
theorem ckE7_form (x : Ck) : (chkC x = 0 ∧ ckE7 x = .nilIface) ∨ (chkC x ≠ 0 ∧ ∃ f a, ckE7 x = baseV f (chkC x : Nat) a) := by
  unfold chkC ckE7
  split
  · exact .inr ⟨by decide, true, 1, rfl⟩
  · split
    · exact .inr ⟨by decide, true, 0, rfl⟩
    · split
      · exact .inr ⟨by decide, true, 0, rfl⟩
      · split
        · exact .inr ⟨by decide, true, 12, rfl⟩
        · cases cvalO x with
          | some a => exact .inr ⟨by simp, true, (a : Int), rfl⟩
          | none =>
            simp only []
            split
            · rename_i h
              exact .inr ⟨h, false, 0, rfl⟩
            · split
              · exact .inr ⟨by decide, false, 0, rfl⟩
              · exact .inl ⟨rfl, rfl⟩
theorem chk_parts {x : Ck} (h : chkC x = 0) : flB x = false ∧ daB x = false ∧ kidB x = false ∧ cntC x = false ∧ cvalO x = none ∧ chkL (kc x.t) x.ks = 0 ∧ csz x ≤ 65535 := by
  unfold chkC at h
  split at h
  · cases h
  · rename_i h1
    split at h
    · cases h
    · rename_i h2
      split at h
      · cases h
      · rename_i h3
        split at h
        · cases h
        · rename_i h4
          cases hv : cvalO x with
          | some a => rw [hv] at h; cases h
          | none =>
            rw [hv] at h
            simp only [] at h
            split at h
            · rename_i h5; exact absurd h h5
            · rename_i h5
              split at h
              · cases h
              · rename_i h6
                refine ⟨by simpa using h1, by simpa using h2, by simpa using h3, by simpa using h4, rfl, by simpa using h5, by omega⟩
theorem whole_cells {w : World} {g : Nat} {t : TypeId} {fs : List Value} (h : Whole w g t fs.toArray) : ∀ (j : Nat) (u : Value), fs[j]? = some u → w.cell? ⟨g, j, none⟩ = some u := fun j u hu => by
  rw [h.cell]
  simpa using hu
set_option maxRecDepth 100000 in
set_option maxHeartbeats 2000000 in
theorem ccheck_any (x : Ck) (hf : CkFine x) (A : Option Addr) (c : Nat) (K : Option Addr) (k : Nat) (w : World) (h : Chunk w w.heap.size A c K k x) (hh : Handle w) :
    Calls Tryz.prog 28 #[ckV x A c K k] w fun e w' => e = .returned (codeE (chkC x)) ∧ Below w.heap.size w w' := by
  have b0 : Below w.heap.size w (w.alloc (.cells (ckCells x A c K k) 44)) := (Below.refl _ w).alloc (Nat.le_refl _) _
  have x0 := CkBox.new w x A c K k
  have hz0 : (w.alloc (.cells (ckCells x A c K k) 44)).heap.size = w.heap.size + 1 := by simp
  have hC := ckE7_form x
  obtain ⟨q0, q1, q2, q3⟩ := x0.cs
  have HFI : Calls Tryz.prog 78 #[ckV x A c K k, .slice (some ⟨w.heap.size + 1, 0, none⟩) 7 7] ((w.alloc (.cells (ckCells x A c K k) 44)).alloc (.cells ckFs7.toArray 180)) fun e w' => e = .returned (ckE7 x) ∧ Below w.heap.size w w' := by
    have b1 := b0.alloc b0.size (.cells ckFs7.toArray 180)
    have hW := Whole.new (w.alloc (.cells (ckCells x A c K k) 44)) 180 ckFs7.toArray
    rw [hz0] at hW
    refine (first7_any x hf A c K k (w.heap.size + 1) _ (h.on b1) hW.lt (whole_cells hW)).mono ?_
    rintro e w' ⟨h1, h2⟩
    exact ⟨h1, b1.trans (h2.mono b1.size)⟩
  rcases hC with ⟨hz, he⟩ | ⟨hz, f, a, he⟩
  · rw [he] at HFI
    rw [hz]
    clear hz he
    go_enter Tryz.func28, Tryz.ntmps28
    go_wp2_with fail
    refine HFI.mono ?_
    rintro e w1 ⟨rfl, b1⟩
    have hN := Code_nil w1
    go_wp2_with fail
    refine hN.mono ?_
    rintro e w2 ⟨rfl, b2⟩
    go_wp2_with fail
    go_ret
    exact ⟨rfl, b1.trans (b2.mono b1.size)⟩
  · rw [he] at HFI
    have hE : codeE (chkC x) = codeV ((chkC x : Nat) : Int) := by unfold codeE; rw [if_neg hz]
    rw [hE]
    generalize chkC x = n at *
    clear hz he hE
    unfold codeV
    go_enter Tryz.func28, Tryz.ntmps28
    go_wp2_with fail
    refine HFI.mono ?_
    rintro e w1 ⟨rfl, b1⟩
    have hN := Code_any f (n : Int) a w1 (hh.below b1 hh.lt)
    go_wp2_with fail
    refine hN.mono ?_
    rintro e w2 ⟨rfl, b2⟩
    go_wp2_with fail
    go_ret
    exact ⟨rfl, b1.trans (b2.mono b1.size)⟩

/-! ### Encode -/
end Go.Proofs.YtmohbkniekeafaaGreatDoor


