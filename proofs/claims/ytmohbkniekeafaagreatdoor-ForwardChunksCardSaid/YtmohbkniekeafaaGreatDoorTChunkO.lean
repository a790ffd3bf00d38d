/- Layer 12: the reference's number, counted, Size, Same, Few. They write nothing that was there. -/
import Derived.Test.YtmohbkniekeafaaGreatDoorTCA
import Derived.Test.YtmohbkniekeafaaGreatDoorTCI
import Derived.Test.YtmohbkniekeafaaGreatDoorTNodeRAC
import Derived.Test.YtmohbkniekeafaaGreatDoorTNF
import Derived.Test.YtmohbkniekeafaaGreatDoorTNodeUO
import Derived.Test.YtmohbkniekeafaaGreatDoorTA
import Derived.BigGuard








namespace Go.Proofs.YtmohbkniekeafaaGreatDoor
open Go.RowKit

set_option linter.unusedSimpArgs false
set_option maxRecDepth 100000 in
set_option maxHeartbeats 1000000 in
theorem rnumber12 (A : Option Addr) (c : Nat) (d : List UInt8) (i : Nat) (hi : i + 2 ≤ d.length) (h0 : 0 < i) (hs : d.length ≤ 1000000) (w : World) (h : Lies w w.heap.size A (d.map bv)) :
    Calls Tryz.prog 138 #[.slice A d.length c, .int .i64 (i : Int)] w fun e w' => e = .returned (.int .i64 ((num2 d i : Nat) : Int)) ∧ Below w.heap.size w w' := by
  obtain ⟨ad, rfl, hadb, hc⟩ := h (fun e => by rw [List.map_eq_nil_iff] at e; rw [e] at hi; simp at hi)
  have e0 : w.cell? (ad.add i) = some (bv (d.getD i 0)) := hc i _ (by rw [List.getElem?_map, List.getElem?_eq_getElem (by omega)]; simp [show i < d.length by omega])
  have e1 : w.cell? ⟨ad.block, ad.off + (i + 1), none⟩ = some (bv (d.getD (i + 1) 0)) := byte_cell h (by omega) (by omega)
  have i0 : (0 : Int) ≤ (i : Int) := by omega
  have i1 : (i : Int) < (d.length : Int) := by omega
  have i2 : (0 : Int) ≤ (i : Int) + 1 := by omega
  have i3 : (i : Int) + 1 < (d.length : Int) := by omega
  have HW : Hid (IntKind.i64.wrap ((i : Int) + 1) = ((i + 1 : Nat) : Int)) := by unfold Hid IntKind.wrap IntKind.bits; simp; omega
  have HR : Hid (num2 d i = 256 * (d.getD i 0).toNat + (d.getD (i + 1) 0).toNat) := rfl
  have hl0 := (d.getD i 0).toNat_lt
  have hl1 := (d.getD (i + 1) 0).toNat_lt
  generalize num2 d i = r at *
  generalize d.getD i 0 = x at *
  generalize d.getD (i + 1) 0 = y at *
  clear hc h hi
  have hw := HW.out
  go_enter Tryz.func138, Tryz.ntmps138
  go_wp2_with fail
  go_region_held3 (fun W => W.cell? (ad.add i) = some (bv x) ∧ W.cell? ⟨ad.block, ad.off + (i + 1), none⟩ = some (bv y)) (go_keep) (fail)
  go_wp2_with fail
  go_ret
  have hr := HR.out
  have w1 : IntKind.i64.wrap (x.toNat : Int) = (x.toNat : Int) := by unfold IntKind.wrap IntKind.bits; simp; omega
  have w2 : IntKind.i64.wrap (y.toNat : Int) = (y.toNat : Int) := by unfold IntKind.wrap IntKind.bits; simp; omega
  have w3 : IntKind.i64.wrap (256 * (x.toNat : Int)) = 256 * (x.toNat : Int) := by unfold IntKind.wrap IntKind.bits; simp; omega
  have w4 : IntKind.i64.wrap (256 * (x.toNat : Int) + (y.toNat : Int)) = (r : Int) := by rw [hr]; unfold IntKind.wrap IntKind.bits; simp; omega
  refine ⟨?_, below_drew (Below.refl _ _)⟩
  show Ending.returned (.int .i64 (IntKind.i64.wrap (IntKind.i64.wrap (256 * IntKind.i64.wrap (x.toNat : Int)) + IntKind.i64.wrap (y.toNat : Int)))) = _
  rw [w1, w2, w3, w4]
/-! ### Size, Same, Few -/
set_option maxRecDepth 100000 in
set_option maxHeartbeats 1000000 in
theorem rsize12 (x : Ck) (hf : CkFine x) (hz : sizes (lens x.ks) ≤ 900000000) (A : Option Addr) (c : Nat) (K : Option Addr) (k : Nat) (w : World) (h : Chunk w w.heap.size A c K k x) :
    Calls Tryz.prog 94 #[ckV x A c K k] w fun e w' => e = .returned (.int .i64 ((csz x : Nat) : Int)) ∧ Below w.heap.size w w' := by
  have b0 : Below w.heap.size w (w.alloc (.cells (ckCells x A c K k) 44)) := (Below.refl _ w).alloc (Nat.le_refl _) _
  have x0 := CkBox.new w x A c K k
  have h0 := h.on b0
  have hd := hf.d
  unfold csz
  generalize hL : w.alloc (.cells (ckCells x A c K k) 44) = w0 at *
  have HS := Lib.hid (fun (W : World) (hW : Below w0.heap.size w0 W) => rsize_any x.ks hf.each K k W (h0.kids.on hW) hf.ks hf.each hz)
  have KS : Hid (∀ W, Below w0.heap.size w0 W → W.cell? ⟨w.heap.size, 0, none⟩ = some (bv x.t) ∧ W.cell? ⟨w.heap.size, 1, none⟩ = some (bv x.fl) ∧ W.cell? ⟨w.heap.size, 2, none⟩ = some (.slice A x.d.length c) ∧ W.cell? ⟨w.heap.size, 3, none⟩ = some (.slice K x.ks.length k)) := fun W hW => (x0.below hW).cs
  generalize sizes (lens x.ks) = z at *
  clear h h0 hf x0
  subst hL
  go_enter Tryz.func94, Tryz.ntmps94
  go_wp2_with fail
  generalize w.alloc (.cells (ckCells x A c K k) 44) = w0 at *
  go_region_held3 (fun W => W.cell? ⟨w.heap.size, 0, none⟩ = some (bv x.t) ∧ W.cell? ⟨w.heap.size, 1, none⟩ = some (bv x.fl) ∧ W.cell? ⟨w.heap.size, 2, none⟩ = some (.slice A x.d.length c) ∧ W.cell? ⟨w.heap.size, 3, none⟩ = some (.slice K x.ks.length k))
    (first | exact KS.out _ (below_drew (Below.refl _ _)) | exact KS.out _ b1 | fail)
    (first
    | (go_at_call 139; (with_reducible refine (HS.out _ (below_drew (Below.refl _ _))).mono ?_); rintro e w1 ⟨rfl, b1'⟩; have b1 : Below w0.heap.size w0 w1 := below_undrew b1')
    | fail)
  go_wp2_with fail
  go_ret
  refine ⟨?_, b0.trans (b1.mono b0.size)⟩
  have e1 : IntKind.i64.wrap (4 + (x.d.length : Int)) = 4 + (x.d.length : Int) := by unfold IntKind.wrap IntKind.bits; simp; omega
  have e2 : IntKind.i64.wrap (4 + (x.d.length : Int) + (z : Int)) = ((4 + x.d.length + z : Nat) : Int) := by unfold IntKind.wrap IntKind.bits; simp; omega
  show Ending.returned (.int .i64 (IntKind.i64.wrap (IntKind.i64.wrap (4 + (x.d.length : Int)) + (z : Int)))) = _
  rw [e1, e2]
def fewB (x : Ck) : Bool := decide (x.d.length ≤ 70000) && decide (cnt 21 x.ks ≤ 200)
set_option maxHeartbeats 1000000 in
theorem rfew12 (x : Ck) (hk : x.ks.length ≤ 9223372036854775807) (hb : ∀ n ∈ x.ks, Bnd n) (A : Option Addr) (c : Nat) (K : Option Addr) (k : Nat) (w : World) (h : Chunk w w.heap.size A c K k x) :
    Calls Tryz.prog 31 #[ckV x A c K k] w fun e w' => e = .returned (.bool (fewB x)) ∧ Below w.heap.size w w' := by
  have b0 : Below w.heap.size w (w.alloc (.cells (ckCells x A c K k) 44)) := (Below.refl _ w).alloc (Nat.le_refl _) _
  have x0 := CkBox.new w x A c K k
  have hF := few_any K k x.ks _ (h.on b0).kids hk hb
  obtain ⟨q0, q1, q2, q3⟩ := x0.cs
  unfold fewB
  generalize decide (cnt 21 x.ks ≤ 200) = kb at *
  by_cases hd : x.d.length ≤ 70000
  · rw [decide_eq_true hd, Bool.true_and]
    have hd' : (x.d.length : Int) ≤ 70000 := by omega
    clear hd h
    go_enter Tryz.func31, Tryz.ntmps31
    go_wp2_with fail
    generalize w.alloc (.cells (ckCells x A c K k) 44) = w0 at *
    refine hF.mono ?_
    rintro e w1 ⟨rfl, b1⟩
    go_wp2_with fail
    go_ret
    exact ⟨rfl, b0.trans (b1.mono b0.size)⟩
  · rw [decide_eq_false hd, Bool.false_and]
    have hd' : ¬ (x.d.length : Int) ≤ 70000 := by omega
    clear hd h hF
    go_enter Tryz.func31, Tryz.ntmps31
    go_wp2_with fail
    go_ret
    exact ⟨rfl, b0⟩
end Go.Proofs.YtmohbkniekeafaaGreatDoor


