/- Layer 11: the law KindFits. -/
import Derived.Test.YtcbheefmggajcaaKindE
import Derived.Test.YtcbheefmggajcaaKindR
import Derived.Test.YtcbheefmggajcaaOpen
import Derived.Deep.RegionHeld3




namespace Go.Proofs.Ytcbheefmggajcaa
open Go.ChangeShapes Go.WideShapes Go.ChangeAt Go.RowKit


theorem below_undrew {B : Nat} {w w' : World} (h : Below B w.drew w') : Below B w w' := ⟨h.os, h.tape, h.output, h.size, h.block⟩
theorem kT_tame : ∀ f ∈ kT, KTame f := by
  have h : kT.all (fun f => decide (0 ≤ f.lo) && decide (f.lo ≤ 17) && decide (0 ≤ f.hi) && decide (f.hi ≤ 65531) && decide (1 ≤ f.un) && decide (f.un ≤ 8)) = true := rfl
  intro f hf
  have := List.all_eq_true.1 h f hf
  simp only [Bool.and_eq_true, decide_eq_true_eq] at this
  obtain ⟨⟨⟨⟨⟨a, b⟩, c⟩, d⟩, e⟩, g⟩ := this
  exact ⟨⟨a, b⟩, ⟨c, d⟩, e, g⟩

set_option maxRecDepth 100000 in
set_option maxHeartbeats 8000000 in
theorem klfits_neg (n k : Int) (w : World) (hn : n < 0) :
    Calls Try.prog 6 #[.int .i64 n, .int .i64 k] w fun e w' => e = .returned (.bool true) ∧ Below w.heap.size w w' := by
  go_enter Try.func6, Try.ntmps6
  go_wp2_with fail
  refine (kawake_any w).mono ?_
  rintro e w1 ⟨rfl, b1⟩
  go_wp2_with fail
  refine (kawake_any w1).mono ?_
  rintro e w2 ⟨rfl, b2⟩
  go_wp2_with fail
  go_ret
  exact ⟨rfl, b1.trans (b2.mono b1.size)⟩
set_option maxRecDepth 100000 in
set_option maxHeartbeats 8000000 in
theorem klfits_any (n : Nat) (k : Int) (hn : n ≤ 9223372036854775807) (w : World) :
    Calls Try.prog 6 #[.int .i64 (n : Int), .int .i64 k] w fun e w' => e = .returned (.bool true) ∧ Below w.heap.size w w' := by
  have hN := rknumber_any n hn
  go_enter Try.func6, Try.ntmps6
  go_wp2_with fail
  refine (kawake_any w).mono ?_
  rintro e w1 ⟨rfl, b1⟩
  go_wp2_with fail
  refine (hN _).mono ?_
  rintro e w3 ⟨f, hf, rfl, b3⟩
  have hb3 := b1.trans (b3.mono b1.size)
  have hF := kfits_any f (kT_tame f hf) k
  have hR := rkfits_any f (kT_tame f hf) k
  generalize kfitsB f k = b at *
  unfold Kd.val at *
  have hW := Whole.new w3 27 #[bv f.ty, .string f.nm, bv f.ms, .int .i64 f.lo, .int .i64 f.hi, .int .i64 f.un, .int .i64 f.ki]
  have hb4 := hb3.alloc hb3.size (.cells #[bv f.ty, .string f.nm, bv f.ms, .int .i64 f.lo, .int .i64 f.hi, .int .i64 f.un, .int .i64 f.ki] 27)
  clear hb3 hf hN b1 b3
  go_wp2_with (refine wpList_new_kd rfl 27 _ _ rfl w3 _ _ rfl rfl rfl (by kernel_rfl) rfl ?_)
  generalize w3.alloc (.cells #[bv f.ty, .string f.nm, bv f.ms, .int .i64 f.lo, .int .i64 f.hi, .int .i64 f.un, .int .i64 f.ki] 27) = w4 at *
  obtain ⟨c0, c1, c2, c3, c4, c5, c6⟩ := hW.form7
  have hlt := hW.lt
  have hsz := hb4.size
  go_region_held3 (fun W => W.cell? ⟨w3.heap.size, 0, none⟩ = some (bv f.ty) ∧ W.cell? ⟨w3.heap.size, 1, none⟩ = some (.string f.nm) ∧ W.cell? ⟨w3.heap.size, 2, none⟩ = some (bv f.ms) ∧ W.cell? ⟨w3.heap.size, 3, none⟩ = some (.int .i64 f.lo) ∧ W.cell? ⟨w3.heap.size, 4, none⟩ = some (.int .i64 f.hi) ∧ W.cell? ⟨w3.heap.size, 5, none⟩ = some (.int .i64 f.un) ∧ W.cell? ⟨w3.heap.size, 6, none⟩ = some (.int .i64 f.ki)) (first | exact hS6 | exact hS5 | go_keep) (first
    | (go_at_call 18; refine (hF _).mono ?_; rintro e w5 ⟨rfl, b5⟩; have hW5 : Whole w5 _ _ _ := Whole.below (w := w4.drew) hW b5 hlt; have hS5 := hW5.form7; have hb5 : Below w.heap.size w w5 := hb4.trans (below_undrew (b5.mono hsz)))
    | (go_at_call 19; refine (hR _).mono ?_; rintro e w6 ⟨rfl, b6⟩; have hS6 := (Whole.below (w := w5) hW5 b6 hW5.lt).form7; have hb6 : Below w.heap.size w w6 := hb5.trans (b6.mono hb5.size)))
  go_wp2_with fail
  go_ret
  exact ⟨ret_bool (by simp), hb6⟩
theorem law_KindFits {H : Type} {enc : TypeId × Value → H} {W : World} {base : Nat} {v0 v1 : Value} {d0 d1 : DataW H} {p0 p1 : List MemPlace}
    (o0 : Value.okWide Try.prog W .any base 3 v0) (h0 : DataW.Trod enc Try.prog W 0 (fun _ => true) true 3 v0 d0 p0) (_s0 : Small Try.prog 3 d0)
    (o1 : Value.okWide Try.prog W .any base 3 v1) (h1 : DataW.Trod enc Try.prog W 0 (fun _ => true) true 3 v1 d1 p1) (_s1 : Small Try.prog 3 d1) :
    Calls Try.prog 6 #[v0, v1] W fun e w' => e = .returned (.bool true) ∧ Below W.heap.size W w' := by
  obtain ⟨n, rfl, _, _, wn⟩ := open_int Try.underlying3 o0 h0
  obtain ⟨k, rfl, _, _, _⟩ := open_int Try.underlying3 o1 h1
  have hb := bounds_i64 wn
  by_cases hn : n < 0
  · exact klfits_neg n k W hn
  · obtain ⟨m, rfl⟩ : ∃ m : Nat, n = m := ⟨n.toNat, by omega⟩
    exact klfits_any m k (by omega) W
end Go.Proofs.Ytcbheefmggajcaa

