/- Layer 7: the law ShapeInside. -/
import Derived.Test.YtemjiijfndnhbaaShapeE
import Derived.Test.YtemjiijfndnhbaaShapeR
import Derived.Test.YtemjiijfndnhbaaOpen
namespace Go.Proofs.Ytemjiijfndnhbaa
open Go.ChangeShapes Go.WideShapes Go.ChangeAt Go.RowKit

theorem whole_kids : ∀ f ∈ whole, (f.ki == 0 || f.lo == f.hi) = true := by
  have h : whole.all (fun f => f.ki == 0 || f.lo == f.hi) = true := rfl
  exact fun f hf => List.all_eq_true.1 h f hf

set_option maxRecDepth 100000 in
set_option maxHeartbeats 8000000 in
theorem sinside_neg (k n : Int) (w : World) (hn : n < 0) :
    Calls Try.prog 7 #[.int .i64 k, .int .i64 n] w fun e w' => e = .returned (.bool true) ∧ Below w.heap.size w w' := by
  go_enter Try.func7, Try.ntmps7
  go_wp2_with fail
  refine (awake_any w).mono ?_
  rintro e w1 ⟨rfl, b1⟩
  go_wp2_with fail
  refine (awake_any w1).mono ?_
  rintro e w2 ⟨rfl, b2⟩
  go_wp2_with fail
  go_ret
  exact ⟨rfl, b1.trans (b2.mono b1.size)⟩
set_option maxRecDepth 100000 in
set_option maxHeartbeats 8000000 in
theorem sinside_at (k x y z : Int) (n : Nat) (w : World) (h : ins k = (x, y, z)) (hk : (k = 1 ∧ x = 1 ∧ y = 1 ∧ z = 1) ∨ (k = 4 ∧ x = 1 ∧ y = 1 ∧ z = 1) ∨ (k = 2 ∧ x = 1 ∧ y = 1 ∧ z = 16384) ∨ (k = 3 ∧ x = 2 ∧ y = 1 ∧ z = 16384)) :
    Calls Try.prog 7 #[.int .i64 k, .int .i64 (n : Int)] w fun e w' => e = .returned (.bool true) ∧ Below w.heap.size w w' := by
  have hI := inside_any k
  rw [h] at hI
  simp only [] at hI
  rcases hk with ⟨rfl, rfl, rfl, rfl⟩ | ⟨rfl, rfl, rfl, rfl⟩ | ⟨rfl, rfl, rfl, rfl⟩ | ⟨rfl, rfl, rfl, rfl⟩
  all_goals
    go_enter Try.func7, Try.ntmps7
    go_wp2_with fail
    refine (awake_any w).mono ?_
    rintro e w1 ⟨rfl, b1⟩
    go_wp2_with fail
    refine (hI _).mono ?_
    rintro e w2 ⟨rfl, rfl⟩
    go_wp2_with fail
    go_ret
    exact ⟨rfl, b1⟩
set_option maxRecDepth 100000 in
set_option maxHeartbeats 8000000 in
theorem sinside_none (k : Int) (n : Nat) (hn : n ≤ 9223372036854775807) (w : World) (h1 : ¬ k = 1) (h4 : ¬ k = 4) (h2 : ¬ k = 2) (h3 : ¬ k = 3) :
    Calls Try.prog 7 #[.int .i64 k, .int .i64 (n : Int)] w fun e w' => e = .returned (.bool true) ∧ Below w.heap.size w w' := by
  have hI := inside_any k
  have hz : ins k = (0, 0, 0) := by unfold ins; rw [if_neg h1, if_neg h4, if_neg h2, if_neg h3]
  rw [hz] at hI
  simp only [] at hI
  have hN := number_any n hn
  clear hz
  go_enter Try.func7, Try.ntmps7
  go_wp2_with fail
  refine (awake_any w).mono ?_
  rintro e w1 ⟨rfl, b1⟩
  go_wp2_with fail
  refine (hI _).mono ?_
  rintro e w2 ⟨rfl, rfl⟩
  go_wp2_with fail
  refine (hN _).mono ?_
  rintro e w3 ⟨f, hf, rfl, b3⟩
  have hb3 := b1.trans (b3.mono b1.size)
  have hk := whole_kids f hf
  have hW := Whole.new w3 28 #[.int .i64 f.cl, hv f.ty, .string f.nm, .int .i64 f.lo, .int .i64 f.hi, .int .i64 f.un, .int .i64 f.ki]
  have c3 := hW.cell 3
  have c4 := hW.cell 4
  have c6 := hW.cell 6
  simp only [List.getElem?_toArray, List.getElem?_cons_zero, List.getElem?_cons_succ] at c3 c4 c6
  unfold Form.val
  by_cases h0 : f.ki = 0
  · have e0 : (f.ki == 0) = true := by simpa using h0
    clear hk
    go_wp2_with (refine wpList_new_form rfl 28 _ _ rfl w3 _ _ rfl rfl rfl (by kernel_rfl) rfl ?_)
    go_ret
    exact ⟨rfl, hb3.alloc hb3.size _⟩
  · have e0 : (f.ki == 0) = false := by simpa using h0
    rw [e0, Bool.false_or] at hk
    clear h0
    go_wp2_with (refine wpList_new_form rfl 28 _ _ rfl w3 _ _ rfl rfl rfl (by kernel_rfl) rfl ?_)
    go_ret
    exact ⟨rfl, hb3.alloc hb3.size _⟩

theorem law_ShapeInside {H : Type} {enc : TypeId × Value → H} {W : World} {base : Nat} {v0 v1 : Value} {d0 d1 : DataW H} {p0 p1 : List MemPlace}
    (o0 : Value.okWide Try.prog W .any base 3 v0) (h0 : DataW.Trod enc Try.prog W 0 (fun _ => true) true 3 v0 d0 p0) (_s0 : Small Try.prog 3 d0)
    (o1 : Value.okWide Try.prog W .any base 3 v1) (h1 : DataW.Trod enc Try.prog W 0 (fun _ => true) true 3 v1 d1 p1) (_s1 : Small Try.prog 3 d1) :
    Calls Try.prog 7 #[v0, v1] W fun e w' => e = .returned (.bool true) ∧ Below W.heap.size W w' := by
  obtain ⟨k, rfl, _, _, _⟩ := open_int Try.underlying3 o0 h0
  obtain ⟨n, rfl, _, _, wn⟩ := open_int Try.underlying3 o1 h1
  have hb := bounds_i64 wn
  by_cases hn : n < 0
  · exact sinside_neg k n W hn
  · obtain ⟨m, rfl⟩ : ∃ m : Nat, n = m := ⟨n.toNat, by omega⟩
    by_cases h1 : k = 1
    · exact sinside_at k 1 1 1 m W (by subst h1; rfl) (.inl ⟨h1, rfl, rfl, rfl⟩)
    · by_cases h4 : k = 4
      · exact sinside_at k 1 1 1 m W (by subst h4; rfl) (.inr (.inl ⟨h4, rfl, rfl, rfl⟩))
      · by_cases h2 : k = 2
        · exact sinside_at k 1 1 16384 m W (by subst h2; rfl) (.inr (.inr (.inl ⟨h2, rfl, rfl, rfl⟩)))
        · by_cases h3 : k = 3
          · exact sinside_at k 2 1 16384 m W (by subst h3; rfl) (.inr (.inr (.inr ⟨h3, rfl, rfl, rfl⟩)))
          · exact sinside_none k m (by omega) W h1 h4 h2 h3
end Go.Proofs.Ytemjiijfndnhbaa
