/- Layer 7: the law ShapeMatchesReference. -/
import Derived.Test.YtemjiijfndnhbaaShapeE
import Derived.Test.YtemjiijfndnhbaaShapeR
import Derived.Test.YtemjiijfndnhbaaOpen
import Derived.Laws.StructEq
namespace Go.Proofs.Ytemjiijfndnhbaa
open Go.ChangeShapes Go.WideShapes Go.ChangeAt Go.RowKit

def u16of (n : Nat) : UInt16 := UInt16.ofNat n
theorem hv_of {z : Int} (h : 0 ≤ z ∧ z < 65536) : Value.int .u16 z = hv (u16of z.toNat) := by
  unfold hv u16of
  congr 1
  rw [UInt16.toNat_ofNat']
  omega
theorem look_cl {c : Int} {t : UInt16} {f : Form} (h : look (tab c) t = some f) : 0 < f.cl := by
  have hm := List.mem_of_find?_eq_some h
  have hp : pT.all (fun f => f.cl == 1) = true := rfl
  have hc : cT.all (fun f => f.cl == 2) = true := rfl
  unfold tab at hm
  split at hm
  · have := List.all_eq_true.1 hp f hm
    simp at this
    omega
  · split at hm
    · have := List.all_eq_true.1 hc f hm
      simp at this
      omega
    · cases hm

set_option maxRecDepth 100000 in
set_option maxHeartbeats 8000000 in
theorem smatches_any (c : Int) (t : UInt16) (w : World) :
    Calls Try.prog 3 #[.int .i64 c, hv t] w fun e w' => e = .returned (.bool true) ∧ Below w.heap.size w w' := by
  have hO := of_any c t
  have hR := rof_any c t
  have hK := known_any c t
  have hA := awake_any w
  have hcl : ∀ f, look (tab c) t = some f → 0 < f.cl := fun f => look_cl
  generalize look (tab c) t = r at *
  rcases r with _ | f
  · unfold ofV at hO
    unfold rV at hR
    simp only [Option.isSome_none] at hK
    clear hcl
    go_enter Try.func3, Try.ntmps3
    go_wp2_with fail
    refine hA.mono ?_
    rintro e w1 ⟨rfl, b1⟩
    go_wp2_with fail
    refine (hO _).mono ?_
    rintro e w2 ⟨rfl, b2⟩
    have hb2 := b1.trans (b2.mono b1.size)
    clear b1 b2
    go_wp2_with (refine wpList_new_form rfl 25 _ _ rfl w2 _ _ rfl rfl rfl (by kernel_rfl) rfl ?_)
    have hW2 := Whole.new w2 25 zform
    have hb3 := hb2.alloc hb2.size (.cells zform 25)
    generalize w2.alloc (.cells zform 25) = w3 at *
    clear hb2
    refine (hR _).mono ?_
    rintro e w4 ⟨rfl, b4⟩
    have hW4 := hW2.below b4 hW2.lt
    have hb4 := hb3.trans (b4.mono hb3.size)
    clear hW2 hb3 b4
    have hW5 := hW4.alloc (.cells zform 28)
    have hX5 := Whole.new w4 28 zform
    have hb5 := hb4.alloc hb4.size (.cells zform 28)
    clear hW4 hb4
    go_wp2_with (first
      | (refine wpList_new_form rfl 28 _ _ rfl w4 _ _ rfl rfl rfl (by kernel_rfl) rfl ?_)
      | (refine wpList_load_row rfl 25 _ rfl w2.heap.size rfl _ _ (0, 0) _ hW5 Try.underlying25 rfl (by kernel_rfl) ?_)
      | (refine wpList_load_row rfl 28 _ rfl w4.heap.size rfl _ _ (0, 0) _ hX5 Try.underlying28 rfl (by kernel_rfl) ?_))
    generalize w4.alloc (.cells zform 28) = w5 at *
    refine (hK _).mono ?_
    rintro e w6 ⟨rfl, b6⟩
    go_wp2_with fail
    go_ret
    exact ⟨rfl, hb5.trans (b6.mono hb5.size)⟩
  · unfold ofV Form.val at hO
    unfold rV Form.val at hR
    simp only [Option.isSome_some] at hK
    have hpos := hcl f rfl
    clear hcl
    go_enter Try.func3, Try.ntmps3
    go_wp2_with fail
    refine hA.mono ?_
    rintro e w1 ⟨rfl, b1⟩
    go_wp2_with fail
    refine (hO _).mono ?_
    rintro e w2 ⟨rfl, b2⟩
    have hb2 := b1.trans (b2.mono b1.size)
    clear b1 b2
    go_wp2_with (refine wpList_new_form rfl 25 _ _ rfl w2 _ _ rfl rfl rfl (by kernel_rfl) rfl ?_)
    have hW2 := Whole.new w2 25 #[.int .i64 f.cl, hv f.ty, .string f.nm, .int .i64 f.lo, .int .i64 f.hi, .int .i64 f.un, .int .i64 f.ki]
    have hb3 := hb2.alloc hb2.size (.cells #[.int .i64 f.cl, hv f.ty, .string f.nm, .int .i64 f.lo, .int .i64 f.hi, .int .i64 f.un, .int .i64 f.ki] 25)
    generalize w2.alloc (.cells #[.int .i64 f.cl, hv f.ty, .string f.nm, .int .i64 f.lo, .int .i64 f.hi, .int .i64 f.un, .int .i64 f.ki] 25) = w3 at *
    clear hb2
    refine (hR _).mono ?_
    rintro e w4 ⟨rfl, b4⟩
    have hW4 := hW2.below b4 hW2.lt
    have hb4 := hb3.trans (b4.mono hb3.size)
    clear hW2 hb3 b4
    have hW5 := hW4.alloc (.cells #[.int .i64 f.cl, hv f.ty, .string f.nm, .int .i64 f.lo, .int .i64 f.hi, .int .i64 f.un, .int .i64 f.ki] 28)
    have hX5 := Whole.new w4 28 #[.int .i64 f.cl, hv f.ty, .string f.nm, .int .i64 f.lo, .int .i64 f.hi, .int .i64 f.un, .int .i64 f.ki]
    have hb5 := hb4.alloc hb4.size (.cells #[.int .i64 f.cl, hv f.ty, .string f.nm, .int .i64 f.lo, .int .i64 f.hi, .int .i64 f.un, .int .i64 f.ki] 28)
    clear hW4 hb4
    go_wp2_with (first
      | (refine wpList_new_form rfl 28 _ _ rfl w4 _ _ rfl rfl rfl (by kernel_rfl) rfl ?_)
      | (refine wpList_load_row rfl 25 _ rfl w2.heap.size rfl _ _ (0, 0) _ hW5 Try.underlying25 rfl (by kernel_rfl) ?_)
      | (refine wpList_load_row rfl 28 _ rfl w4.heap.size rfl _ _ (0, 0) _ hX5 Try.underlying28 rfl (by kernel_rfl) ?_))
    generalize w4.alloc (.cells #[.int .i64 f.cl, hv f.ty, .string f.nm, .int .i64 f.lo, .int .i64 f.hi, .int .i64 f.un, .int .i64 f.ki] 28) = w5 at *
    refine (hK _).mono ?_
    rintro e w6 ⟨rfl, b6⟩
    go_wp2_with fail
    go_ret
    exact ⟨rfl, hb5.trans (b6.mono hb5.size)⟩

theorem law_ShapeMatchesReference {H : Type} {enc : TypeId × Value → H} {W : World} {base : Nat} {v0 v1 : Value} {d0 d1 : DataW H} {p0 p1 : List MemPlace}
    (o0 : Value.okWide Try.prog W .any base 3 v0) (h0 : DataW.Trod enc Try.prog W 0 (fun _ => true) true 3 v0 d0 p0) (_s0 : Small Try.prog 3 d0)
    (o1 : Value.okWide Try.prog W .any base 22 v1) (h1 : DataW.Trod enc Try.prog W 0 (fun _ => true) true 22 v1 d1 p1) (_s1 : Small Try.prog 22 d1) :
    Calls Try.prog 3 #[v0, v1] W fun e w' => e = .returned (.bool true) ∧ Below W.heap.size W w' := by
  obtain ⟨c, rfl, _, _, _⟩ := open_int Try.underlying3 o0 h0
  obtain ⟨t, rfl, _, _, wt⟩ := open_int Try.underlying22 o1 h1
  rw [hv_of (wf_u16 wt)]
  exact smatches_any c (u16of t.toNat) W
end Go.Proofs.Ytemjiijfndnhbaa
