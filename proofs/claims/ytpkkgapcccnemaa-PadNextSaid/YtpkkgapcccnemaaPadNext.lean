/- Layer 3, the law PadNext: the walk. -/
import Derived.Test.YtpkkgapcccnemaaPadE
import Derived.Test.YtpkkgapcccnemaaOpen
namespace Go.Proofs.Ytpkkgapcccnemaa
open Go.RowKit Go.ChangeShapes Go.WideShapes Go.ChangeAt

theorem padnext_any (A : Option Addr) (c : Nat) (b : List UInt8) (n : Int) (w : World) (h : Lies w w.heap.size A (b.map bv)) (hbc : b.length ≤ c) :
    Calls Try.prog 4 #[.slice A b.length c, .int .i64 n] w fun e w' => e = .returned (.bool true) ∧ Below w.heap.size w w' := by
  by_cases hn : b.length ≤ 1000
  · have hN := fun (w' : World) (h : Lies w' w'.heap.size A (b.map bv)) => next_any A c b n w' h hbc hn
    have hR := fun (w' : World) (h : Lies w' w'.heap.size A (b.map bv)) => rnext_any A c b n w' h hbc hn
    generalize nextN b n = x at *
    generalize nextB b n = y at *
    go_enter Try.func4, Try.ntmps4
    go_wp2_with fail
    refine (awake_any w).mono ?_
    rintro e w1 ⟨rfl, b1⟩
    have h1 := (h.below b1).more b1.size
    go_wp2_with fail
    refine (hN w1 h1).mono ?_
    rintro e w2 ⟨rfl, rfl⟩
    go_wp2_with fail
    refine (hR w1 h1).mono ?_
    rintro e w2 ⟨rfl, rfl⟩
    go_wp2_with fail
    go_ret
    exact ⟨rfl, b1⟩
  · have hn2 : (1000 : Int) < (b.length : Int) := by omega
    go_enter Try.func4, Try.ntmps4
    go_wp2_with fail
    refine (awake_any w).mono ?_
    rintro e w1 ⟨rfl, b1⟩
    go_wp2_with fail
    refine (awake_any w1).mono ?_
    rintro e w2 ⟨rfl, b2⟩
    go_wp2_with fail
    go_ret
    exact ⟨rfl, b1.trans (b2.mono b1.size)⟩

theorem law_PadNext {H : Type} {enc : TypeId × Value → H} {W : World} {base : Nat} {v0 v1 : Value} {d0 d1 : DataW H} {p0 p1 : List MemPlace}
    (o0 : Value.okWide Try.prog W .any base 22 v0) (h0 : DataW.Trod enc Try.prog W 0 (fun _ => true) true 22 v0 d0 p0) (_s0 : Small Try.prog 22 d0)
    (o1 : Value.okWide Try.prog W .any base 3 v1) (h1 : DataW.Trod enc Try.prog W 0 (fun _ => true) true 3 v1 d1 p1) (_s1 : Small Try.prog 3 d1) :
    Calls Try.prog 4 #[v0, v1] W fun e w' => e = .returned (.bool true) ∧ Below W.heap.size W w' := by
  obtain ⟨A, n, c, rfl⟩ := okWide_slice Try.underlying22 o0
  obtain ⟨fuel, hf⟩ := h0
  obtain ⟨b, rfl, hl, hc, hcm⟩ := open_bytes Try.underlying22 Try.underlying5 (by kernel_rfl) hf
  obtain ⟨k, rfl, _, _, wk⟩ := open_int Try.underlying3 o1 h1
  exact padnext_any A c b k W hl hc
end Go.Proofs.Ytpkkgapcccnemaa
