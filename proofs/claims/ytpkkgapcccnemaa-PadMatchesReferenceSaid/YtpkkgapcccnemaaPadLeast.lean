/- Layer 3, the law PadLeast: the walk. -/
import Derived.Test.YtpkkgapcccnemaaPadE
import Derived.Test.YtpkkgapcccnemaaOpen
namespace Go.Proofs.Ytpkkgapcccnemaa
open Go.RowKit Go.ChangeShapes Go.WideShapes Go.ChangeAt

theorem up_up (n : Nat) : up (up n) = up n := by unfold up gap; omega
theorem padleast_any (n m : Nat) (hn : n < 4294967296) (hm : m < 4294967296) (w : World) :
    Calls Try.prog 6 #[.int .u32 (n : Int), .int .u32 (m : Int)] w fun e w' => e = .returned (.bool true) ∧ Below w.heap.size w w' := by
  have hg := gap_lt n
  have hum := up_mod n
  have hu : up n = n + gap n := rfl
  have hU := up_any n (by omega)
  have hU2 := up_any (up n) (by omega)
  rw [up_up] at hU2
  have hG := gap_any n (by omega)
  have hor : 4 * m < n ∨ up n ≤ 4 * m := by omega
  generalize up n = u at *
  generalize gap n = g at *
  have t1 : ((u : Int) % 4 == 0) = true := by rw [beq_iff_eq]; omega
  have t2 : n ≤ u := by omega
  have t3 : ((u : Int) - (n : Int) == (g : Int)) = true := by rw [beq_iff_eq]; omega
  have t4 : u ≤ n + 3 := by omega
  clear hu hum hg
  rcases hor with hlt | hge
  · have t5 : 4 * (m : Int) < (n : Int) := by omega
    go_enter Try.func6, Try.ntmps6
    go_wp2_with fail
    refine (awake_any w).mono ?_
    rintro e w1 ⟨rfl, b1⟩
    go_wp2_with fail
    refine (hU w1).mono ?_
    rintro e w2 ⟨rfl, rfl⟩
    go_wp2_with fail
    refine (hG w1).mono ?_
    rintro e w2 ⟨rfl, rfl⟩
    go_wp2_with fail
    refine (hU2 w1).mono ?_
    rintro e w2 ⟨rfl, rfl⟩
    go_wp2_with fail
    go_ret
    exact ⟨rfl, b1⟩
  · have t5 : (n : Int) ≤ 4 * (m : Int) := by omega
    have t6 : (u : Int) ≤ 4 * (m : Int) := by omega
    go_enter Try.func6, Try.ntmps6
    go_wp2_with fail
    refine (awake_any w).mono ?_
    rintro e w1 ⟨rfl, b1⟩
    go_wp2_with fail
    refine (hU w1).mono ?_
    rintro e w2 ⟨rfl, rfl⟩
    go_wp2_with fail
    refine (hG w1).mono ?_
    rintro e w2 ⟨rfl, rfl⟩
    go_wp2_with fail
    refine (hU2 w1).mono ?_
    rintro e w2 ⟨rfl, rfl⟩
    go_wp2_with fail
    go_ret
    exact ⟨rfl, b1⟩

theorem open_u32 {H : Type} {enc : TypeId × Value → H} {W : World} {base : Nat} {v0 : Value} {d0 : DataW H} {p0 : List MemPlace}
    (o0 : Value.okWide Try.prog W .any base 23 v0) (h0 : DataW.Trod enc Try.prog W 0 (fun _ => true) true 23 v0 d0 p0) : ∃ n : Nat, v0 = .int .u32 (n : Int) ∧ n < 4294967296 := by
  obtain ⟨k, rfl, _, _, wk⟩ := open_int Try.underlying23 o0 h0
  have hw := wf_u32 wk
  exact ⟨k.toNat, by congr 1; omega, by omega⟩
theorem law_PadLeast {H : Type} {enc : TypeId × Value → H} {W : World} {base : Nat} {v0 v1 : Value} {d0 d1 : DataW H} {p0 p1 : List MemPlace}
    (o0 : Value.okWide Try.prog W .any base 23 v0) (h0 : DataW.Trod enc Try.prog W 0 (fun _ => true) true 23 v0 d0 p0) (_s0 : Small Try.prog 23 d0)
    (o1 : Value.okWide Try.prog W .any base 23 v1) (h1 : DataW.Trod enc Try.prog W 0 (fun _ => true) true 23 v1 d1 p1) (_s1 : Small Try.prog 23 d1) :
    Calls Try.prog 6 #[v0, v1] W fun e w' => e = .returned (.bool true) ∧ Below W.heap.size W w' := by
  obtain ⟨n, rfl, hn⟩ := open_u32 o0 h0
  obtain ⟨m, rfl, hm⟩ := open_u32 o1 h1
  exact padleast_any n m hn hm W
end Go.Proofs.Ytpkkgapcccnemaa
