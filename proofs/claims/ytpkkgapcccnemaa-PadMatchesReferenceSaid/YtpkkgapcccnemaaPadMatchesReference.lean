/- Layer 3, the law PadMatchesReference: the walk. -/
import Derived.Test.YtpkkgapcccnemaaPadLeast
namespace Go.Proofs.Ytpkkgapcccnemaa
open Go.RowKit Go.ChangeShapes Go.WideShapes Go.ChangeAt

theorem padref_any (A : Option Addr) (c : Nat) (b : List UInt8) (n : Nat) (hn : n < 4294967296) (w : World) (h : Lies w w.heap.size A (b.map bv)) :
    Calls Try.prog 3 #[.slice A b.length c, .int .u32 (n : Int)] w fun e w' => e = .returned (.bool true) ∧ Below w.heap.size w w' := by
  by_cases hb : b.length ≤ 1000
  · have hg := gap_lt n
    have hu : up n = n + gap n := rfl
    have hU := up_any n (by omega)
    have hG := gap_any n (by omega)
    have hR := rgap_any n (by omega)
    have hUb := up_any b.length (by omega)
    generalize hx : up n = x at *
    generalize gap n = g at *
    have t3 : ((x : Int) == (n : Int) + (g : Int)) = true := by rw [beq_iff_eq]; omega
    have t4 : x ≤ n + 3 := by omega
    have HX := Lib.hid hx
    clear hu hx
    have hB := fun (w' : World) (h : Lies w' w'.heap.size A (b.map bv)) => bytes_any A c b w' h (by omega)
    have hRB := fun (w' : World) (h : Lies w' w'.heap.size A (b.map bv)) => rbytes_any A c b w' h (by omega)
    have hl := Lib.hid (padB_len b)
    have hul : up b.length ≤ 1003 := by have := gap_lt b.length; unfold up; omega
    have HS : ∀ (A1 A2 : Option Addr) (c1 c2 B : Nat) (w' : World), Lies w' B A1 ((padB b).map bv) → Lies w' B A2 ((padB b).map bv) →
        Calls Try.prog 12 #[.slice A1 (up b.length) c1, .slice A2 (up b.length) c2] w' fun e w'' => e = .returned (.bool true) ∧ ∃ q, w'' = w'.drewN q := by
      intro A1 A2 c1 c2 B w' h1 h2
      have hs := same_any A1 A2 c1 c2 B (padB b) (padB b) w' h1 h2 (by rw [hl.out]; unfold maxLen; omega)
      rw [hl.out, decide_eq_true rfl] at hs
      exact hs
    have hZ := fun (w' : World) (h : Lies w' w'.heap.size A (b.map bv)) => zero_any A c w'.heap.size b w' h (by unfold maxLen; omega)
    have hRZ := fun (w' : World) (h : Lies w' w'.heap.size A (b.map bv)) => rzero_any A c w'.heap.size b w' h (by unfold maxLen; omega)
    generalize up b.length = u at *
    generalize zeroB b = z at *
    generalize (padB b).map bv = P at *
    go_enter Try.func3, Try.ntmps3
    go_wp2_with fail
    refine (awake_any w).mono ?_
    rintro e w1 ⟨rfl, b1⟩
    have h1 := (h.below b1).more b1.size
    go_wp2_with fail
    refine (hB w1 h1).mono ?_
    rintro e w2 ⟨A2, c2, rfl, own2, b12⟩
    have h2 := (h1.below b12).more b12.size
    have b2 := b1.trans (b12.mono b1.size)
    clear b1 b12 h1
    go_wp2_with fail
    refine (hG w2).mono ?_
    rintro e w3 ⟨rfl, rfl⟩
    go_wp2_with fail
    refine (hR w2).mono ?_
    rintro e w3 ⟨rfl, rfl⟩
    go_wp2_with fail
    refine (hU w2).mono ?_
    rintro e w3 ⟨rfl, rfl⟩
    go_wp2_with fail
    refine (hR w2).mono ?_
    rintro e w3 ⟨rfl, rfl⟩
    go_wp2_with fail
    refine (hRB w2 h2).mono ?_
    rintro e w3 ⟨A3, c3, rfl, own3, b23⟩
    have h3 := (h2.below b23).more b23.size
    have b3 := b2.trans (b23.mono b2.size)
    have own23 := own_below' own2 b23
    clear b2 b23 h2 own2
    go_wp2_with fail
    refine (HS A2 A3 c2 c3 w3.heap.size w3 (Lies.own own23) (Lies.own own3)).mono ?_
    rintro e w4 ⟨rfl, q, hw4⟩
    have b34 : Below w3.heap.size w3 w4 := by rw [hw4]; exact below_drewN (Below.refl _ _) _
    have h4 := (h3.below b34).more b34.size
    have b4 := b3.trans (b34.mono b3.size)
    clear hw4 b3 b34 h3 own23 own3
    go_wp2_with fail
    refine (hUb w4).mono ?_
    rintro e w5 ⟨rfl, rfl⟩
    go_wp2_with fail
    refine (hZ w4 h4).mono ?_
    rintro e w5 ⟨rfl, rfl⟩
    go_wp2_with fail
    refine (hRZ w4 h4).mono ?_
    rintro e w5 ⟨rfl, rfl⟩
    go_wp2_with fail
    go_ret
    exact ⟨rfl, b4⟩
  · have hn2 : (1000 : Int) < (b.length : Int) := by omega
    go_enter Try.func3, Try.ntmps3
    go_wp2_with fail
    refine (awake_any w).mono ?_
    rintro e w1 ⟨rfl, b1⟩
    go_wp2_with fail
    refine (awake_any w1).mono ?_
    rintro e w2 ⟨rfl, b2⟩
    go_wp2_with fail
    go_ret
    exact ⟨rfl, b1.trans (b2.mono b1.size)⟩

theorem law_PadMatchesReference {H : Type} {enc : TypeId × Value → H} {W : World} {base : Nat} {v0 v1 : Value} {d0 d1 : DataW H} {p0 p1 : List MemPlace}
    (o0 : Value.okWide Try.prog W .any base 22 v0) (h0 : DataW.Trod enc Try.prog W 0 (fun _ => true) true 22 v0 d0 p0) (_s0 : Small Try.prog 22 d0)
    (o1 : Value.okWide Try.prog W .any base 23 v1) (h1 : DataW.Trod enc Try.prog W 0 (fun _ => true) true 23 v1 d1 p1) (_s1 : Small Try.prog 23 d1) :
    Calls Try.prog 3 #[v0, v1] W fun e w' => e = .returned (.bool true) ∧ Below W.heap.size W w' := by
  obtain ⟨A, n, c, rfl⟩ := okWide_slice Try.underlying22 o0
  obtain ⟨fuel, hf⟩ := h0
  obtain ⟨b, rfl, hl, hc, hcm⟩ := open_bytes Try.underlying22 Try.underlying5 (by kernel_rfl) hf
  obtain ⟨k, rfl, hk⟩ := open_u32 o1 h1
  exact padref_any A c b k hk W hl
end Go.Proofs.Ytpkkgapcccnemaa
