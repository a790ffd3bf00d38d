/- Layer 10: the law CauseParams. It writes nothing that was there. -/
import Derived.Test.YtdnilbebdgohnaaCauseL

namespace Go.Proofs.Ytdnilbebdgohnaa
open Go.ChangeShapes Go.WideShapes Go.ChangeAt Go.RowKit

set_option maxRecDepth 100000 in
set_option maxHeartbeats 4000000 in
theorem cpr_law (t : UInt16) (A : Option Addr) (c : Nat) (ns : List Nd) (w : World) (h : Nodes w w.heap.size A ns) (hc : ns.length ≤ c) (hcm : c ≤ maxLen) (hb : ∀ n ∈ ns, Bnd n) :
    Calls Try.prog 7 #[hv t, .slice A ns.length c] w fun e w' => e = .returned (.bool true) ∧ Below w.heap.size w w' := by
  have HB := Lib.hid hb
  have hm2 : ns.length ≤ 9223372036854775807 := by unfold maxLen at hcm; omega
  clear hb
  cases hfew : decide (cnt 21 ns ≤ 200) with
  | false =>
    have HF := Lib.hid hfew
    clear hfew
    go_enter Try.func7, Try.ntmps7
    go_wp2_with fail
    refine (awake10_any w).mono ?_
    rintro e w1 ⟨rfl, b1⟩
    have hF := few_any A c ns w1 ((h.bel b1).more b1.size) hm2 HB.out
    rw [HF.out] at hF
    go_wp2_with fail
    refine hF.mono ?_
    rintro e w2 ⟨rfl, b2⟩
    go_wp2_with fail
    refine (awake10_any w2).mono ?_
    rintro e w3 ⟨rfl, b3⟩
    go_wp2_with fail
    go_ret
    have B2 := b1.trans (b2.mono b1.size)
    exact ⟨rfl, B2.trans (b3.mono B2.size)⟩
  | true =>
    obtain ⟨f1, f2, f3⟩ := few_fine 21 ns (of_decide_eq_true hfew)
    have hfn : Fine (.mk t [] ns) := .mk (by rw [Nd.vlen_eq]; show ([] : List UInt8).length + sizes (lens ns) ≤ 800000; simp; omega) (by show ns.length ≤ 1000; omega) f3
    have HF := Lib.hid hfew
    have HN := Lib.hid hfn
    have HP := Lib.hid (fun W (hW : Below w.heap.size w W) => params10_any t A c ns W ((h.bel hW).more hW.size) hc hcm HN.out)
    have HK := Lib.hid (fun W (hW : Below w.heap.size w W) => rcheck1_any 2 (.inr rfl) (.mk t [] ns) none 0 A c W ⟨Lies.nil, Nat.le_refl _, Nat.zero_le _, (h.bel hW).more hW.size, hc, hcm⟩ HN.out)
    have HW : Hid (∀ W, Below w.heap.size w W → Node W W.heap.size none 0 A c (.mk t [] ns)) := fun W hW => ⟨Lies.nil, Nat.le_refl _, Nat.zero_le _, (h.bel hW).more hW.size, hc, hcm⟩
    have HO : Hid ((chk 4 2 (.mk t [] ns) = 0 ∧ rightO [t] (.mk t [] ns) = some (.mk t [] ns)) ∨ (chk 4 2 (.mk t [] ns) ≠ 0 ∧ rightO [t] (.mk t [] ns) = none)) := by
      unfold Hid rightO okC
      have e : (Nd.mk t [] ns).t ∈ [t] := List.mem_singleton.2 rfl
      by_cases hz : chk 4 2 (.mk t [] ns) = 0
      · exact .inl ⟨hz, by simp [hz, e]⟩
      · exact .inr ⟨hz, by simp [hz]⟩
    clear hfew hfn f1 f2 f3
    go_enter Try.func7, Try.ntmps7
    go_wp2_with fail
    refine (awake10_any w).mono ?_
    rintro e w1 ⟨rfl, b1⟩
    have hF := few_any A c ns w1 ((h.bel b1).more b1.size) hm2 HB.out
    rw [HF.out] at hF
    go_wp2_with fail
    refine hF.mono ?_
    rintro e w2 ⟨rfl, b2⟩
    have B2 := b1.trans (b2.mono b1.size)
    clear hF
    go_wp2_with fail
    rcases HO.out with ⟨hz, ho⟩ | ⟨hz, ho⟩
    · refine Calls.mono (R := RetN w2 (some (.mk t [] ns))) (by rw [← ho]; exact HP.out w2 B2) ?_
      rintro e w3 ⟨b3, A3, c3, K3, k3, rfl, hN3⟩
      simp only [Option.getD_some, Option.isSome_some] at hN3 ⊢
      have hN3 := hN3.node (B := w3.heap.size) fun b hb => hb.2
      have B3 := B2.trans (b3.mono B2.size)
      have bn := (Below.refl w3.heap.size w3).alloc (Nat.le_refl _) (.cells #[hv t, .slice A3 0 c3, .slice K3 ns.length k3] 28)
      have x3 : Whole _ w3.heap.size 28 #[hv t, .slice A3 0 c3, .slice K3 ns.length k3] := Whole.new w3 28 #[hv t, .slice A3 0 c3, .slice K3 ns.length k3]
      have hN3' := hN3.on bn
      have B3' := B3.trans (bn.mono B3.size)
      unfold ndV
      simp only [Nd.t, Nd.v, Nd.ks, List.length_nil]
      go_upto_region 4 with fail
      generalize w3.alloc (.cells #[hv t, .slice A3 0 c3, .slice K3 ns.length k3] 28) = v3 at *
      have bn4 := (Below.refl v3.heap.size v3).alloc (Nat.le_refl _) (.cells #[hv t, .slice none 0 0, .slice A ns.length c] 28)
      have y4 : Whole _ v3.heap.size 28 #[hv t, .slice none 0 0, .slice A ns.length c] := Whole.new v3 28 #[hv t, .slice none 0 0, .slice A ns.length c]
      have x4 := NdW.below x3 bn4
      have hN4 := hN3'.on bn4
      have B4 := B3'.trans (bn4.mono B3'.size)
      go_upto_region 5 with fail
      generalize v3.alloc (.cells #[hv t, .slice none 0 0, .slice A ns.length c] 28) = v4 at *
      obtain ⟨r0, r1, r2, _, _, _⟩ := y4.three
      have hK : Calls Try.prog 24 #[.int .i64 2, .agg #[hv t, .slice none 0 0, .slice A ns.length c], .int .i64 1] v4 _ := HK.out v4 B4
      rw [hz] at hK
      go_wp2_with fail
      refine hK.mono ?_
      rintro e w5 ⟨rfl, b5⟩
      have B5 := B4.trans (b5.mono B4.size)
      have x5 := NdW.below x4 b5
      have y5 := NdW.below y4 b5
      have hN5 := hN4.on b5
      have hS : Calls Try.prog 11 #[.agg #[hv t, .slice A3 0 c3, .slice K3 ns.length k3], .agg #[hv t, .slice none 0 0, .slice A ns.length c]] w5 _ :=
        same10_any (.mk t [] ns) (.mk t [] ns) A3 c3 K3 k3 none 0 A c w5 hN5 (HW.out w5 B5)
      rw [(Nd.beq_eq (.mk t [] ns) (.mk t [] ns)).2 rfl] at hS
      clear r0 r1 r2 hK
      obtain ⟨q0, q1, q2, _, _, _⟩ := x5.three
      obtain ⟨r0, r1, r2, _, _, _⟩ := y5.three
      go_wp2_with fail
      refine hS.mono ?_
      rintro e w6 ⟨rfl, b6⟩
      go_wp2_with fail
      go_ret
      exact ⟨rfl, B5.trans (b6.mono B5.size)⟩
    · refine Calls.mono (R := RetN w2 none) (by rw [← ho]; exact HP.out w2 B2) ?_
      rintro e w3 ⟨b3, A3, c3, K3, k3, rfl, hN3⟩
      simp only [Option.getD_none, Option.isSome_none] at hN3 ⊢
      have hN3 := hN3.node (B := w3.heap.size) fun b hb => hb.2
      have B3 := B2.trans (b3.mono B2.size)
      have bn := (Below.refl w3.heap.size w3).alloc (Nat.le_refl _) (.cells #[hv zN.t, .slice A3 zN.v.length c3, .slice K3 zN.ks.length k3] 28)
      have x3 := box_new w3 zN A3 c3 K3 k3
      have hN3' := hN3.on bn
      have B3' := B3.trans (bn.mono B3.size)
      unfold ndV
      go_upto_region 4 with fail
      generalize w3.alloc (.cells #[hv zN.t, .slice A3 zN.v.length c3, .slice K3 zN.ks.length k3] 28) = v3 at *
      have bn4 := (Below.refl v3.heap.size v3).alloc (Nat.le_refl _) (.cells #[hv t, .slice none 0 0, .slice A ns.length c] 28)
      have y4 : Whole _ v3.heap.size 28 #[hv t, .slice none 0 0, .slice A ns.length c] := Whole.new v3 28 #[hv t, .slice none 0 0, .slice A ns.length c]
      have x4 := box_below x3 bn4
      have hN4 := hN3'.on bn4
      have B4 := B3'.trans (bn4.mono B3'.size)
      go_upto_region 5 with fail
      generalize v3.alloc (.cells #[hv t, .slice none 0 0, .slice A ns.length c] 28) = v4 at *
      obtain ⟨r0, r1, r2, _, _, _⟩ := y4.three
      have hK : Calls Try.prog 24 #[.int .i64 2, .agg #[hv t, .slice none 0 0, .slice A ns.length c], .int .i64 1] v4 _ := HK.out v4 B4
      generalize chk 4 2 (.mk t [] ns) = z at *
      have hz' : ((z : Int) == 0) = false := by rw [beq_eq_false_iff_ne]; omega
      clear hz
      go_wp2_with fail
      refine hK.mono ?_
      rintro e w5 ⟨rfl, b5⟩
      have B5 := B4.trans (b5.mono B4.size)
      have x5 := box_below x4 b5
      have hN5 := hN4.on b5
      have hS : Calls Try.prog 11 #[.agg #[hv zN.t, .slice A3 zN.v.length c3, .slice K3 zN.ks.length k3], .agg #[.int .u16 0, .slice none 0 0, .slice none 0 0]] w5 _ :=
        same10_any zN zN A3 c3 K3 k3 none 0 none 0 w5 hN5 ⟨Lies.nil, Nat.le_refl _, Nat.zero_le _, Nodes.nil _ _ _, Nat.le_refl _, Nat.zero_le _⟩
      rw [(Nd.beq_eq zN zN).2 rfl] at hS
      clear r0 r1 r2 hK
      have q0 := x5.c0
      have q1 := x5.c1
      have q2 := x5.c2
      go_wp2_with fail
      refine hS.mono ?_
      rintro e w6 ⟨rfl, b6⟩
      go_wp2_with fail
      go_ret
      exact ⟨rfl, B5.trans (b6.mono B5.size)⟩
set_option maxRecDepth 100000 in
theorem law_CauseParams {H : Type} {enc : TypeId × Value → H} {W : World} {base : Nat} {v0 v1 : Value} {d0 d1 : DataW H} {p0 p1 : List MemPlace}
    (o0 : Value.okWide Try.prog W .any base 22 v0) (h0 : DataW.Trod enc Try.prog W 0 (fun _ => true) true 22 v0 d0 p0) (_s0 : Small Try.prog 22 d0)
    (o1 : Value.okWide Try.prog W .any base 26 v1) (h1 : DataW.Trod enc Try.prog W 0 (fun _ => true) true 26 v1 d1 p1) (s1 : Small Try.prog 26 d1) :
    Calls Try.prog 7 #[v0, v1] W fun e w' => e = .returned (.bool true) ∧ Below W.heap.size W w' := by
  obtain ⟨t, rfl, _, _, wt⟩ := open_int Try.underlying22 o0 h0
  obtain ⟨A, c, ns, rfl, hN, hc, hcm, hb⟩ := open_nodes o1 h1 s1
  rw [hv_of' (wf_u16 wt)]
  exact cpr_law (u16of t.toNat) A c ns W hN hc hcm hb
end Go.Proofs.Ytdnilbebdgohnaa

