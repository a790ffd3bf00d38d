/- Layer 10: the laws CauseMatchesReference and CauseParams. They write nothing that was there. -/
import Derived.Test.YtdnilbebdgohnaaCauseGK
import Derived.Test.YtdnilbebdgohnaaCauseCD
import Derived.Test.YtdnilbebdgohnaaNodeUO
import Derived.Test.YtdnilbebdgohnaaNodeRW




namespace Go.Proofs.Ytdnilbebdgohnaa
open Go.ChangeShapes Go.WideShapes Go.ChangeAt Go.RowKit

theorem num_some {t : UInt16} {x : Nat} {m : Nd} (h : numN t x = some m) : m.t ∈ numT ∧ m.v.length = 4 ∧ m.ks = [] := by
  unfold numN at h
  split at h
  · rename_i h3
    cases h
    refine ⟨?_, be_len 4 _, rfl⟩
    rcases h3 with rfl | rfl
    · show (3 : UInt16) ∈ numT; decide
    · show (9 : UInt16) ∈ numT; decide
  · split at h
    · cases h
      exact ⟨by show (1 : UInt16) ∈ numT; decide, rfl, rfl⟩
    · cases h
theorem fine_small {m : Nd} (h1 : m.v.length ≤ 800000) (h2 : m.ks = []) : Fine m := by
  obtain ⟨t, v, ks⟩ := m
  have h2' : ks = [] := h2
  subst h2'
  exact .mk (by rw [vlen_leaf]; exact h1) (Nat.zero_le _) (fun k hk => by cases hk)
theorem okz : okC numT zN = false := by rw [okC_num]; decide
theorem fine_z : Fine zN := fine_small (by decide) rfl
/-- a node in a box -/
theorem box_below {W W2 : World} {g : Nat} {n : Nd} {A : Option Addr} {c : Nat} {K : Option Addr} {k : Nat} (h : NdBox W g n A c K k) (hb : Below W.heap.size W W2) : NdBox W2 g n A c K k := h.below hb
theorem box_new (W : World) (n : Nd) (A : Option Addr) (c : Nat) (K : Option Addr) (k : Nat) : NdBox (W.alloc (.cells #[hv n.t, .slice A n.v.length c, .slice K n.ks.length k] 28)) W.heap.size n A c K k := Whole.new _ _ _
set_option maxRecDepth 100000 in
set_option maxHeartbeats 4000000 in
theorem cmr_law (t : UInt16) (x : Nat) (hx : x < 4294967296) (w : World) :
    Calls Try.prog 3 #[hv t, .int .u32 (x : Int)] w fun e w' => e = .returned (.bool true) ∧ Below w.heap.size w w' := by
  have H1 := Lib.hid (fun W => number10_any t x hx W)
  have H2 := Lib.hid (fun W => rnumber10_any t x hx W)
  cases ho : numN t x with
  | none =>
    rw [ho] at H1 H2
    clear ho
    go_enter Try.func3, Try.ntmps3
    go_wp2_with fail
    refine (awake10_any w).mono ?_
    rintro e w1 ⟨rfl, b1⟩
    go_wp2_with fail
    refine Calls.mono (R := RetN w1 none) (H1.out w1) ?_
    rintro e w2 ⟨b2, A2, c2, K2, k2, rfl, hN2⟩
    simp only [Option.getD_none, Option.isSome_none] at hN2 ⊢
    have hN2 := hN2.node (B := w2.heap.size) fun b hb => hb.2
    have B2 := b1.trans (b2.mono b1.size)
    have bn := (Below.refl w2.heap.size w2).alloc (Nat.le_refl _) (.cells #[hv zN.t, .slice A2 zN.v.length c2, .slice K2 zN.ks.length k2] 28)
    have x2 := box_new w2 zN A2 c2 K2 k2
    have hN2' := hN2.on bn
    have B2' := B2.trans (bn.mono B2.size)
    unfold ndV
    go_upto_region 4 with fail
    generalize w2.alloc (.cells #[hv zN.t, .slice A2 zN.v.length c2, .slice K2 zN.ks.length k2] 28) = v2 at *
    go_wp2_with fail
    refine Calls.mono (R := RetN v2 none) (H2.out v2) ?_
    rintro e w3 ⟨b3, A3, c3, K3, k3, rfl, hN3⟩
    simp only [Option.getD_none, Option.isSome_none] at hN3 ⊢
    have hN3 := hN3.node (B := w3.heap.size) fun b hb => hb.2
    have bn3 := (Below.refl w3.heap.size w3).alloc (Nat.le_refl _) (.cells #[hv zN.t, .slice A3 zN.v.length c3, .slice K3 zN.ks.length k3] 28)
    have y3 := box_new w3 zN A3 c3 K3 k3
    have x3 := box_below (box_below x2 b3) bn3
    have hN2' := (hN2'.on b3).on bn3
    have hN3' := hN3.on bn3
    have B3 := (B2'.trans (b3.mono B2'.size)).trans (bn3.mono (B2'.trans (b3.mono B2'.size)).size)
    unfold ndV
    go_upto_region 5 with fail
    generalize w3.alloc (.cells #[hv zN.t, .slice A3 zN.v.length c3, .slice K3 zN.ks.length k3] 28) = v3 at *
    have s0 := x3.c0
    have s1 := x3.c1
    have s2 := x3.c2
    have r0 := y3.c0
    have r1 := y3.c1
    have r2 := y3.c2
    have hS := same10_any zN zN A2 c2 K2 k2 A3 c3 K3 k3 v3 hN2' hN3'
    rw [(Nd.beq_eq zN zN).2 rfl] at hS
    unfold ndV at hS
    go_wp2_with fail
    refine hS.mono ?_
    rintro e w4 ⟨rfl, b4⟩
    have x4 := box_below x3 b4
    have hN4 := hN2'.on b4
    have B4 := B3.trans (b4.mono B3.size)
    have hR := right10_no zN A2 c2 K2 k2 w4 hN4
    rw [(Nd.beq_eq zN zN).2 rfl] at hR
    unfold ndV at hR
    have q0 := x4.c0
    have q1 := x4.c1
    have q2 := x4.c2
    clear s0 s1 s2 r0 r1 r2 hS
    go_wp2_with fail
    refine hR.mono ?_
    rintro e w5 ⟨rfl, b5⟩
    have x5 := box_below x4 b5
    have hN5 := hN4.on b5
    have B5 := B4.trans (b5.mono B4.size)
    have hV := value10_no zN A2 c2 K2 k2 w5 hN5 fine_z okz
    unfold ndV at hV
    have u0 := x5.c0
    have u1 := x5.c1
    have u2 := x5.c2
    clear q0 q1 q2 hR
    go_wp2_with fail
    refine hV.mono ?_
    rintro e w6 ⟨rfl, b6⟩
    go_wp2_with fail
    go_ret
    exact ⟨rfl, B5.trans (b6.mono B5.size)⟩
  | some m =>
    obtain ⟨g1, g2, g3⟩ := num_some ho
    have hok : okC numT m = true := by rw [okC_num]; exact decide_eq_true ⟨g1, g2, g3⟩
    have hch : chk 4 2 m = 0 := (chk_num m g1).2 ⟨g2, g3⟩
    have hf : Fine m := fine_small (by omega) g3
    have hv' : valO m = some x := by
      have := val_num t x hx
      rw [ho] at this
      simpa using this
    have HV := Lib.hid (fun A c K k W (hN : Node W W.heap.size A c K k m) => value10_yes m A c K k W hN hf hok g2)
    have HR := Lib.hid (fun A c K k W (hN : Node W W.heap.size A c K k m) => right10_yes m A c K k W hN hf)
    rw [hv'] at HV
    rw [hch] at HR
    rw [ho] at H1 H2
    clear ho g1 g2 g3 hok hch hf hv'
    go_enter Try.func3, Try.ntmps3
    go_wp2_with fail
    refine (awake10_any w).mono ?_
    rintro e w1 ⟨rfl, b1⟩
    go_wp2_with fail
    refine Calls.mono (R := RetN w1 (some m)) (H1.out w1) ?_
    rintro e w2 ⟨b2, A2, c2, K2, k2, rfl, hN2⟩
    simp only [Option.getD_some, Option.isSome_some] at hN2 ⊢
    have hN2 := hN2.node (B := w2.heap.size) fun b hb => hb.2
    have B2 := b1.trans (b2.mono b1.size)
    have bn := (Below.refl w2.heap.size w2).alloc (Nat.le_refl _) (.cells #[hv m.t, .slice A2 m.v.length c2, .slice K2 m.ks.length k2] 28)
    have x2 := box_new w2 m A2 c2 K2 k2
    have hN2' := hN2.on bn
    have B2' := B2.trans (bn.mono B2.size)
    unfold ndV
    go_upto_region 4 with fail
    generalize w2.alloc (.cells #[hv m.t, .slice A2 m.v.length c2, .slice K2 m.ks.length k2] 28) = v2 at *
    go_wp2_with fail
    refine Calls.mono (R := RetN v2 (some m)) (H2.out v2) ?_
    rintro e w3 ⟨b3, A3, c3, K3, k3, rfl, hN3⟩
    simp only [Option.getD_some, Option.isSome_some] at hN3 ⊢
    have hN3 := hN3.node (B := w3.heap.size) fun b hb => hb.2
    have bn3 := (Below.refl w3.heap.size w3).alloc (Nat.le_refl _) (.cells #[hv m.t, .slice A3 m.v.length c3, .slice K3 m.ks.length k3] 28)
    have y3 := box_new w3 m A3 c3 K3 k3
    have x3 := box_below (box_below x2 b3) bn3
    have hN2' := (hN2'.on b3).on bn3
    have hN3' := hN3.on bn3
    have B3 := (B2'.trans (b3.mono B2'.size)).trans (bn3.mono (B2'.trans (b3.mono B2'.size)).size)
    unfold ndV
    go_upto_region 5 with fail
    generalize w3.alloc (.cells #[hv m.t, .slice A3 m.v.length c3, .slice K3 m.ks.length k3] 28) = v3 at *
    have s0 := x3.c0
    have s1 := x3.c1
    have s2 := x3.c2
    have r0 := y3.c0
    have r1 := y3.c1
    have r2 := y3.c2
    have hS := same10_any m m A2 c2 K2 k2 A3 c3 K3 k3 v3 hN2' hN3'
    rw [(Nd.beq_eq m m).2 rfl] at hS
    unfold ndV at hS
    go_wp2_with fail
    refine hS.mono ?_
    rintro e w4 ⟨rfl, b4⟩
    have x4 := box_below x3 b4
    have hN4 := hN2'.on b4
    have B4 := B3.trans (b4.mono B3.size)
    have hR := HR.out A2 c2 K2 k2 w4 hN4
    unfold ndV at hR
    have q0 := x4.c0
    have q1 := x4.c1
    have q2 := x4.c2
    clear s0 s1 s2 r0 r1 r2 hS
    go_wp2_with fail
    refine hR.mono ?_
    rintro e w5 ⟨rfl, b5⟩
    have x5 := box_below x4 b5
    have hN5 := hN4.on b5
    have B5 := B4.trans (b5.mono B4.size)
    have hV := HV.out A2 c2 K2 k2 w5 hN5
    unfold ndV at hV
    simp only [Option.getD_some, Option.isSome_some] at hV
    have u0 := x5.c0
    have u1 := x5.c1
    have u2 := x5.c2
    clear q0 q1 q2 hR
    go_wp2_with fail
    refine hV.mono ?_
    rintro e w6 ⟨rfl, b6⟩
    go_wp2_with fail
    go_ret
    exact ⟨rfl, B5.trans (b6.mono B5.size)⟩
set_option maxRecDepth 100000 in
theorem law_CauseMatchesReference {H : Type} {enc : TypeId × Value → H} {W : World} {base : Nat} {v0 v1 : Value} {d0 d1 : DataW H} {p0 p1 : List MemPlace}
    (o0 : Value.okWide Try.prog W .any base 22 v0) (h0 : DataW.Trod enc Try.prog W 0 (fun _ => true) true 22 v0 d0 p0) (_s0 : Small Try.prog 22 d0)
    (o1 : Value.okWide Try.prog W .any base 23 v1) (h1 : DataW.Trod enc Try.prog W 0 (fun _ => true) true 23 v1 d1 p1) (_s1 : Small Try.prog 23 d1) :
    Calls Try.prog 3 #[v0, v1] W fun e w' => e = .returned (.bool true) ∧ Below W.heap.size W w' := by
  obtain ⟨t, rfl, _, _, wt⟩ := open_int Try.underlying22 o0 h0
  obtain ⟨x, rfl, _, _, wx⟩ := open_int Try.underlying23 o1 h1
  rw [hv_of' (wf_u16 wt)]
  obtain ⟨h2, h3⟩ := wf_u32 wx
  obtain ⟨y, rfl⟩ : ∃ y : Nat, x = y := ⟨x.toNat, by omega⟩
  exact cmr_law (u16of t.toNat) y (by omega) W
end Go.Proofs.Ytdnilbebdgohnaa

