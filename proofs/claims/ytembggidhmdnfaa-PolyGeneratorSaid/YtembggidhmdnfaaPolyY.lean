/- Layer 4, the law PolyGenerator: the walk. -/
import Derived.Test.YtembggidhmdnfaaPolyX
namespace Go.Proofs.Ytembggidhmdnfaa
open Go.RowKit Go.ChangeShapes Go.WideShapes Go.ChangeAt

theorem gen_rl : rl genL = 33 := by rw [gen_can.rl, gen_len]
theorem gen_mod {f : Nat → Bool} {A A' : Option Addr} {n c c' : Nat} {L : List UInt8} {w : World} (h1 : Holds w f A n c L) (hg : Lies w w.heap.size A' (genL.map bv)) (hn : n ≤ 10000) :
    Calls Try.prog 9 #[.slice A n c, .slice A' 33 c'] w fun e w' => ∃ R A n c L, e = .returned (.tuple #[.slice A n c, .bool true]) ∧
      Rem f (co genL) 32 R ∧ Holds w' R A n c L ∧ Below w.heap.size w w' := by
  have h := mod_holds (c' := c') (d := 32) h1 hg hn (by rw [gen_len]; omega) gen_rl
  rw [gen_len] at h
  exact h
theorem gen_mul {A A' : Option Addr} {c c' : Nat} {a : List UInt8} {w : World} (hg : Lies w w.heap.size A (genL.map bv)) (ha : Lies w w.heap.size A' (a.map bv)) (hn : a.length ≤ 10000) :
    Calls Try.prog 14 #[.slice A 33 c, .slice A' a.length c'] w fun e w' => ∃ A n c L, e = .returned (.slice A n c) ∧ Holds w' (cv (co genL) (co a)) A n c L ∧ Below w.heap.size w w' := by
  have h := mul_any A A' c c' genL a w hg ha (by rw [gen_len]; omega) hn
  rw [gen_len] at h
  exact h
theorem gen_top : co genL 32 = true := rl_at gen_rl
theorem gen_above (i : Nat) (hi : 32 < i) : co genL i = false := rl_above (by rw [gen_rl]; omega)
theorem gen_low : co genL 0 = true := by decide
theorem x_shift (k i : Nat) : shl (co [1]) k i = decide (i = k) := by
  unfold shl
  by_cases h : k ≤ i
  · by_cases e : i = k
    · rw [e, Nat.sub_self]; simp; rfl
    · rw [co_out (by simp; omega), decide_eq_false e, Bool.and_false]
  · rw [decide_eq_false h, decide_eq_false (by omega)]; rfl
theorem aw_shift (w : World) (k : Nat) (hk : k ≤ 10000) :
    Calls Try.prog 19 #[.slice (some ⟨w.heap.size, 0, none⟩) 1 1, .int .i64 (k : Int)] (w.alloc (.cells #[.int .u8 1] 5)) fun e w' => ∃ A n c L, e = .returned (.slice A n c) ∧
      Holds w' (fun i => decide (i = k)) A n c L ∧ Below w.heap.size w w' := by
  have h0 := shift_holds (lit_holds w [1] (by decide)) k (by decide) hk
  refine h0.mono ?_
  rintro e w' ⟨A', n', c', L, rfl, h2, h3⟩
  exact ⟨A', n', c', L, rfl, h2.congr (x_shift k), (below_wal _ _ _).trans (h3.mono (by simp [wal]))⟩
theorem set_len (l : List UInt8) (k : Nat) (x : UInt8) (h : l.length = 33) : (l.set k x).length = 33 := by rw [List.length_set, h]

set_option maxHeartbeats 4000000 in
theorem polygen_any (A : Option Addr) (c : Nat) (a : List UInt8) (k : Nat) (w : World) (ha : Lies w w.heap.size A (a.map bv)) (hla : a.length ≤ 200) (hk : k < 256) :
    Calls Try.prog 7 #[.slice A a.length c, .int .u8 (k : Int)] w fun e w' => e = .returned (.bool true) ∧ Below w.heap.size w w' := by
  go_enter Try.func7, Try.ntmps7
  go_wp2_with fail
  refine (awake_any w).mono ?_
  rintro e w1 ⟨rfl, b1⟩
  have ha1 := (ha.below b1).more b1.size
  clear ha
  go_wp2_with fail
  refine (generator_any w1).mono ?_
  rintro e w2 ⟨rfl, hrow, b12⟩
  have H0 : Hid (genL.length = 33) := gen_len
  go_wp2_with fail
  go_loopw [6] (fun i wr => ∃ (q : Nat) (l : List UInt8), q ≤ 33 ∧ i = .int .i64 q ∧ Hid (l.length = 33) ∧ Row wr w1.heap.size l ∧ Below w1.heap.size w1 wr) (fun i _ => 33 - (intOf i).toNat)
  case atStart => exact ⟨0, genL, Nat.zero_le _, rfl, H0, hrow, b12⟩
  case round =>
    obtain ⟨q, l, hq, rfl, hl, hrq, hbq⟩ := hrel
    clear hrow
    by_cases hlt : q < 33
    · obtain ⟨x, hx⟩ : ∃ x, l[q]? = some x := ⟨_, List.getElem?_eq_getElem (by rw [hl.out]; exact hlt)⟩
      have hc2 := hrq.byte hx
      have hf2 := Whole.frozen hrq q
      have HS := Lib.hid (hrq.store q 0)
      have HL : Hid ((l.set q 0).length = 33) := set_len l q 0 hl.out
      have HB := Lib.hid (hbq.setCell (p := ⟨w1.heap.size, q, none⟩) (Nat.le_refl _) (.int .u8 (((0 : UInt8).toNat : Nat) : Int)))
      have hq3 : (q : Int) < 33 := by omega
      clear hrq hx
      go_wp2_with fail
      go_roundw
      case rel => exact ⟨q + 1, l.set q 0, by omega, by go_num, HL, HS.out, HB.out⟩
      case measure => simp [intOf]; omega
    · have ha2 := (ha1.below hbq).more hbq.size
      have bel2 := b1.trans (hbq.mono b1.size)
      clear hrq hbq ha1 b1 b12 hl
      go_wp2_with fail
      refine (generator_any wr).mono ?_
      rintro e w3 ⟨rfl, hrow3, b23⟩
      have ha3 := (ha2.below b23).more b23.size
      have hg3 := hrow3.lies hrow3.lt
      have bel3 := bel2.trans (b23.mono bel2.size)
      clear ha2 hrow3 b23 bel2
      go_wp2_with fail
      refine (gen_mul hg3 ha3 (by omega)).mono ?_
      rintro e w4 ⟨A4, n4, c4, L4, rfl, h4, b34⟩
      have ha4 := (ha3.below b34).more b34.size
      have hg4 := (hg3.below b34).more b34.size
      have bel4 := bel3.trans (b34.mono bel3.size)
      have hn4 : n4 ≤ 400 := h4.small fun i hi => cv_above (m := 33) (n := 200) (fun i h => gen_above i (by omega)) (fun _ h => co_out (by omega)) (by omega)
      clear ha3 hg3 b34 bel3
      go_wp2_with fail
      refine (gen_mod h4 hg4 (by omega)).mono ?_
      rintro e w5 ⟨R, A5, n5, c5, L5, rfl, hR, h5, b45⟩
      have hn5 : n5 = 0 := by
        have h := h5.small (N := 0) fun i _ => hR.uniq (s := fun _ => false) gen_top gen_above ⟨Quo.mul (co_ends a) (co genL), fun _ _ => rfl⟩ i
        omega
      subst hn5
      have hg5 := (hg4.below b45).more b45.size
      have bel5 := bel4.trans (b45.mono bel4.size)
      clear ha4 hg4 b45 bel4 hn4 h4 hR h5
      go_wp2_with fail
      refine (aw_shift w5 k (by omega)).mono ?_
      rintro e w6 ⟨A6, n6, c6, L6, rfl, h6, b56⟩
      have hg6 := (hg5.below b56).more b56.size
      have bel6 := bel5.trans (b56.mono bel5.size)
      have hn6 : n6 ≤ 256 := h6.small fun i hi => decide_eq_false (by omega)
      clear hg5 b56 bel5
      go_wp2_with fail
      refine (gen_mod h6 hg6 (by omega)).mono ?_
      rintro e w7 ⟨X, A7, n7, c7, L7, rfl, hX, h7, b67⟩
      have hn7 : 0 < n7 := by
        obtain ⟨i, hi⟩ := hX.power gen_top gen_above gen_low (by omega)
        rcases Nat.eq_zero_or_pos n7 with h0 | h0
        · have := h7.can.zero (by rw [h7.len]; exact h0) i
          rw [hi] at this
          cases this
        · exact h0
      have hg7 := (hg6.below b67).more b67.size
      have bel7 := bel6.trans (b67.mono bel6.size)
      clear hg6 b67 bel6 hn6 h6 hX h7
      go_wp2_with fail
      refine (rgenerator_any w7).mono ?_
      rintro e w8 ⟨A8, n8, c8, L8, rfl, h8, b78⟩
      have hg8 : Holds w8 (co genL) (some ⟨wr.heap.size, 0, none⟩) 33 33 genL := ⟨gen_len, Nat.le_refl _, gen_can, (hg7.below b78).more b78.size⟩
      have bel8 := bel7.trans (b78.mono bel7.size)
      clear hg7 b78 bel7
      go_wp2_with fail
      refine (same_holds hg8 h8 (fun _ => rfl) (by omega)).mono ?_
      rintro e w9 ⟨rfl, b89⟩
      have bel9 := bel8.trans (b89.mono bel8.size)
      clear hg8 h8 b89 bel8
      go_wp2_with fail
      go_ret
      exact ⟨rfl, bel9⟩
theorem polygen_long (A : Option Addr) (c : Nat) (a : List UInt8) (k : Nat) (w : World) (h1 : 200 < (a.length : Int)) :
    Calls Try.prog 7 #[.slice A a.length c, .int .u8 (k : Int)] w fun e w' => e = .returned (.bool true) ∧ Below w.heap.size w w' := by
  go_enter Try.func7, Try.ntmps7
  go_wp2_with fail
  refine (awake_any w).mono ?_
  rintro e w1 ⟨rfl, b1⟩
  go_wp2_with fail
  refine (awake_any w1).mono ?_
  rintro e w2 ⟨rfl, b2⟩
  go_wp2_with fail
  go_ret
  exact ⟨rfl, b1.trans (b2.mono b1.size)⟩

theorem open_u8 {H : Type} {enc : TypeId × Value → H} {W : World} {base : Nat} {v0 : Value} {d0 : DataW H} {p0 : List MemPlace}
    (o0 : Value.okWide Try.prog W .any base 5 v0) (h0 : DataW.Trod enc Try.prog W 0 (fun _ => true) true 5 v0 d0 p0) : ∃ n : Nat, v0 = .int .u8 (n : Int) ∧ n < 256 := by
  obtain ⟨k, rfl, _, _, wk⟩ := open_int Try.underlying5 o0 h0
  have hw := wf_u8 wk
  exact ⟨k.toNat, by congr 1; omega, by omega⟩
theorem law_PolyGenerator {H : Type} {enc : TypeId × Value → H} {W : World} {base : Nat} {v0 v1 : Value} {d0 d1 : DataW H} {p0 p1 : List MemPlace}
    (o0 : Value.okWide Try.prog W .any base 22 v0) (h0 : DataW.Trod enc Try.prog W 0 (fun _ => true) true 22 v0 d0 p0) (_s0 : Small Try.prog 22 d0)
    (o1 : Value.okWide Try.prog W .any base 5 v1) (h1 : DataW.Trod enc Try.prog W 0 (fun _ => true) true 5 v1 d1 p1) (_s1 : Small Try.prog 5 d1) :
    Calls Try.prog 7 #[v0, v1] W fun e w' => e = .returned (.bool true) ∧ Below W.heap.size W w' := by
  obtain ⟨A, n, c, rfl⟩ := okWide_slice Try.underlying22 o0
  obtain ⟨fuel, hf⟩ := h0
  obtain ⟨a, rfl, hl, hc, hcm⟩ := open_bytes Try.underlying22 Try.underlying5 (by kernel_rfl) hf
  obtain ⟨k, rfl, hk⟩ := open_u8 o1 h1
  by_cases hlong : a.length ≤ 200
  · exact polygen_any A c a k W hl hlong hk
  · exact polygen_long A c a k W (by omega)
end Go.Proofs.Ytembggidhmdnfaa
