/- Layer 4, the law PolyShifts: the walk. -/
import Derived.Test.YtembggidhmdnfaaPolyV
namespace Go.Proofs.Ytembggidhmdnfaa
open Go.RowKit Go.ChangeShapes Go.WideShapes Go.ChangeAt

theorem lsame_eq {A A' : Option Addr} {n n' c c' : Nat} {L M : List UInt8} {w : World} (ha : Lies w w.heap.size A (L.map bv)) (hb : Lies w w.heap.size A' (M.map bv)) (h1 : L.length = n) (h2 : M.length = n') (he : L = M) (hn : n ≤ 10000) :
    Calls Try.prog 11 #[.slice A n c, .slice A' n' c'] w fun e w' => e = .returned (.bool true) ∧ Below w.heap.size w w' := by
  subst he h1 h2
  exact lsame_self A A' c c' L w ha hb hn
theorem ones_all (n : Nat) (w : World) (hn : n ≤ 10000) :
    Calls Try.prog 20 #[.int .i64 (n : Int)] w fun e w' => ∃ A n' c', e = .returned (.slice A n' c') ∧ n' = n ∧ Lies w' w'.heap.size A ((List.replicate n 1).map bv) ∧ Below w.heap.size w w' := by
  rcases Nat.eq_zero_or_pos n with h0 | h0
  · subst h0
    refine (ones_neg ((0 : Nat) : Int) w (by omega)).mono ?_
    rintro e w' ⟨rfl, rfl⟩
    exact ⟨_, _, _, rfl, rfl, Lies.nil, Below.refl _ _⟩
  · refine (ones_any n w hn h0).mono ?_
    rintro e w' ⟨rfl, h1, h2⟩
    exact ⟨_, _, _, rfl, rfl, h1.lies h1.lt, h2⟩
theorem power_co (n i : Nat) : co (bits8 (fun _ => false) n ++ [1]) i = decide (i = n) := by
  rw [co_append, bits8_len]
  by_cases h : i < n
  · rw [if_pos h, co_bits8, decide_eq_false (show ¬ i = n by omega)]; simp
  · rw [if_neg h]
    by_cases e : i = n
    · rw [e, Nat.sub_self]; simp; rfl
    · rw [co_out (by simp; omega), decide_eq_false e]

set_option maxHeartbeats 2000000 in
theorem polyshifts_any (A : Option Addr) (c : Nat) (a : List UInt8) (n : Nat) (w : World) (ha : Lies w w.heap.size A (a.map bv)) (hla : a.length ≤ 200) (hn : n ≤ 500) :
    Calls Try.prog 5 #[.slice A a.length c, .int .i64 (n : Int)] w fun e w' => e = .returned (.bool true) ∧ Below w.heap.size w w' := by
  have HP : Hid ((bits8 (fun _ => false) n).map bv ++ [Value.int .u8 1] = (bits8 (fun _ => false) n ++ [1]).map bv) := by rw [Hid, List.map_append]; rfl
  have HPl : Hid ((bits8 (fun _ => false) n ++ [(1 : UInt8)]).length = n + 1) := by rw [Hid, List.length_append, bits8_len]; rfl
  have HC : Hid (∀ i, shl (co a) n i = cv (co a) (co (bits8 (fun _ => false) n ++ [1])) i) := fun i => by
    rw [cv_comm, cv_congr (f := co (bits8 (fun _ => false) n ++ [1])) (power_co n) (fun _ => rfl), cv_mono]
    rfl
  have HS0 : Hid (∀ i, 800 ≤ i → shl (co a) n i = false) := fun i hi => by unfold shl; rw [co_out (by omega), Bool.and_false]
  have HE : Hid (bits8 (fun i => decide (i < n)) n = List.replicate n 1) := by
    refine List.ext_getElem? fun i => ?_
    by_cases hi : i < n
    · rw [bits8_at _ hi, decide_eq_true (by omega)]; simp [hi, b8]
    · rw [List.getElem?_eq_none (by rw [bits8_len]; omega), List.getElem?_eq_none (by simp; omega)]
  have hzl : ((bits8 (fun _ => false) n).map bv).length = n := by rw [List.length_map, bits8_len]
  go_enter Try.func5, Try.ntmps5
  go_wp2_with fail
  refine (awake_any w).mono ?_
  rintro e w1 ⟨rfl, b1⟩
  have ha1 := (ha.below b1).more b1.size
  clear ha
  go_upto_region 7 with (first
    | (at_make; refine wpList_make_zeros _ rfl (.tmp 36) (.tmp 36) 24 rfl Try.underlying24 _ n rfl rfl rfl (by omega) ?_; intro w2 hrow b12; have hsz := b12.size; have hown := whole_own (e := 5) (base := w1.heap.size) hrow (Nat.le_refl _) hzl (show n ≤ maxLen by unfold maxLen; omega))
    | (at_builtin; refine wpList_append_lies _ rfl (.tmp 37) (.tmp 38) 24 rfl w1.heap.size 5 _ 1 Try.underlying24 u8info rfl _ _ _ rfl (hown.alloc _) _ _ 1 1 _ rfl rfl (Lies.new1 _ _ _) (by intro u hu; rw [List.mem_singleton.1 hu]; rfl) (by omega) (by unfold maxLen; omega) (by simp; omega) ?_; intro A3 c3 w3 hown3 hgrow3 _))
  have b13 : Below w1.heap.size w1 w3 := below_own (b12.alloc b12.size _) (hown.alloc _) hgrow3 (Nat.le_refl _) (by simp; omega)
  have hx3 := Lies.own hown3
  rw [HP.out] at hx3
  have ha3 := (ha1.below b13).more b13.size
  have bel3 := b1.trans (b13.mono b1.size)
  clear hgrow3 hown3 hown hrow b12 hsz b13 ha1 b1
  go_wp2_with fail
  refine (ones_all n w3 (by omega)).mono ?_
  rintro e w4 ⟨A4, n4, c4, rfl, hn4, h4, b34⟩
  have ha4 := (ha3.below b34).more b34.size
  have hx4 := (hx3.below b34).more b34.size
  have bel4 := bel3.trans (b34.mono bel3.size)
  have HN4 := Lib.hid hn4
  clear ha3 hx3 b34 bel3 hn4
  go_wp2_with (at_make; refine wpList_make_zeros _ rfl (.tmp 42) (.tmp 42) 22 rfl Try.underlying22 _ n rfl rfl rfl (by omega) ?_; intro w5 hrow b45)
  go_loopw [9] (fun i wr => ∃ k : Nat, k ≤ n ∧ i = .int .i64 k ∧ Row wr w4.heap.size (bits8 (fun i => decide (i < k)) n) ∧ Below w4.heap.size w4 wr) (fun i _ => n - (intOf i).toNat)
  case atStart => exact ⟨0, Nat.zero_le _, rfl, by simpa using hrow, b45⟩
  case round =>
    obtain ⟨k, hk, rfl, hrk, hbk⟩ := hrel
    clear hrow
    by_cases hlt : k < n
    · have hc2 := hrk.byte (bits8_at _ hlt)
      have hf2 := Whole.frozen hrk k
      have HS := Lib.hid (hrk.store k 1)
      rw [ones_step] at HS
      have HB := Lib.hid (hbk.setCell (p := ⟨w4.heap.size, k, none⟩) (Nat.le_refl _) (.int .u8 (((1 : UInt8).toNat : Nat) : Int)))
      clear hrk
      go_wp2
      go_roundw
      case rel => exact ⟨k + 1, by omega, by go_num, HS.out, HB.out⟩
      case measure => simp [intOf]; omega
    · have hkn : k = n := by omega
      have H0 : Hid (Lies wr wr.heap.size (some ⟨w4.heap.size, 0, none⟩) ((List.replicate n 1).map bv)) := by
        have := hrk.lies hrk.lt
        rw [hkn, HE.out] at this
        exact this
      have ha5 := (ha4.below hbk).more hbk.size
      have hx5 := (hx4.below hbk).more hbk.size
      have h5 := Lib.hid ((h4.below hbk).more hbk.size)
      have bel5 := bel4.trans (hbk.mono bel4.size)
      clear hrk hkn hbk ha4 hx4 h4 bel4 b45
      generalize bits8 (fun _ => false) n ++ [(1 : UInt8)] = X at *
      go_wp2_with fail
      refine (shift_all A c a n wr ha5 (by omega) (by omega)).mono ?_
      rintro e w6 ⟨A6, n6, c6, L6, rfl, h6, b56⟩
      have ha6 := (ha5.below b56).more b56.size
      have hx6 := (hx5.below b56).more b56.size
      have h6o := Lib.hid ((h5.out.below b56).more b56.size)
      have h6a := Lib.hid ((H0.out.below b56).more b56.size)
      have bel6 := bel5.trans (b56.mono bel5.size)
      have hn6 := h6.small HS0.out
      clear ha5 hx5 h5 H0 b56 bel5
      go_wp2_with fail
      refine (rshift_any A c a n w6 ha6 (by omega) (by omega)).mono ?_
      rintro e w7 ⟨A7, n7, c7, L7, rfl, h7, b67⟩
      have ha7 := (ha6.below b67).more b67.size
      have hx7 := (hx6.below b67).more b67.size
      have h7o := Lib.hid ((h6o.out.below b67).more b67.size)
      have h7a := Lib.hid ((h6a.out.below b67).more b67.size)
      have bel7 := bel6.trans (b67.mono bel6.size)
      have h67 := h6.below b67
      clear ha6 hx6 h6o h6a b67 bel6 h6
      go_wp2_with fail
      refine (same_holds h67 h7 (fun _ => rfl) (by omega)).mono ?_
      rintro e w8 ⟨rfl, b78⟩
      have ha8 := (ha7.below b78).more b78.size
      have hx8 := (hx7.below b78).more b78.size
      have h8o := Lib.hid ((h7o.out.below b78).more b78.size)
      have h8a := Lib.hid ((h7a.out.below b78).more b78.size)
      have bel8 := bel7.trans (b78.mono bel7.size)
      clear ha7 hx7 h7o h7a b78 bel7 h67 h7 hn6
      go_wp2_with fail
      refine (shift_all A c a n w8 ha8 (by omega) (by omega)).mono ?_
      rintro e w9 ⟨A9, n9, c9, L9, rfl, h9, b89⟩
      have ha9 := (ha8.below b89).more b89.size
      have hx9 := (hx8.below b89).more b89.size
      have h9o := Lib.hid ((h8o.out.below b89).more b89.size)
      have h9a := Lib.hid ((h8a.out.below b89).more b89.size)
      have bel9 := bel8.trans (b89.mono bel8.size)
      have hn9 := h9.small HS0.out
      clear ha8 hx8 h8o h8a b89 bel8
      have hM := mul_any A A3 c c3 a X w9 ha9 hx9 (by omega) (by rw [HPl.out]; omega)
      rw [HPl.out] at hM
      go_wp2_with fail
      refine hM.mono ?_
      rintro e w10 ⟨A10, n10, c10, L10, rfl, h10, b910⟩
      have h10o := Lib.hid ((h9o.out.below b910).more b910.size)
      have h10a := Lib.hid ((h9a.out.below b910).more b910.size)
      have bel10 := bel9.trans (b910.mono bel9.size)
      have h910 := h9.below b910
      clear ha9 hx9 h9o h9a b910 bel9 hM h9
      go_wp2_with fail
      refine (same_holds h910 h10 HC.out (by omega)).mono ?_
      rintro e w11 ⟨rfl, b1011⟩
      have h11o := Lib.hid ((h10o.out.below b1011).more b1011.size)
      have h11a := Lib.hid ((h10a.out.below b1011).more b1011.size)
      have bel11 := bel10.trans (b1011.mono bel10.size)
      clear h10o h10a b1011 bel10 h910 h10 hn9
      have hlen : n4 ≤ 10000 := by rw [HN4.out]; omega
      go_wp2_with fail
      refine (lsame_eq h11o.out h11a.out (by rw [List.length_replicate, HN4.out]) (List.length_replicate ..) rfl hlen).mono ?_
      rintro e w12 ⟨rfl, b1112⟩
      have bel12 := bel11.trans (b1112.mono bel11.size)
      clear h11o h11a b1112 bel11
      go_wp2_with fail
      go_ret
      exact ⟨rfl, bel12⟩

theorem polyshifts_neg (A : Option Addr) (c : Nat) (a : List UInt8) (n : Int) (w : World) (hla : (a.length : Int) ≤ 200) (hn : n < 0) :
    Calls Try.prog 5 #[.slice A a.length c, .int .i64 n] w fun e w' => e = .returned (.bool true) ∧ Below w.heap.size w w' := by
  have hn5 : n ≤ 500 := by omega
  go_enter Try.func5, Try.ntmps5
  go_wp2_with fail
  refine (awake_any w).mono ?_
  rintro e w1 ⟨rfl, b1⟩
  go_wp2_with fail
  refine (shift_neg A c a n w1 hn).mono ?_
  rintro e w2 ⟨rfl, rfl⟩
  go_wp2_with fail
  refine (ones_neg n w1 (by omega)).mono ?_
  rintro e w2 ⟨rfl, rfl⟩
  go_wp2_with fail
  go_ret
  exact ⟨rfl, b1⟩
theorem polyshifts_long (A : Option Addr) (c : Nat) (a : List UInt8) (n : Int) (w : World) (h : 200 < (a.length : Int) ∨ ((a.length : Int) ≤ 200 ∧ 500 < n)) :
    Calls Try.prog 5 #[.slice A a.length c, .int .i64 n] w fun e w' => e = .returned (.bool true) ∧ Below w.heap.size w w' := by
  rcases h with h1 | ⟨h1, h2⟩
  all_goals
    go_enter Try.func5, Try.ntmps5
    go_wp2_with fail
    refine (awake_any w).mono ?_
    rintro e w1 ⟨rfl, b1⟩
    go_wp2_with fail
    refine (awake_any w1).mono ?_
    rintro e w2 ⟨rfl, b2⟩
    go_wp2_with fail
    go_ret
    exact ⟨rfl, b1.trans (b2.mono b1.size)⟩

theorem law_PolyShifts {H : Type} {enc : TypeId × Value → H} {W : World} {base : Nat} {v0 v1 : Value} {d0 d1 : DataW H} {p0 p1 : List MemPlace}
    (o0 : Value.okWide Try.prog W .any base 22 v0) (h0 : DataW.Trod enc Try.prog W 0 (fun _ => true) true 22 v0 d0 p0) (_s0 : Small Try.prog 22 d0)
    (o1 : Value.okWide Try.prog W .any base 3 v1) (h1 : DataW.Trod enc Try.prog W 0 (fun _ => true) true 3 v1 d1 p1) (_s1 : Small Try.prog 3 d1) :
    Calls Try.prog 5 #[v0, v1] W fun e w' => e = .returned (.bool true) ∧ Below W.heap.size W w' := by
  obtain ⟨A, n, c, rfl⟩ := okWide_slice Try.underlying22 o0
  obtain ⟨fuel, hf⟩ := h0
  obtain ⟨a, rfl, hl, hc, hcm⟩ := open_bytes Try.underlying22 Try.underlying5 (by kernel_rfl) hf
  obtain ⟨k, rfl, _, _, wk⟩ := open_int Try.underlying3 o1 h1
  by_cases hlong : 200 < (a.length : Int) ∨ ((a.length : Int) ≤ 200 ∧ 500 < k)
  · exact polyshifts_long A c a k W hlong
  · by_cases hk : k < 0
    · exact polyshifts_neg A c a k W (by omega) hk
    · obtain ⟨m, rfl⟩ : ∃ m : Nat, k = (m : Int) := ⟨k.toNat, by omega⟩
      exact polyshifts_any A c a m W hl (by omega) (by omega)
end Go.Proofs.Ytembggidhmdnfaa
