/- Layer 8: the law NodeDepths. -/
import Derived.Test.YtofpckmanihknaaDoorNodeY
import Derived.Deep.Cut
namespace Go.Proofs.YtofpckmanihknaaDoor
open Go.ChangeShapes Go.WideShapes Go.ChangeAt Go.RowKit

section
variable {w : World} {B k q : Nat} {T : UInt16} {K : Option Addr}
theorem TwBox.c0 {n : Nd} (h : TwBox w B n K k) : w.cell? ⟨B, 0, none⟩ = some (hv n.t) := by rw [h.1.cell]; rfl
theorem TwBox.c1 {n : Nd} (h : TwBox w B n K k) : w.cell? ⟨B, 1, none⟩ = some (.slice none 0 0) := by rw [h.1.cell]; rfl
theorem TwBox.c2 {n : Nd} (h : TwBox w B n K k) : w.cell? ⟨B, 2, none⟩ = some (.slice K n.ks.length k) := by rw [h.1.cell]; rfl
theorem TwBox.node (h : TwBox w B (tw T q) K k) : Node w w.heap.size none 0 K k (tw T q) := h.2.node fun _ hb => hb.2
theorem TwBox.below {w' : World} {n : Nd} (h : TwBox w B n K k) (hb : Below w.heap.size w w') : TwBox w' B n K k :=
  ⟨h.1.below hb h.1.lt, h.2.turn (fun _ hp => hb.cell hp.2) fun _ hp => ⟨hp.1, Nat.lt_of_lt_of_le hp.2 hb.size⟩⟩
/-- the list with the tower alone, in a new block -/
theorem TwBox.list (h : TwBox w B (tw T q) K k) : Nodes (w.alloc (.cells #[hv (tw T q).t, .slice none 0 0, .slice K (tw T q).ks.length k] 27)) (w.heap.size + 1) (some ⟨w.heap.size, 0, none⟩) [tw T q] := by
  have h1 := h.node.list1 27
  rw [tw_v] at h1
  exact h1
theorem tw_enc (hl : look (tab 1) T = none) (hq : q ≤ 100) (h : TwBox w B (tw T q) K k) :
    Calls Tryd.prog 10 #[.int .i64 1, .slice (some ⟨w.heap.size, 0, none⟩) 1 1] (w.alloc (.cells #[hv (tw T q).t, .slice none 0 0, .slice K (tw T q).ks.length k] 27)) fun e w' => Below w.heap.size w w' ∧
      ((q < 4 ∧ ∃ A' c', e = .returned (.tuple #[.slice A' (4 * q + 4) c', .nilIface])) ∨ (¬ q < 4 ∧ e = .returned (.tuple #[.slice none 0 0, codeV 9]))) := by
  have hb : Below w.heap.size w (w.alloc (.cells #[hv (tw T q).t, .slice none 0 0, .slice K (tw T q).ks.length k] 27)) := (Below.refl _ w).alloc (Nat.le_refl _) _
  have h1 := encode_any 1 (some ⟨w.heap.size, 0, none⟩) 1 [tw T q] _ (h.list.more (by simp)) (by simp) (by intro n hn; rw [List.mem_singleton.1 hn]; exact tw_fine T q hq)
  refine Calls.mono (R := EncR (w.alloc (.cells #[hv (tw T q).t, .slice none 0 0, .slice K (tw T q).ks.length k] 27)) 1 [tw T q]) h1 ?_
  have hc : chkL 1 [tw T q] = if q < 4 then 0 else 9 := by rw [chkL_one, chk_tw hl q 4 hq]
  rintro e w1 ⟨b1, h2⟩
  refine ⟨hb.trans (b1.mono (by simp)), ?_⟩
  rcases h2 with ⟨h2, rfl⟩ | ⟨h2, A1, c1, rfl, own1⟩
  · by_cases h4 : q < 4
    · rw [hc, if_pos h4] at h2
      exact absurd rfl h2
    · refine .inr ⟨h4, ?_⟩
      rw [hc, if_neg h4]
      rfl
  · by_cases h4 : q < 4
    · refine .inl ⟨h4, A1, c1, ?_⟩
      rw [tw_len]
    · rw [hc, if_neg h4] at h2
      exact absurd h2 (by simp)
theorem tw_bytes (hq : q ≤ 100) (h : TwBox w B (tw T q) K k) :
    Calls Tryd.prog 12 #[.slice (some ⟨w.heap.size, 0, none⟩) 1 1] (w.alloc (.cells #[hv (tw T q).t, .slice none 0 0, .slice K (tw T q).ks.length k] 27)) fun e w' => Below w.heap.size w w' ∧
      ∃ A' c', e = .returned (.slice A' (4 * q + 4) c') ∧ Lies w' w'.heap.size A' ((jn (frs [tw T q])).map bv) ∧ 4 * q + 4 ≤ c' ∧ c' ≤ maxLen := by
  have hb : Below w.heap.size w (w.alloc (.cells #[hv (tw T q).t, .slice none 0 0, .slice K (tw T q).ks.length k] 27)) := (Below.refl _ w).alloc (Nat.le_refl _) _
  have h1 := rbytes8_any [tw T q] (by simp) (by intro n hn; rw [List.mem_singleton.1 hn]; exact tw_fine T q hq) (some ⟨w.heap.size, 0, none⟩) 1 _ (h.list.more (by simp)) (by simp) (by rw [lens_map, List.map_cons, List.map_nil, sizes_one, tw_vlen]; omega)
    (by intro n hn; rw [List.mem_singleton.1 hn]; exact tw_fit T q hq)
  refine Calls.mono (R := JnR (w.alloc (.cells #[hv (tw T q).t, .slice none 0 0, .slice K (tw T q).ks.length k] 27)) (jn (frs [tw T q]))) h1 ?_
  rintro e w1 ⟨A1, c1, rfl, own1, b1⟩
  have hc := own_cap own1
  rw [tw_len] at hc ⊢
  exact ⟨hb.trans (b1.mono (by simp)), A1, c1, rfl, Lies.own own1, hc.2.1, hc.2.2⟩
theorem tw_parse (hl : look (tab 1) T = none) (hq : q ≤ 100) (hh : Handle w) {A : Option Addr} {c : Nat} (h : Lies w w.heap.size A ((jn (frs [tw T q])).map bv)) (hc : 4 * q + 4 ≤ c) (hm : c ≤ maxLen) :
    Calls Tryd.prog 11 #[.int .i64 1, .slice A (4 * q + 4) c] w fun e w' => Below w.heap.size w w' ∧
      ((q < 4 ∧ ∃ A' c', e = .returned (.tuple #[.slice A' 1 c', .nilIface])) ∨ (¬ q < 4 ∧ e = .returned (.tuple #[.slice none 0 0, faultV 9 16]))) := by
  have hlen := tw_len T q
  have h1 := nparse_any 1 (jn (frs [tw T q])) A c w hh h (by omega) hm (by omega)
  rw [hlen] at h1
  by_cases h4 : q < 4
  · rw [pa_good 4 1 [tw T q] (by intro n hn; rw [List.mem_singleton.1 hn, chk_tw hl q 4 hq, if_pos h4])] at h1
    refine Calls.mono (R := ParseR w (.ok [tw T q])) h1 ?_
    rintro e w1 ⟨b1, A1, c1, rfl, _⟩
    exact ⟨b1, .inl ⟨h4, A1, c1, rfl⟩⟩
  · rw [pa_bad 4 q (by omega) hq] at h1
    refine Calls.mono (R := ParseR w (.bad 9 16)) h1 ?_
    rintro e w1 ⟨b1, rfl⟩
    exact ⟨b1, .inr ⟨h4, rfl⟩⟩
end
set_option maxRecDepth 100000 in
set_option maxHeartbeats 8000000 in
theorem ndepths_law (n k m : Nat) (t T : UInt16) (hk : Int.tmod (n : Int) 8 = (k : Int)) (hk8 : k < 8) (hn : n < 256) (hm : Int.tmod (t.toNat : Int) 16384 = (m : Int)) (hT : 16384 + m = T.toNat) (hl : look (tab 1) T = none) (w : World) (hh : Handle w) :
    Calls Tryd.prog 3 #[.int .u8 (n : Int), hv t] w fun e w' => e = .returned (.bool true) ∧ Below w.heap.size w w' := by
  have HL := Lib.hid hl
  have HT := Lib.hid (show (16384 : Int) + (m : Int) = (T.toNat : Int) by omega)
  have hw1 : IntKind.u16.wrap (16384 + (m : Int)) = 16384 + (m : Int) := by
    have := T.toNat_lt
    rw [IntKind.wrap_u16]
    omega
  have hw2 : IntKind.u16.wrap (T.toNat : Int) = (T.toNat : Int) := by
    have := T.toNat_lt
    rw [IntKind.wrap_u16]
    omega
  have HH := Lib.hid hh
  clear hh hl hT
  go_enter Tryd.func3, Tryd.ntmps3
  go_wp2_with fail
  refine (awake_any w HH.out).mono ?_
  rintro e w1 ⟨rfl, b1⟩
  go_upto_region 5 with fail
  rw [HT.out]
  clear hw1 hm HT
  have x0 : TwBox (w1.alloc (.cells #[hv T, .slice none 0 0, .slice none 0 0] 27)) w1.heap.size (tw T 0) none 0 :=
    ⟨Whole.new _ _ _, ⟨fun h => absurd rfl h, Nat.le_refl _, by simp [maxLen], NodesS.nil _ _ _, Nat.le_refl _, by simp [maxLen]⟩⟩
  have c0 : Below w1.heap.size w1 (w1.alloc (.cells #[hv T, .slice none 0 0, .slice none 0 0] 27)) := (Below.refl _ _).alloc (Nat.le_refl _) _
  go_wp2_with fail
  go_loopw [7] (fun i wr => ∃ (q : Nat) (K : Option Addr) (kc : Nat), q ≤ k ∧ i = .int .i64 q ∧ TwBox wr w1.heap.size (tw T q) K kc ∧ Below w1.heap.size w1 wr) (fun i _ => k - (intOf i).toNat)
  case atStart => exact ⟨0, none, 0, Nat.zero_le _, rfl, x0, c0⟩
  case round =>
    obtain ⟨q, K, kc, hq, rfl, hbx, hbel⟩ := hrel
    have g0 := hbx.c0
    have g1 := hbx.c1
    have g2 := hbx.c2
    have hlt := hbx.1.lt
    by_cases hlk : q < k
    · have f0 := hbx.1.frozen 0
      have f1 := hbx.1.frozen 1
      have f2 := hbx.1.frozen 2
      have hne1 : w1.heap.size ≠ wr.heap.size := by omega
      have hne2 : wr.heap.size ≠ w1.heap.size := by omega
      have HX := Lib.hid (tw_next hbx)
      have HB : Hid (Below w1.heap.size w1 ((((wr.setCell ⟨w1.heap.size, 0, none⟩ (.int .u16 8)).setCell ⟨w1.heap.size, 1, none⟩ (.slice none 0 0)).setCell ⟨w1.heap.size, 2, none⟩ (.slice (some ⟨wr.heap.size, 0, none⟩) 1 1)).alloc (.cells #[hv (tw T q).t, .slice none 0 0, .slice K (tw T q).ks.length kc] 27))) :=
        (((hbel.setCell (Nat.le_refl _) _).setCell (Nat.le_refl _) _).setCell (Nat.le_refl _) _).alloc (by simp [World.setCell]; omega) _
      clear hbx
      go_wp2_with fail
      go_roundw
      case rel => exact ⟨q + 1, _, _, by omega, by go_num, HX.out, HB.out⟩
      case measure => simp [intOf]; omega
    · obtain rfl : q = k := by omega
      have H1 := HH.out.below (b1.trans (hbel.mono b1.size)) HH.out.lt
      have hE := tw_enc HL.out (by omega) hbx
      clear x0 c0
      go_wp2_with fail
      refine hE.mono ?_
      rintro e w2 ⟨b2, he⟩
      have hbx2 := hbx.below b2
      have k0 := hbx2.c0
      have k1 := hbx2.c1
      have k2 := hbx2.c2
      have H2 := H1.below b2 H1.lt
      have hBy := tw_bytes (by omega) hbx2
      have hB2 := b1.trans ((hbel.trans (b2.mono hbel.size)).mono b1.size)
      clear hE hbx g0 g1 g2 hlt
      rcases he with ⟨h4, A2, c2, rfl⟩ | ⟨h4, rfl⟩
      · have hq3 : (q : Int) ≤ 3 := by omega
        have hm1 : IntKind.i64.wrap (4 * (q : Int)) = 4 * (q : Int) := by rw [IntKind.wrap_i64]; omega
        have hm2 : IntKind.i64.wrap (4 * (q : Int) + 4) = 4 * (q : Int) + 4 := by rw [IntKind.wrap_i64]; omega
        go_wp2_with fail
        refine hBy.mono ?_
        rintro e w3 ⟨b3, A3, c3, rfl, L3, hc3, hm3⟩
        have H3 := H2.below b3 H2.lt
        have hP := tw_parse HL.out (by omega) H3 L3 hc3 hm3
        go_wp2_with fail
        refine hP.mono ?_
        rintro e w4 ⟨b4, ⟨_, A4, c4, rfl⟩ | ⟨h5, _⟩⟩
        · go_wp2_with fail
          go_ret
          exact ⟨by simp, hB2.trans ((b3.trans (b4.mono b3.size)).mono hB2.size)⟩
        · exact absurd h4 h5
      · have hq3 : ¬ (q : Int) ≤ 3 := by omega
        have hC : ∀ W, Calls Tryd.prog 13 #[codeV 9, .int .i64 9] W fun e w' => e = .returned (.bool true) ∧ W = w' := fun W => coded_same 9 (by omega) W
        unfold codeV at hC ⊢
        go_wp2_with fail
        refine hBy.mono ?_
        rintro e w3 ⟨b3, A3, c3, rfl, L3, hc3, hm3⟩
        have H3 := H2.below b3 H2.lt
        have hP := tw_parse HL.out (by omega) H3 L3 hc3 hm3
        go_wp2_with fail
        refine hP.mono ?_
        rintro e w4 ⟨b4, ⟨h5, _⟩ | ⟨_, rfl⟩⟩
        · exact absurd h5 h4
        · have H4 := H3.below b4 H3.lt
          have hTd : Calls Tryd.prog 14 #[faultV 9 16, .int .i64 9, .int .i64 16] w4 fun e w' => e = .returned (.bool true) ∧ Below w4.heap.size w4 w' := told_same 9 16 (by omega) w4 H4
          unfold faultV at hTd ⊢
          go_wp2_with fail
          refine (hC w4).mono ?_
          rintro e w5 ⟨rfl, rfl⟩
          go_wp2_with fail
          refine hTd.mono ?_
          rintro e w6 ⟨rfl, b6⟩
          go_wp2_with fail
          go_ret
          exact ⟨rfl, hB2.trans ((b3.trans ((b4.trans (b6.mono b4.size)).mono b3.size)).mono hB2.size)⟩
set_option maxRecDepth 100000 in
theorem law_NodeDepths {H : Type} {enc : TypeId × Value → H} {W : World} {base : Nat} {v0 v1 : Value} {d0 d1 : DataW H} {p0 p1 : List MemPlace}
    (o0 : Value.okWide Tryd.prog W .any base 5 v0) (h0 : DataW.Trod enc Tryd.prog W 0 (fun _ => true) true 5 v0 d0 p0) (_s0 : Small Tryd.prog 5 d0)
    (o1 : Value.okWide Tryd.prog W .any base 22 v1) (h1 : DataW.Trod enc Tryd.prog W 0 (fun _ => true) true 22 v1 d1 p1) (_s1 : Small Tryd.prog 22 d1) (hL : laidMetH Tryd.prog laidL W) :
    Calls Tryd.prog 3 #[v0, v1] W fun e w' => e = .returned (.bool true) ∧ Below W.heap.size W w' := by
  obtain ⟨n, rfl, _, _, wn⟩ := open_int Tryd.underlying5 o0 h0
  obtain ⟨t, rfl, _, _, wt⟩ := open_int Tryd.underlying22 o1 h1
  have hb := wf_u8 wn
  have hc := wf_u16 wt
  obtain ⟨n, rfl⟩ : ∃ k : Nat, n = k := ⟨n.toNat, by omega⟩
  obtain ⟨t, rfl⟩ : ∃ k : Nat, t = k := ⟨t.toNat, by omega⟩
  have ht : (u16of t).toNat = t := u16of_toNat (by omega)
  have hT : (u16of (16384 + t % 16384)).toNat = 16384 + t % 16384 := u16of_toNat (by omega)
  have h := ndepths_law n (n % 8) (t % 16384) (u16of t) (u16of (16384 + t % 16384)) (by rw [Int.tmod_eq_emod_of_nonneg (by omega)]; omega) (Nat.mod_lt _ (by omega)) (by omega)
    (by rw [ht, Int.tmod_eq_emod_of_nonneg (by omega)]; omega) hT.symm (look_mid (by rw [hT]; omega) (by rw [hT]; omega)) W (handle_of_laid hL)
  rw [hv, ht] at h
  exact h
end Go.Proofs.YtofpckmanihknaaDoor
