/- Layer 5, the law CrcFlips: the walk. -/
import Derived.Test.YtgjedidpimncaaaCrcJ
import Derived.Test.YtgjedidpimncaaaArr
namespace Go.Proofs.Ytgjedidpimncaaa
open Go.RowKit Go.ChangeShapes Go.WideShapes Go.ChangeAt

def flips (b : List UInt8) (P : Nat → Nat) : Nat → List UInt8
  | 0 => b
  | i + 1 => flipL (flips b P i) (P i)
theorem flips_len (b : List UInt8) (P : Nat → Nat) (i : Nat) : (flips b P i).length = b.length := by
  induction i with
  | zero => rfl
  | succ i ih => rw [flips, flipL_len, ih]
theorem sealN (l : List UInt8) {k : Nat} (h : l.length = k) : (sealL l).length = k := by rw [sealL_len, h]

theorem flips_bt (b : List UInt8) (P : Nat → Nat) (i q : Nat) (hP : P i < 8 * b.length) : bt (flips b P (i + 1)) q = (bt (flips b P i) q ^^ decide (q = P i)) :=
  flipL_bt (by rw [flips_len]; exact hP) q
theorem flips_no {b : List UInt8} {P : Nat → Nat} {k m : Nat} (hb : isSealed b = true) (eb : b.length = k) (hk : k ≤ 3030) (hm : m ≤ 2) (hP : ∀ i, P i < 8 * k) (hd : ∀ x y, x < y → y < m + 1 → P x ≠ P y) :
    isSealed (flips b P (m + 1)) = false := by
  have hf := fun i q => flips_bt b P i q (by rw [eb]; exact hP i)
  have hl : (flips b P (m + 1)).length = k := by rw [flips_len, eb]
  cases hs : isSealed (flips b P (m + 1)) with
  | false => rfl
  | true =>
    exfalso
    obtain rfl | rfl | rfl : m = 0 ∨ m = 1 ∨ m = 2 := by omega
    · exact flip1 hb hs eb hl (hP 0) fun q _ => by
        rw [hf 0 q]
        show (bt b q ^^ (bt b q ^^ _)) = _
        cases bt b q <;> simp
    · exact flip2 hb hs eb hl (hP 0) (hP 1) (hd 0 1 (by omega) (by omega)) (by omega) fun q _ => by
        rw [hf 1 q, hf 0 q]
        show (bt b q ^^ ((bt b q ^^ _) ^^ _)) = _
        cases bt b q <;> cases decide (q = P 0) <;> simp
    · exact flip3 hb hs eb hl (hP 0) (hP 1) (hP 2) fun q _ => by
        rw [hf 2 q, hf 1 q, hf 0 q]
        show (bt b q ^^ (((bt b q ^^ _) ^^ _) ^^ _)) = _
        cases bt b q <;> cases decide (q = P 0) <;> cases decide (q = P 1) <;> simp
/-- the three numbers in their box -/
def Box3 (w : World) (G : Nat) (a : Nat → Nat) : Prop := ∀ i, i < 3 → w.cell? ⟨G, i, none⟩ = some (.int .u32 (a i : Nat))
theorem Box3.below {w w' : World} {G B : Nat} {a : Nat → Nat} (h : Box3 w G a) (hb : Below B w w') (hG : G < B) : Box3 w' G a := fun i hi => (hb.cell (p := ⟨G, i, none⟩) hG).trans (h i hi)

set_option maxHeartbeats 4000000 in
theorem crcflips_any (z n ct : Int) (a : Nat → Nat) (w : World) (hz : 0 ≤ z ∧ z < 18446744073709551616) (hn : 0 ≤ n ∧ n < 65536) (hct : 0 ≤ ct ∧ ct < 256) (ha : ∀ i, a i < 4294967296) :
    Calls Try.prog 5 #[.int .u64 z, .int .u16 n, .agg #[.int .u32 (a 0 : Nat), .int .u32 (a 1 : Nat), .int .u32 (a 2 : Nat)], .int .u8 ct] w fun e w' => e = .returned (.bool true) ∧ Below w.heap.size w w' := by
  obtain ⟨hn0, hn1⟩ := hn
  obtain ⟨k, hk⟩ : ∃ k : Nat, 12 + n % 3000 = (k : Int) := ⟨(12 + n % 3000).toNat, by omega⟩
  have hk1 : 12 ≤ k := by omega
  have hk2 : k ≤ 3011 := by omega
  obtain ⟨m, hm⟩ : ∃ m : Nat, ct % 3 = (m : Int) := ⟨(ct % 3).toNat, by omega⟩
  have hm2 : m ≤ 2 := by omega
  go_enter Try.func5, Try.ntmps5
  go_wp2_with fail
  have hbx : Box3 (w.alloc (.cells #[.int .u32 (a 0 : Nat), .int .u32 (a 1 : Nat), .int .u32 (a 2 : Nat)] 39)) w.heap.size a := fun i hi => by
    obtain rfl | rfl | rfl : i = 0 ∨ i = 1 ∨ i = 2 := by omega
    all_goals exact Whole.cell (Whole.new w _ _) _
  have hb0 : Below w.heap.size w (w.alloc (.cells #[.int .u32 (a 0 : Nat), .int .u32 (a 1 : Nat), .int .u32 (a 2 : Nat)] 39)) := (Below.refl _ w).alloc (Nat.le_refl _) _
  have hs0 : w.heap.size < (w.alloc (.cells #[.int .u32 (a 0 : Nat), .int .u32 (a 1 : Nat), .int .u32 (a 2 : Nat)] 39)).heap.size := by simp
  generalize w.alloc (.cells #[.int .u32 (a 0 : Nat), .int .u32 (a 1 : Nat), .int .u32 (a 2 : Nat)] 39) = w0 at *
  refine (awake_any w0).mono ?_
  rintro e w1 ⟨rfl, b01⟩
  have hbx1 := hbx.below b01 hs0
  have hb1 := hb0.trans (b01.mono (Nat.le_of_lt hs0))
  have hs1 : w.heap.size < w1.heap.size := Nat.lt_of_lt_of_le hs0 b01.size
  clear hbx b01 hb0 hs0
  go_wp2_with fail
  refine (rspread_any z k w1 hz (by omega)).mono ?_
  rintro e w2 ⟨A2, c2, l, rfl, hl, hown2, b12⟩
  have hbx2 := hbx1.below b12 hs1
  have hb2 := hb1.trans (b12.mono (Nat.le_of_lt hs1))
  have hs2 : w.heap.size < w2.heap.size := Nat.lt_of_lt_of_le hs1 b12.size
  have hl2 := Lies.own hown2
  clear hbx1 b12 hb1 hs1 hown2
  have hSe := rseal_any A2 c2 l w2 hl2 (by omega) (by omega)
  have hbl := sealN l hl
  have hbs := sealL_sealed (b := l) (by omega)
  rw [hl] at hSe
  generalize sealL l = b at *
  go_wp2_with fail
  refine hSe.mono ?_
  rintro e w3 ⟨g3, c3, rfl, hown3, _, b23⟩
  have hbx3 := hbx2.below b23 hs2
  have hb3 := hb2.trans (b23.mono (Nat.le_of_lt hs2))
  have hs3 : w.heap.size < w3.heap.size := Nat.lt_of_lt_of_le hs2 b23.size
  have hcap3 := own_cap hown3
  have hl3 := Lies.own hown3
  have ho3 := one_bytes b
  clear hbx2 b23 hb2 hs2 hSe hl2
  clear hown3
  go_wp2_with (at_builtin; refine wpList_append_lies _ rfl (.tmp 24) (.tmp 25) 24 rfl w3.heap.size 5 _ 1 Try.underlying24 u8info rfl _ 0 [] rfl (own_empty w3 w3.heap.size (Nat.le_refl _)) _ _ k c3 (b.map bv) rfl (by simp [hbl]) (hl3.alloc (Nat.le_refl _) _) ho3 (by omega) (by unfold maxLen; omega) (by simp) ?_; intro A4 c4 w4 hown' hgrow _; have hown4 : w4.ownsRow w3.heap.size 5 1 (.slice A4 k c4) k (b.map bv) := (by simpa using hown'); clear hown')
  have b34 : Below w3.heap.size w3 w4 := ((Below.refl _ w3).alloc (Nat.le_refl _) _).grown hgrow (by simp) (fun j e => by cases e; exact Nat.le_refl _)
  have hbx4 := hbx3.below b34 hs3
  have hb4 := hb3.trans (b34.mono (Nat.le_of_lt hs3))
  have hl4 := hl3.below b34
  have hs4 := b34.size
  obtain ⟨g4, rfl, hg4⟩ := copy_own hown4 (by omega)
  have hcap4 := own_cap hown4
  have HO4 := Lib.hid hown4
  clear hown4 hgrow b34 hbx3 hb3 hl3
  obtain ⟨P, hP⟩ : ∃ P : Nat → Nat, ∀ i, P i = a i % (8 * k) := ⟨_, fun _ => rfl⟩
  have HPl : Hid (∀ i, P i < 8 * k) := fun i => by rw [hP]; exact Nat.mod_lt _ (by omega)
  have HPi : Hid (∀ i, (a i : Int) % (8 * (k : Int)) = (P i : Int)) := fun i => mod8 (a i) k (P i) (hP i)
  have HPe : Hid (∀ i, a i % (8 * k) = P i) := fun i => (hP i).symm
  have HFl : Hid (∀ i, (flips b P i).length = k) := fun i => by rw [flips_len, hbl]
  have HFs : Hid (∀ i, flipL (flips b P i) (P i) = flips b P (i + 1)) := fun i => rfl
  have HF0 : Hid (flips b P 0 = b) := rfl
  have HNo : Hid ((∀ x y, x < y → y < m + 1 → P x ≠ P y) → isSealed (flips b P (m + 1)) = false) := fun h => flips_no hbs hbl (by omega) hm2 HPl h
  have hal := Lib.hid ha
  rw [← HF0.out] at HO4
  clear hP ha ho3 hl
  have hGB : w.heap.size ≤ w3.heap.size := Nat.le_of_lt hs3
  obtain ⟨B, hB⟩ : ∃ B, B = w3.heap.size := ⟨_, rfl⟩
  rw [← hB] at hs3 hl4 hs4 hg4 HO4 hGB
  have HB4 := Lib.hid hb4
  have HBX := Lib.hid hbx4
  clear hB hb4 hbx4
  go_loopw [11, 12] (fun v i wr => ∃ j : Nat, j ≤ m + 1 ∧ i = .int .i64 j ∧ v = .slice (some ⟨g4, 0, none⟩) k c4 ∧
      wr.ownsRow B 5 1 (.slice (some ⟨g4, 0, none⟩) k c4) k ((flips b P j).map bv) ∧ (∀ x y, x < y → y < j → P x ≠ P y) ∧ Below B w4 wr) (fun _ i _ => m + 1 - (intOf i).toNat)
  case atStart => exact ⟨0, Nat.zero_le _, rfl, rfl, HO4.out, fun x y _ h => absurd h (Nat.not_lt_zero _), Below.refl _ _⟩
  case round =>
    obtain ⟨j, hj, rfl, rfl, hown, hdis, hbj⟩ := hrel
    have HO := Lib.hid hown
    have HD := Lib.hid hdis
    clear hown hdis HO4
    by_cases hlt : j ≤ m
    · have hjm : (j : Int) ≤ (m : Int) := by omega
      have hj3 : (j : Int) < 3 := by omega
      go_wp2_with fail
      go_loopw [13] (fun i wr => ∃ x : Nat, x ≤ j ∧ i = .int .i64 x ∧ wr.ownsRow B 5 1 (.slice (some ⟨g4, 0, none⟩) k c4) k ((flips b P j).map bv) ∧ (∀ y, y < x → P y ≠ P j) ∧ Below B w4 wr) (fun i _ => j - (intOf i).toNat)
      case atStart => exact ⟨0, Nat.zero_le _, rfl, HO.out, fun y h => absurd h (Nat.not_lt_zero _), hbj⟩
      case round =>
        obtain ⟨x, hx, rfl, hown, hdx, hbx⟩ := hrel
        have HO2 := Lib.hid hown
        have HDx := Lib.hid hdx
        have hB3 := HBX.out.below hbx hs3
        have hcj := hB3 j (by omega)
        have hl3 : Lies wr wr.heap.size (some ⟨g3, 0, none⟩) (b.map bv) := (hl4.below hbx).more (Nat.le_trans hs4 hbx.size)
        clear hown hdx HO
        by_cases hlx : x < j
        · have hcx := hB3 x (by omega)
          have hx3 : (x : Int) < 3 := by omega
          have hxj : (x : Int) < (j : Int) := by omega
          have haj := hal.out j
          have hax := hal.out x
          have hPj := Lib.hid (HPi.out j)
          have hPx := Lib.hid (HPi.out x)
          clear hB3
          by_cases hpe : P j = P x
          · have hq : ((a j : Int) % (8 * (k : Int)) == (a x : Int) % (8 * (k : Int))) = true := by rw [hPj.out, hPx.out, hpe]; simp
            clear hpe
            go_wp2_with fail
            go_region
            have hC := csealed_any (some ⟨g3, 0, none⟩) c3 b wr.drew hl3 (by rw [hbl]; exact hcap3.2.1) hcap3.2.2 (by rw [hbl]; omega)
            rw [hbl, hbs] at hC
            go_wp2_with fail
            refine hC.mono ?_
            rintro e w5 ⟨rfl, b5⟩
            have hb9 := Lib.hid (HB4.out.trans (((below_drewN hbx 1).mono hGB).trans (b5.mono (Nat.le_trans hGB (Nat.le_trans hs4 hbx.size)))))
            clear b5 hC
            go_wp2_with fail
            go_ret
            exact ⟨rfl, hb9.out⟩
          · have hq : ((a j : Int) % (8 * (k : Int)) == (a x : Int) % (8 * (k : Int))) = false := by rw [hPj.out, hPx.out, beq_eq_false_iff_ne]; omega
            have HD2 : Hid (∀ y, y < x + 1 → P y ≠ P j) := fun y hy => by
              rcases Nat.lt_or_ge y x with h1 | h1
              · exact HDx.out y h1
              · obtain rfl : y = x := by omega
                exact fun e => hpe e.symm
            clear hpe
            go_wp2_with fail
            go_region
            go_wp2_with fail
            go_roundw
            case rel => exact ⟨x + 1, by omega, by go_num, HO2.out, HD2.out, below_drewN hbx 1⟩
            case measure => simp [intOf]; omega
        · obtain rfl : x = j := by omega
          have haj := hal.out x
          have hFl := flip_any g4 c4 (a x) B (flips b P x) wr (by rw [HFl.out]; exact HO2.out) (by rw [HFl.out]; omega) (by rw [HFl.out]; omega) haj
          rw [HFl.out, HPe.out, HFs.out] at hFl
          have HD2 : Hid (∀ y z, y < z → z < x + 1 → P y ≠ P z) := fun y z h1 h2 => by
            rcases Nat.lt_or_ge z x with h3 | h3
            · exact HD.out y z h1 h3
            · obtain rfl : z = x := by omega
              exact HDx.out y h1
          clear hB3
          go_wp2_with fail
          refine hFl.mono ?_
          rintro e w5 ⟨rfl, hown5, hgrow5⟩
          have HO5 := Lib.hid hown5
          have hb5 := Lib.hid (hbx.grown hgrow5 (Nat.le_trans hs4 hbx.size) (fun y e => by cases e; exact hg4))
          clear hown5 hgrow5 hFl
          go_wp2_with fail
          go_roundw
          case rel => exact ⟨x + 1, by omega, by go_num, rfl, HO5.out, HD2.out, hb5.out⟩
          case measure => simp [intOf]; omega
    · obtain rfl : j = m + 1 := by omega
      have hjm : ¬ (((m + 1 : Nat) : Int) ≤ (m : Int)) := by omega
      have hl3 : Lies wr wr.heap.size (some ⟨g3, 0, none⟩) (b.map bv) := (hl4.below hbj).more (Nat.le_trans hs4 hbj.size)
      have hC := csealed_any (some ⟨g3, 0, none⟩) c3 b wr hl3 (by rw [hbl]; exact hcap3.2.1) hcap3.2.2 (by rw [hbl]; omega)
      rw [hbl, hbs] at hC
      have hsB : B ≤ wr.heap.size := Nat.le_trans hs4 hbj.size
      go_wp2_with fail
      refine hC.mono ?_
      rintro e w5 ⟨rfl, b5⟩
      have ho5 := Lies.own (own_below' HO.out b5)
      have hb5 := HB4.out.trans ((hbj.mono hGB).trans (b5.mono (Nat.le_trans hGB hsB)))
      have hC2 := csealed_any (some ⟨g4, 0, none⟩) c4 (flips b P (m + 1)) w5 ho5 (by rw [HFl.out]; exact hcap4.2.1) hcap4.2.2 (by rw [HFl.out]; omega)
      rw [HFl.out, HNo.out HD.out] at hC2
      clear hC ho5 b5
      go_wp2_with fail
      refine hC2.mono ?_
      rintro e w6 ⟨rfl, b6⟩
      have hb6 := hb5.trans (b6.mono hb5.size)
      go_wp2_with fail
      go_ret
      exact ⟨rfl, hb6⟩

theorem law_CrcFlips {H : Type} {enc : TypeId × Value → H} {W : World} {base : Nat} {v0 v1 v2 v3 : Value} {d0 d1 d2 d3 : DataW H} {p0 p1 p2 p3 : List MemPlace}
    (o0 : Value.okWide Try.prog W .any base 37 v0) (h0 : DataW.Trod enc Try.prog W 0 (fun _ => true) true 37 v0 d0 p0) (_s0 : Small Try.prog 37 d0)
    (o1 : Value.okWide Try.prog W .any base 38 v1) (h1 : DataW.Trod enc Try.prog W 0 (fun _ => true) true 38 v1 d1 p1) (_s1 : Small Try.prog 38 d1)
    (o2 : Value.okWide Try.prog W .any base 39 v2) (h2 : DataW.Trod enc Try.prog W 0 (fun _ => true) true 39 v2 d2 p2) (_s2 : Small Try.prog 39 d2)
    (o3 : Value.okWide Try.prog W .any base 5 v3) (h3 : DataW.Trod enc Try.prog W 0 (fun _ => true) true 5 v3 d3 p3) (_s3 : Small Try.prog 5 d3) :
    Calls Try.prog 5 #[v0, v1, v2, v3] W fun e w' => e = .returned (.bool true) ∧ Below W.heap.size W w' := by
  obtain ⟨z, rfl, _, _, wz⟩ := open_int Try.underlying37 o0 h0
  obtain ⟨n, rfl, _, _, wn⟩ := open_int Try.underlying38 o1 h1
  obtain ⟨x0, x1, x2, rfl, w0, w1, w2⟩ := open_three Try.underlying39 Try.underlying26 (by kernel_rfl) (by kernel_rfl) o2 h2
  obtain ⟨ct, rfl, _, _, wc⟩ := open_int Try.underlying5 o3 h3
  have e0 := wf_u32 w0
  have e1 := wf_u32 w1
  have e2 := wf_u32 w2
  have ez : 0 ≤ z ∧ z < 18446744073709551616 := by have := bounds_u64 wz; omega
  have h := crcflips_any z n ct (fun i => if i = 0 then x0.toNat else if i = 1 then x1.toNat else x2.toNat) W ez (wf_u16 wn) (wf_u8 wc) (fun i => by
    show (if i = 0 then x0.toNat else if i = 1 then x1.toNat else x2.toNat) < 4294967296
    split
    · omega
    · split <;> omega)
  simp only [if_true, show ((1 : Nat) = 0) = False from by simp, show ((2 : Nat) = 0) = False from by simp, show ((2 : Nat) = 1) = False from by simp, if_false] at h
  rw [Int.toNat_of_nonneg e0.1, Int.toNat_of_nonneg e1.1, Int.toNat_of_nonneg e2.1] at h
  exact h
end Go.Proofs.Ytgjedidpimncaaa
