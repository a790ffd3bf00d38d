/- Layer 5, the law CrcBursts: the walk. -/
import Derived.Test.YtgjedidpimncaaaCrcM
namespace Go.Proofs.Ytgjedidpimncaaa
open Go.RowKit Go.ChangeShapes Go.WideShapes Go.ChangeAt

/-- behind j bits of a burst from i on, none of them at T or later -/
structure Burst (b L : List UInt8) (i j T k : Nat) (s : Bool) : Prop where
  len : L.length = k
  near : ∀ q, bt b q ≠ bt L q → i ≤ q ∧ q < i + j ∧ q < T
  yes : s = true → L = b
  no : s = false → ∃ q, q < 8 * k ∧ bt b q ≠ bt L q
theorem Burst.start {b : List UInt8} {i T k : Nat} (h : b.length = k) : Burst b b i 0 T k true :=
  ⟨h, fun q hq => absurd rfl hq, fun _ => rfl, fun h => by cases h⟩
theorem Burst.skip {b L : List UInt8} {i j T k : Nat} {s : Bool} (h : Burst b L i j T k s) : Burst b L i (j + 1) T k s :=
  ⟨h.len, fun q hq => by have := h.near q hq; omega, h.yes, h.no⟩
theorem Burst.flip {b L : List UInt8} {i j T k : Nat} {s : Bool} (h : Burst b L i j T k s) (hT : i + j < T) (hk : T ≤ 8 * k) : Burst b (flipL L (i + j)) i (j + 1) T k false := by
  have hb := fun q => flipL_bt (b := L) (p := i + j) (by rw [h.len]; omega) q
  have h0 : bt b (i + j) = bt L (i + j) := Decidable.byContradiction fun hne => by
    have := h.near _ hne
    omega
  refine ⟨by rw [flipL_len, h.len], fun q hq => ?_, fun h => (by cases h), fun _ => ⟨i + j, by omega, ?_⟩⟩
  · by_cases e : q = i + j
    · omega
    · rw [hb q, decide_eq_false e, Bool.xor_false] at hq
      have := h.near q hq
      omega
  · rw [hb, h0]
    simp
theorem Burst.sealed {b L : List UInt8} {i T k : Nat} {s : Bool} (h : Burst b L i 32 T k s) (hb : isSealed b = true) (eb : b.length = k) (hi : i < 8 * k) (hf : T ≤ 64 ∨ (64 ≤ i ∧ T ≤ 96) ∨ 96 ≤ i) : isSealed L = s := by
  cases s with
  | true => rw [h.yes rfl, hb]
  | false =>
    cases hs : isSealed L with
    | false => rfl
    | true =>
      exfalso
      obtain ⟨q, hq, hne⟩ := h.no rfl
      have hx : ∀ p, (bt b p ^^ bt L p) = true → bt b p ≠ bt L p := fun p e h => by rw [h] at e; simp at e
      refine hne (burst hb hs eb h.len hi (fun p e => ?_) ?_ q hq)
      · have := h.near p (hx p e)
        omega
      · by_cases h1 : 64 ≤ i ∧ T ≤ 96
        · exact .inl fun p e => by
            have := h.near p (hx p e)
            omega
        · exact .inr fun p e => by
            have := h.near p (hx p e)
            omega

set_option maxHeartbeats 4000000 in
theorem crcbursts_any (z n pt : Int) (at0 ch : Nat) (w : World) (hz : 0 ≤ z ∧ z < 18446744073709551616) (hn : 0 ≤ n ∧ n < 65536) (hpt : 0 ≤ pt ∧ pt < 256) (ha : at0 < 4294967296) (hc : ch < 4294967296) :
    Calls Try.prog 6 #[.int .u64 z, .int .u16 n, .int .u32 (at0 : Nat), .int .u32 (ch : Nat), .int .u8 pt] w fun e w' => e = .returned (.bool true) ∧ Below w.heap.size w w' := by
  by_cases hc0 : ch = 0
  · subst hc0
    go_enter Try.func6, Try.ntmps6
    go_wp2_with fail
    refine (awake_any w).mono ?_
    rintro e w1 ⟨rfl, b1⟩
    go_wp2_with fail
    refine (awake_any w1).mono ?_
    rintro e w2 ⟨rfl, b2⟩
    go_wp2_with fail
    go_ret
    exact ⟨rfl, b1.trans (b2.mono b1.size)⟩
  have hc1 : ((ch : Int) == 0) = false := by rw [beq_eq_false_iff_ne]; omega
  obtain ⟨hn0, hn1⟩ := hn
  obtain ⟨k, hk⟩ : ∃ k : Nat, 12 + n % 3000 = (k : Int) := ⟨(12 + n % 3000).toNat, by omega⟩
  have hk1 : 12 ≤ k := by omega
  have hk2 : k ≤ 3011 := by omega
  go_enter Try.func6, Try.ntmps6
  go_wp2_with fail
  refine (awake_any w).mono ?_
  rintro e w1 ⟨rfl, b01⟩
  go_wp2_with fail
  refine (rspread_any z k w1 hz (by omega)).mono ?_
  rintro e w2 ⟨A2, c2, l, rfl, hl, hown2, b12⟩
  have hb2 := b01.trans (b12.mono b01.size)
  have hl2 := Lies.own hown2
  clear b12 b01 hown2
  have hSe := rseal_any A2 c2 l w2 hl2 (by omega) (by omega)
  have hbl := sealN l hl
  have hbs := sealL_sealed (b := l) (by omega)
  rw [hl] at hSe
  generalize sealL l = b at *
  go_wp2_with fail
  refine hSe.mono ?_
  rintro e w3 ⟨g3, c3, rfl, hown3, _, b23⟩
  have hb3 := hb2.trans (b23.mono hb2.size)
  have hcap3 := own_cap hown3
  have hl3 := Lies.own hown3
  have ho3 := one_bytes b
  clear b23 hb2 hSe hl2 hown3
  have hp3 : pt % 3 = 0 ∨ pt % 3 = 1 ∨ pt % 3 = 2 := by omega
  rcases hp3 with hp3 | hp3 | hp3
  · obtain ⟨i, hi⟩ : ∃ i : Nat, (at0 : Int) % 64 = (i : Int) := ⟨at0 % 64, by omega⟩
    have hi8 : i < 64 := by omega
    go_upto_region 10 with fail
    have hb5 : Below w3.heap.size w3 ((w3.alloc (.cells #[.int .i64 0, .int .i64 64, .int .i64 96] 3)).alloc (.cells #[.int .i64 64, .int .i64 96, .int .i64 (8 * (k : Int))] 3)) := ((Below.refl _ w3).alloc (Nat.le_refl _) _).alloc (by simp) _
    have hs5 : (w3.alloc (.cells #[.int .i64 0, .int .i64 64, .int .i64 96] 3)).heap.size = w3.heap.size + 1 := size_alloc _ _
    generalize (w3.alloc (.cells #[.int .i64 0, .int .i64 64, .int .i64 96] 3)).alloc (.cells #[.int .i64 64, .int .i64 96, .int .i64 (8 * (k : Int))] 3) = w5 at *
    clear hs5
    have hb5' := hb3.trans (hb5.mono hb3.size)
    have hl5 := (hl3.below hb5).more hb5.size
    clear hl3 hb5 hb3
    go_wp2_with (at_builtin; refine wpList_append_lies _ rfl (.tmp 61) (.tmp 62) 24 rfl w5.heap.size 5 _ 1 Try.underlying24 u8info rfl _ 0 [] rfl (own_empty w5 w5.heap.size (Nat.le_refl _)) _ _ k c3 (b.map bv) rfl (by simp [hbl]) (hl5.alloc (Nat.le_refl _) _) ho3 (by omega) (by unfold maxLen; omega) (by simp) ?_; intro A6 c6 w6 hown' hgrow _; have hown6 : w6.ownsRow w5.heap.size 5 1 (.slice A6 k c6) k (b.map bv) := (by simpa using hown'); clear hown')
    have b56 : Below w5.heap.size w5 w6 := ((Below.refl _ w5).alloc (Nat.le_refl _) _).grown hgrow (by simp) (fun j e => by cases e; exact Nat.le_refl _)
    have hb6 := hb5'.trans (b56.mono hb5'.size)
    have hl6 := hl5.below b56
    have hs6 := b56.size
    have hGB := hb5'.size
    obtain ⟨g6, rfl, hg6⟩ := copy_own hown6 (by omega)
    have hcap6 := own_cap hown6
    have HO6 := Lib.hid hown6
    have HB6 := Lib.hid hb6
    have HSt : Hid (Burst b b i 0 64 k true) := Burst.start hbl
    have HEnd : Hid (∀ L s, Burst b L i 32 64 k s → isSealed L = s) := fun L s h => h.sealed hbs hbl (by omega) (by omega)
    have HM : Hid (∀ j, i + j < 64 → (i + j) % (8 * k) = i + j) := fun j h => Nat.mod_eq_of_lt (by omega)
    have hT8 : 64 ≤ 8 * k := by omega
    obtain ⟨B, hB⟩ : ∃ B, B = w5.heap.size := ⟨_, rfl⟩
    rw [← hB] at hl6 hs6 hGB hg6 HO6
    clear hown6 hgrow b56 hl5 hb5' hb6 hB ho3
    go_loopw [16, 17, 18] (fun v s i' wr => ∃ (j : Nat) (L : List UInt8) (sm : Bool), j ≤ 32 ∧ i' = .int .i64 j ∧ v = .slice (some ⟨g6, 0, none⟩) k c6 ∧ s = .bool sm ∧
        wr.ownsRow B 5 1 (.slice (some ⟨g6, 0, none⟩) k c6) k (L.map bv) ∧ Burst b L i j 64 k sm ∧ Below B w6 wr) (fun _ _ i' _ => 32 - (intOf i').toNat)
    case atStart => exact ⟨0, b, true, by omega, rfl, rfl, rfl, HO6.out, HSt.out, Below.refl _ _⟩
    case round =>
      obtain ⟨j, L, sm, hj, rfl, rfl, rfl, hown, hbu, hbj⟩ := hrel
      have HO := Lib.hid hown
      have HBu := Lib.hid hbu
      clear hown hbu HO6
      by_cases hlt : j < 32 ∧ i + j < 64
      · obtain ⟨hj32, hijT⟩ := hlt
        have hj32' : (j : Int) < 32 := by omega
        have hijT' : (i : Int) + (j : Int) < 64 := by omega
        have hA := and_one_u32 (x := ch / 2 ^ j) (Nat.lt_of_le_of_lt (Nat.div_le_self _ _) hc)
        have hcj : ((ch / 2 ^ j : Nat) : Int) = (ch : Int) / 2 ^ j := by simp
        rw [hcj] at hA
        have ho : ch / 2 ^ j % 2 = 0 ∨ ch / 2 ^ j % 2 = 1 := by omega
        clear hcj
        rcases ho with ho | ho
        · have h5 : (bits BinOp.and IntKind.u32 ((ch : Int) / 2 ^ j) 1 == 1) = false := by rw [hA, ho]; rfl
          have HB2 := Lib.hid HBu.out.skip
          clear hA ho
          go_wp2_with fail
          go_roundw
          case rel => exact ⟨j + 1, L, sm, by omega, by go_num, rfl, rfl, HO.out, HB2.out, hbj⟩
          case measure => simp [intOf]; omega
        · have h5 : (bits BinOp.and IntKind.u32 ((ch : Int) / 2 ^ j) 1 == 1) = true := by rw [hA, ho]; rfl
          have HB2 := Lib.hid (HBu.out.flip hijT hT8)
          have HLn := Lib.hid HBu.out.len
          have hFl := flip_any g6 c6 (i + j) B L wr (by rw [HLn.out]; exact HO.out) (by rw [HLn.out]; omega) (by rw [HLn.out]; omega) (by omega)
          rw [HLn.out, HM.out j hijT, show ((i + j : Nat) : Int) = (i : Int) + (j : Int) from by omega] at hFl
          clear hA ho
          go_wp2_with fail
          refine hFl.mono ?_
          rintro e w7 ⟨rfl, hown7, hgrow7⟩
          have HO7 := Lib.hid hown7
          have hb7 := Lib.hid (hbj.grown hgrow7 (Nat.le_trans hs6 hbj.size) (fun y e => by cases e; exact hg6))
          clear hown7 hgrow7 hFl
          go_wp2_with fail
          go_roundw
          case rel => exact ⟨j + 1, _, false, by omega, by go_num, rfl, rfl, HO7.out, HB2.out, hb7.out⟩
          case measure => simp [intOf]; omega
      · have hend : Hid (isSealed L = sm) := by
          refine HEnd.out L sm ?_
          have h := HBu.out
          exact ⟨h.len, fun q hq => by have := h.near q hq; omega, h.yes, h.no⟩
        have HLn := Lib.hid HBu.out.len
        have hl7 : Lies wr wr.heap.size (some ⟨g3, 0, none⟩) (b.map bv) := (hl6.below hbj).more (Nat.le_trans hs6 hbj.size)
        have hC := csealed_any (some ⟨g3, 0, none⟩) c3 b wr hl7 (by rw [hbl]; exact hcap3.2.1) hcap3.2.2 (by rw [hbl]; omega)
        rw [hbl, hbs] at hC
        have hsB : B ≤ wr.heap.size := Nat.le_trans hs6 hbj.size
        have hcase : (¬ ((j : Int) < 32)) ∨ ((j : Int) < 32 ∧ ¬ ((i : Int) + (j : Int) < 64)) := by omega
        have hsm : (sm == sm) = true := by simp
        clear hl7
        rcases hcase with hc1 | ⟨hc1, hc2⟩
        all_goals
          go_wp2_with fail
          refine hC.mono ?_
          rintro e w8 ⟨rfl, b8⟩
          have ho8 := Lies.own (own_below' HO.out b8)
          have hb8 := HB6.out.trans ((hbj.mono hGB).trans (b8.mono (Nat.le_trans hGB hsB)))
          have hC2 := csealed_any (some ⟨g6, 0, none⟩) c6 L w8 ho8 (by rw [HLn.out]; exact hcap6.2.1) hcap6.2.2 (by rw [HLn.out]; omega)
          rw [HLn.out, hend.out] at hC2
          clear hC ho8 b8
          go_wp2_with fail
          refine hC2.mono ?_
          rintro e w9 ⟨rfl, b9⟩
          have hb9 := hb8.trans (b9.mono hb8.size)
          go_wp2_with fail
          go_ret
          exact ⟨ret_bool (by simp), hb9⟩
  · obtain ⟨i, hi⟩ : ∃ i : Nat, 64 + (at0 : Int) % 32 = (i : Int) := ⟨64 + at0 % 32, by omega⟩
    have hi8 : 64 ≤ i ∧ i < 96 := by omega
    go_upto_region 10 with fail
    have hb5 : Below w3.heap.size w3 ((w3.alloc (.cells #[.int .i64 0, .int .i64 64, .int .i64 96] 3)).alloc (.cells #[.int .i64 64, .int .i64 96, .int .i64 (8 * (k : Int))] 3)) := ((Below.refl _ w3).alloc (Nat.le_refl _) _).alloc (by simp) _
    have hs5 : (w3.alloc (.cells #[.int .i64 0, .int .i64 64, .int .i64 96] 3)).heap.size = w3.heap.size + 1 := size_alloc _ _
    generalize (w3.alloc (.cells #[.int .i64 0, .int .i64 64, .int .i64 96] 3)).alloc (.cells #[.int .i64 64, .int .i64 96, .int .i64 (8 * (k : Int))] 3) = w5 at *
    clear hs5
    have hb5' := hb3.trans (hb5.mono hb3.size)
    have hl5 := (hl3.below hb5).more hb5.size
    clear hl3 hb5 hb3
    go_wp2_with (at_builtin; refine wpList_append_lies _ rfl (.tmp 61) (.tmp 62) 24 rfl w5.heap.size 5 _ 1 Try.underlying24 u8info rfl _ 0 [] rfl (own_empty w5 w5.heap.size (Nat.le_refl _)) _ _ k c3 (b.map bv) rfl (by simp [hbl]) (hl5.alloc (Nat.le_refl _) _) ho3 (by omega) (by unfold maxLen; omega) (by simp) ?_; intro A6 c6 w6 hown' hgrow _; have hown6 : w6.ownsRow w5.heap.size 5 1 (.slice A6 k c6) k (b.map bv) := (by simpa using hown'); clear hown')
    have b56 : Below w5.heap.size w5 w6 := ((Below.refl _ w5).alloc (Nat.le_refl _) _).grown hgrow (by simp) (fun j e => by cases e; exact Nat.le_refl _)
    have hb6 := hb5'.trans (b56.mono hb5'.size)
    have hl6 := hl5.below b56
    have hs6 := b56.size
    have hGB := hb5'.size
    obtain ⟨g6, rfl, hg6⟩ := copy_own hown6 (by omega)
    have hcap6 := own_cap hown6
    have HO6 := Lib.hid hown6
    have HB6 := Lib.hid hb6
    have HSt : Hid (Burst b b i 0 96 k true) := Burst.start hbl
    have HEnd : Hid (∀ L s, Burst b L i 32 96 k s → isSealed L = s) := fun L s h => h.sealed hbs hbl (by omega) (by omega)
    have HM : Hid (∀ j, i + j < 96 → (i + j) % (8 * k) = i + j) := fun j h => Nat.mod_eq_of_lt (by omega)
    have hT8 : 96 ≤ 8 * k := by omega
    obtain ⟨B, hB⟩ : ∃ B, B = w5.heap.size := ⟨_, rfl⟩
    rw [← hB] at hl6 hs6 hGB hg6 HO6
    clear hown6 hgrow b56 hl5 hb5' hb6 hB ho3
    go_loopw [16, 17, 18] (fun v s i' wr => ∃ (j : Nat) (L : List UInt8) (sm : Bool), j ≤ 32 ∧ i' = .int .i64 j ∧ v = .slice (some ⟨g6, 0, none⟩) k c6 ∧ s = .bool sm ∧
        wr.ownsRow B 5 1 (.slice (some ⟨g6, 0, none⟩) k c6) k (L.map bv) ∧ Burst b L i j 96 k sm ∧ Below B w6 wr) (fun _ _ i' _ => 32 - (intOf i').toNat)
    case atStart => exact ⟨0, b, true, by omega, rfl, rfl, rfl, HO6.out, HSt.out, Below.refl _ _⟩
    case round =>
      obtain ⟨j, L, sm, hj, rfl, rfl, rfl, hown, hbu, hbj⟩ := hrel
      have HO := Lib.hid hown
      have HBu := Lib.hid hbu
      clear hown hbu HO6
      by_cases hlt : j < 32 ∧ i + j < 96
      · obtain ⟨hj32, hijT⟩ := hlt
        have hj32' : (j : Int) < 32 := by omega
        have hijT' : (i : Int) + (j : Int) < 96 := by omega
        have hA := and_one_u32 (x := ch / 2 ^ j) (Nat.lt_of_le_of_lt (Nat.div_le_self _ _) hc)
        have hcj : ((ch / 2 ^ j : Nat) : Int) = (ch : Int) / 2 ^ j := by simp
        rw [hcj] at hA
        have ho : ch / 2 ^ j % 2 = 0 ∨ ch / 2 ^ j % 2 = 1 := by omega
        clear hcj
        rcases ho with ho | ho
        · have h5 : (bits BinOp.and IntKind.u32 ((ch : Int) / 2 ^ j) 1 == 1) = false := by rw [hA, ho]; rfl
          have HB2 := Lib.hid HBu.out.skip
          clear hA ho
          go_wp2_with fail
          go_roundw
          case rel => exact ⟨j + 1, L, sm, by omega, by go_num, rfl, rfl, HO.out, HB2.out, hbj⟩
          case measure => simp [intOf]; omega
        · have h5 : (bits BinOp.and IntKind.u32 ((ch : Int) / 2 ^ j) 1 == 1) = true := by rw [hA, ho]; rfl
          have HB2 := Lib.hid (HBu.out.flip hijT hT8)
          have HLn := Lib.hid HBu.out.len
          have hFl := flip_any g6 c6 (i + j) B L wr (by rw [HLn.out]; exact HO.out) (by rw [HLn.out]; omega) (by rw [HLn.out]; omega) (by omega)
          rw [HLn.out, HM.out j hijT, show ((i + j : Nat) : Int) = (i : Int) + (j : Int) from by omega] at hFl
          clear hA ho
          go_wp2_with fail
          refine hFl.mono ?_
          rintro e w7 ⟨rfl, hown7, hgrow7⟩
          have HO7 := Lib.hid hown7
          have hb7 := Lib.hid (hbj.grown hgrow7 (Nat.le_trans hs6 hbj.size) (fun y e => by cases e; exact hg6))
          clear hown7 hgrow7 hFl
          go_wp2_with fail
          go_roundw
          case rel => exact ⟨j + 1, _, false, by omega, by go_num, rfl, rfl, HO7.out, HB2.out, hb7.out⟩
          case measure => simp [intOf]; omega
      · have hend : Hid (isSealed L = sm) := by
          refine HEnd.out L sm ?_
          have h := HBu.out
          exact ⟨h.len, fun q hq => by have := h.near q hq; omega, h.yes, h.no⟩
        have HLn := Lib.hid HBu.out.len
        have hl7 : Lies wr wr.heap.size (some ⟨g3, 0, none⟩) (b.map bv) := (hl6.below hbj).more (Nat.le_trans hs6 hbj.size)
        have hC := csealed_any (some ⟨g3, 0, none⟩) c3 b wr hl7 (by rw [hbl]; exact hcap3.2.1) hcap3.2.2 (by rw [hbl]; omega)
        rw [hbl, hbs] at hC
        have hsB : B ≤ wr.heap.size := Nat.le_trans hs6 hbj.size
        have hcase : (¬ ((j : Int) < 32)) ∨ ((j : Int) < 32 ∧ ¬ ((i : Int) + (j : Int) < 96)) := by omega
        have hsm : (sm == sm) = true := by simp
        clear hl7
        rcases hcase with hc1 | ⟨hc1, hc2⟩
        all_goals
          go_wp2_with fail
          refine hC.mono ?_
          rintro e w8 ⟨rfl, b8⟩
          have ho8 := Lies.own (own_below' HO.out b8)
          have hb8 := HB6.out.trans ((hbj.mono hGB).trans (b8.mono (Nat.le_trans hGB hsB)))
          have hC2 := csealed_any (some ⟨g6, 0, none⟩) c6 L w8 ho8 (by rw [HLn.out]; exact hcap6.2.1) hcap6.2.2 (by rw [HLn.out]; omega)
          rw [HLn.out, hend.out] at hC2
          clear hC ho8 b8
          go_wp2_with fail
          refine hC2.mono ?_
          rintro e w9 ⟨rfl, b9⟩
          have hb9 := hb8.trans (b9.mono hb8.size)
          go_wp2_with fail
          go_ret
          exact ⟨ret_bool (by simp), hb9⟩
  by_cases h12 : k = 12
  · subst h12
    go_upto_region 8 with fail
    have hb5 : Below w3.heap.size w3 ((w3.alloc (.cells #[.int .i64 0, .int .i64 64, .int .i64 96] 3)).alloc (.cells #[.int .i64 64, .int .i64 96, .int .i64 96] 3)) := ((Below.refl _ w3).alloc (Nat.le_refl _) _).alloc (by simp) _
    generalize (w3.alloc (.cells #[.int .i64 0, .int .i64 64, .int .i64 96] 3)).alloc (.cells #[.int .i64 64, .int .i64 96, .int .i64 96] 3) = w5 at *
    have hb5' := hb3.trans (hb5.mono hb3.size)
    have hl5 := (hl3.below hb5).more hb5.size
    have hC := csealed_any (some ⟨g3, 0, none⟩) c3 b w5 hl5 (by rw [hbl]; exact hcap3.2.1) hcap3.2.2 (by rw [hbl]; omega)
    rw [hbl, hbs] at hC
    go_wp2_with fail
    refine hC.mono ?_
    rintro e w8 ⟨rfl, b8⟩
    go_wp2_with fail
    go_ret
    exact ⟨rfl, hb5'.trans (b8.mono hb5'.size)⟩
  · obtain ⟨T, hT⟩ : ∃ T : Nat, 8 * (k : Int) = (T : Int) := ⟨8 * k, by omega⟩
    obtain ⟨D, hD⟩ : ∃ D : Nat, (T : Int) - 96 = (D : Int) := ⟨T - 96, by omega⟩
    have hD0 : 0 < D := by omega
    have hD1 : D < 100000 := by omega
    have hTn : ((T : Int) == 96) = false := by rw [beq_eq_false_iff_ne]; omega
    obtain ⟨i, hi⟩ : ∃ i : Nat, 96 + (at0 : Int) % (D : Int) = (i : Int) := ⟨96 + at0 % D, by rw [Int.natCast_add, Int.natCast_emod]; rfl⟩
    have hi8 : 96 ≤ i ∧ i < T := by
      have h1 := Nat.mod_lt at0 hD0
      have h2 : ((at0 % D : Nat) : Int) = (at0 : Int) % (D : Int) := Int.natCast_emod _ _
      omega
    go_upto_region 10 with fail
    have hb5 : Below w3.heap.size w3 ((w3.alloc (.cells #[.int .i64 0, .int .i64 64, .int .i64 96] 3)).alloc (.cells #[.int .i64 64, .int .i64 96, .int .i64 (T : Int)] 3)) := ((Below.refl _ w3).alloc (Nat.le_refl _) _).alloc (by simp) _
    have hs5 : (w3.alloc (.cells #[.int .i64 0, .int .i64 64, .int .i64 96] 3)).heap.size = w3.heap.size + 1 := size_alloc _ _
    generalize (w3.alloc (.cells #[.int .i64 0, .int .i64 64, .int .i64 96] 3)).alloc (.cells #[.int .i64 64, .int .i64 96, .int .i64 (T : Int)] 3) = w5 at *
    clear hs5
    have hb5' := hb3.trans (hb5.mono hb3.size)
    have hl5 := (hl3.below hb5).more hb5.size
    clear hl3 hb5 hb3
    go_wp2_with (at_builtin; refine wpList_append_lies _ rfl (.tmp 61) (.tmp 62) 24 rfl w5.heap.size 5 _ 1 Try.underlying24 u8info rfl _ 0 [] rfl (own_empty w5 w5.heap.size (Nat.le_refl _)) _ _ k c3 (b.map bv) rfl (by simp [hbl]) (hl5.alloc (Nat.le_refl _) _) ho3 (by omega) (by unfold maxLen; omega) (by simp) ?_; intro A6 c6 w6 hown' hgrow _; have hown6 : w6.ownsRow w5.heap.size 5 1 (.slice A6 k c6) k (b.map bv) := (by simpa using hown'); clear hown')
    have b56 : Below w5.heap.size w5 w6 := ((Below.refl _ w5).alloc (Nat.le_refl _) _).grown hgrow (by simp) (fun j e => by cases e; exact Nat.le_refl _)
    have hb6 := hb5'.trans (b56.mono hb5'.size)
    have hl6 := hl5.below b56
    have hs6 := b56.size
    have hGB := hb5'.size
    obtain ⟨g6, rfl, hg6⟩ := copy_own hown6 (by omega)
    have hcap6 := own_cap hown6
    have HO6 := Lib.hid hown6
    have HB6 := Lib.hid hb6
    have HSt : Hid (Burst b b i 0 T k true) := Burst.start hbl
    have HEnd : Hid (∀ L s, Burst b L i 32 T k s → isSealed L = s) := fun L s h => h.sealed hbs hbl (by omega) (by omega)
    have HM : Hid (∀ j, i + j < T → (i + j) % (8 * k) = i + j) := fun j h => Nat.mod_eq_of_lt (by omega)
    have hT8 : T ≤ 8 * k := by omega
    obtain ⟨B, hB⟩ : ∃ B, B = w5.heap.size := ⟨_, rfl⟩
    rw [← hB] at hl6 hs6 hGB hg6 HO6
    clear hown6 hgrow b56 hl5 hb5' hb6 hB ho3
    go_loopw [16, 17, 18] (fun v s i' wr => ∃ (j : Nat) (L : List UInt8) (sm : Bool), j ≤ 32 ∧ i' = .int .i64 j ∧ v = .slice (some ⟨g6, 0, none⟩) k c6 ∧ s = .bool sm ∧
        wr.ownsRow B 5 1 (.slice (some ⟨g6, 0, none⟩) k c6) k (L.map bv) ∧ Burst b L i j T k sm ∧ Below B w6 wr) (fun _ _ i' _ => 32 - (intOf i').toNat)
    case atStart => exact ⟨0, b, true, by omega, rfl, rfl, rfl, HO6.out, HSt.out, Below.refl _ _⟩
    case round =>
      obtain ⟨j, L, sm, hj, rfl, rfl, rfl, hown, hbu, hbj⟩ := hrel
      have HO := Lib.hid hown
      have HBu := Lib.hid hbu
      clear hown hbu HO6
      by_cases hlt : j < 32 ∧ i + j < T
      · obtain ⟨hj32, hijT⟩ := hlt
        have hj32' : (j : Int) < 32 := by omega
        have hijT' : (i : Int) + (j : Int) < (T : Int) := by omega
        have hA := and_one_u32 (x := ch / 2 ^ j) (Nat.lt_of_le_of_lt (Nat.div_le_self _ _) hc)
        have hcj : ((ch / 2 ^ j : Nat) : Int) = (ch : Int) / 2 ^ j := by simp
        rw [hcj] at hA
        have ho : ch / 2 ^ j % 2 = 0 ∨ ch / 2 ^ j % 2 = 1 := by omega
        clear hcj
        rcases ho with ho | ho
        · have h5 : (bits BinOp.and IntKind.u32 ((ch : Int) / 2 ^ j) 1 == 1) = false := by rw [hA, ho]; rfl
          have HB2 := Lib.hid HBu.out.skip
          clear hA ho
          go_wp2_with fail
          go_roundw
          case rel => exact ⟨j + 1, L, sm, by omega, by go_num, rfl, rfl, HO.out, HB2.out, hbj⟩
          case measure => simp [intOf]; omega
        · have h5 : (bits BinOp.and IntKind.u32 ((ch : Int) / 2 ^ j) 1 == 1) = true := by rw [hA, ho]; rfl
          have HB2 := Lib.hid (HBu.out.flip hijT hT8)
          have HLn := Lib.hid HBu.out.len
          have hFl := flip_any g6 c6 (i + j) B L wr (by rw [HLn.out]; exact HO.out) (by rw [HLn.out]; omega) (by rw [HLn.out]; omega) (by omega)
          rw [HLn.out, HM.out j hijT, show ((i + j : Nat) : Int) = (i : Int) + (j : Int) from by omega] at hFl
          clear hA ho
          go_wp2_with fail
          refine hFl.mono ?_
          rintro e w7 ⟨rfl, hown7, hgrow7⟩
          have HO7 := Lib.hid hown7
          have hb7 := Lib.hid (hbj.grown hgrow7 (Nat.le_trans hs6 hbj.size) (fun y e => by cases e; exact hg6))
          clear hown7 hgrow7 hFl
          go_wp2_with fail
          go_roundw
          case rel => exact ⟨j + 1, _, false, by omega, by go_num, rfl, rfl, HO7.out, HB2.out, hb7.out⟩
          case measure => simp [intOf]; omega
      · have hend : Hid (isSealed L = sm) := by
          refine HEnd.out L sm ?_
          have h := HBu.out
          exact ⟨h.len, fun q hq => by have := h.near q hq; omega, h.yes, h.no⟩
        have HLn := Lib.hid HBu.out.len
        have hl7 : Lies wr wr.heap.size (some ⟨g3, 0, none⟩) (b.map bv) := (hl6.below hbj).more (Nat.le_trans hs6 hbj.size)
        have hC := csealed_any (some ⟨g3, 0, none⟩) c3 b wr hl7 (by rw [hbl]; exact hcap3.2.1) hcap3.2.2 (by rw [hbl]; omega)
        rw [hbl, hbs] at hC
        have hsB : B ≤ wr.heap.size := Nat.le_trans hs6 hbj.size
        have hcase : (¬ ((j : Int) < 32)) ∨ ((j : Int) < 32 ∧ ¬ ((i : Int) + (j : Int) < (T : Int))) := by omega
        have hsm : (sm == sm) = true := by simp
        clear hl7
        rcases hcase with hc1 | ⟨hc1, hc2⟩
        all_goals
          go_wp2_with fail
          refine hC.mono ?_
          rintro e w8 ⟨rfl, b8⟩
          have ho8 := Lies.own (own_below' HO.out b8)
          have hb8 := HB6.out.trans ((hbj.mono hGB).trans (b8.mono (Nat.le_trans hGB hsB)))
          have hC2 := csealed_any (some ⟨g6, 0, none⟩) c6 L w8 ho8 (by rw [HLn.out]; exact hcap6.2.1) hcap6.2.2 (by rw [HLn.out]; omega)
          rw [HLn.out, hend.out] at hC2
          clear hC ho8 b8
          go_wp2_with fail
          refine hC2.mono ?_
          rintro e w9 ⟨rfl, b9⟩
          have hb9 := hb8.trans (b9.mono hb8.size)
          go_wp2_with fail
          go_ret
          exact ⟨ret_bool (by simp), hb9⟩

theorem law_CrcBursts {H : Type} {enc : TypeId × Value → H} {W : World} {base : Nat} {v0 v1 v2 v3 v4 : Value} {d0 d1 d2 d3 d4 : DataW H} {p0 p1 p2 p3 p4 : List MemPlace}
    (o0 : Value.okWide Try.prog W .any base 37 v0) (h0 : DataW.Trod enc Try.prog W 0 (fun _ => true) true 37 v0 d0 p0) (_s0 : Small Try.prog 37 d0)
    (o1 : Value.okWide Try.prog W .any base 38 v1) (h1 : DataW.Trod enc Try.prog W 0 (fun _ => true) true 38 v1 d1 p1) (_s1 : Small Try.prog 38 d1)
    (o2 : Value.okWide Try.prog W .any base 26 v2) (h2 : DataW.Trod enc Try.prog W 0 (fun _ => true) true 26 v2 d2 p2) (_s2 : Small Try.prog 26 d2)
    (o3 : Value.okWide Try.prog W .any base 26 v3) (h3 : DataW.Trod enc Try.prog W 0 (fun _ => true) true 26 v3 d3 p3) (_s3 : Small Try.prog 26 d3)
    (o4 : Value.okWide Try.prog W .any base 5 v4) (h4 : DataW.Trod enc Try.prog W 0 (fun _ => true) true 5 v4 d4 p4) (_s4 : Small Try.prog 5 d4) :
    Calls Try.prog 6 #[v0, v1, v2, v3, v4] W fun e w' => e = .returned (.bool true) ∧ Below W.heap.size W w' := by
  obtain ⟨z, rfl, _, _, wz⟩ := open_int Try.underlying37 o0 h0
  obtain ⟨n, rfl, _, _, wn⟩ := open_int Try.underlying38 o1 h1
  obtain ⟨x, rfl, _, _, wx⟩ := open_int Try.underlying26 o2 h2
  obtain ⟨y, rfl, _, _, wy⟩ := open_int Try.underlying26 o3 h3
  obtain ⟨pt, rfl, _, _, wc⟩ := open_int Try.underlying5 o4 h4
  have e0 := wf_u32 wx
  have e1 := wf_u32 wy
  have ez : 0 ≤ z ∧ z < 18446744073709551616 := by have := bounds_u64 wz; omega
  have h := crcbursts_any z n pt x.toNat y.toNat W ez (wf_u16 wn) (wf_u8 wc) (by omega) (by omega)
  rw [Int.toNat_of_nonneg e0.1, Int.toNat_of_nonneg e1.1] at h
  exact h
end Go.Proofs.Ytgjedidpimncaaa
