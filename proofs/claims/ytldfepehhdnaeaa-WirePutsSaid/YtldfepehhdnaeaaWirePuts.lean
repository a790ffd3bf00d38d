/- Layer 1, the law WirePuts: the walk. -/
import Derived.Test.YtldfepehhdnaeaaWireNumbers
namespace Go.Proofs.Ytldfepehhdnaeaa
open Go.RowKit Go.ChangeShapes Go.WideShapes Go.ChangeAt

theorem wputs_long (k : Int) (A : Option Addr) (n c : Nat) (w : World) (hn : 200 < n) :
    Calls Try.prog 5 #[.int .i64 k, .slice A n c] w fun e w' => e = .returned (.bool true) ∧ Below w.heap.size w w' := by
  go_enter Try.func5, Try.ntmps5
  go_wp2_with fail
  refine (awake_any w).mono ?_
  rintro e w1 ⟨rfl, b1⟩
  go_wp2_with fail
  refine (awake_any w1).mono ?_
  rintro e w2 ⟨rfl, b2⟩
  go_wp2_with fail
  go_ret
  exact ⟨rfl, b1.trans (b2.mono b1.size)⟩
theorem same_nil (w : World) : Calls Try.prog 10 #[.slice none 0 0, .slice none 0 0] w fun e w' => e = .returned (.bool true) ∧ ∃ q, w' = w.drewN q :=
  same_any none none 0 0 0 [] [] w Lies.nil Lies.nil (Nat.zero_le _)
theorem wputs_bad (k : Int) (A : Option Addr) (n c : Nat) (w : World) (hn : n ≤ 200) (hk : widthB k = false) :
    Calls Try.prog 5 #[.int .i64 k, .slice A n c] w fun e w' => e = .returned (.bool true) ∧ Below w.heap.size w w' := by
  go_enter Try.func5, Try.ntmps5
  go_wp2_with fail
  refine (awake_any w).mono ?_
  rintro e w1 ⟨rfl, b1⟩
  go_wp2_with fail
  refine (put_bad k A n c w1 hk).mono ?_
  rintro e w2 ⟨rfl, rfl⟩
  go_wp2_with fail
  refine (rput_bad k A n c w1 hk).mono ?_
  rintro e w2 ⟨rfl, rfl⟩
  go_wp2_with fail
  refine (same_nil w1).mono ?_
  rintro e w2 ⟨rfl, q, h2⟩
  have b2 : Below w.heap.size w w2 := by rw [h2]; exact below_drewN b1 _
  clear h2
  go_wp2_with fail
  refine (right_any k w2).mono ?_
  rintro e w3 ⟨rfl, rfl⟩
  go_wp2_with fail
  go_ret
  exact ⟨rfl, b2⟩
theorem wputs_good1 (A : Option Addr) (c : Nat) (l : List UInt32) (w : World) (h : Lies w w.heap.size A (l.map uv)) (hn : l.length ≤ 200) :
    Calls Try.prog 5 #[.int .i64 1, .slice A l.length c] w fun e w' => e = .returned (.bool true) ∧ Below w.heap.size w w' := by
  have hlen := puts_len 1 l
  rw [Nat.mul_one] at hlen
  have hm : (puts 1 l).length % 1 = 0 := by rw [hlen]; omega
  have hd : (puts 1 l).length / 1 = l.length := by rw [hlen]; omega
  have HL := Lib.hid hlen
  have HD := Lib.hid hd
  have HM := Lib.hid hm
  clear hlen hd hm
  go_enter Try.func5, Try.ntmps5
  go_wp2_with fail
  refine (awake_any w).mono ?_
  rintro e w1 ⟨rfl, b1⟩
  have h1 := (h.below b1).more b1.size
  go_wp2_with fail
  have hp1 := put_any 1 (by decide) A c l w1 h1 (by omega)
  rw [Nat.mul_one] at hp1
  refine hp1.mono ?_
  rintro e w2 ⟨A2, c2, rfl, own2, b12⟩
  have h2 := (h1.below b12).more b12.size
  have b2 := b1.trans (b12.mono b1.size)
  clear hp1
  go_wp2_with fail
  have hp2 := rput_any 1 (by decide) A c l w2 h2 (by omega)
  rw [Nat.mul_one] at hp2
  refine hp2.mono ?_
  rintro e w3 ⟨A3, c3, rfl, own3, b23⟩
  have h3 := (h2.below b23).more b23.size
  have b3 := b2.trans (b23.mono b2.size)
  have own23 := own_below' own2 b23
  clear hp2
  go_wp2_with fail
  have he := same_any A2 A3 c2 c3 w3.heap.size (puts 1 l) (puts 1 l) w3 (Lies.own own23) (Lies.own own3) (by rw [HL.out]; unfold maxLen; omega)
  rw [HL.out, decide_eq_true rfl] at he
  refine he.mono ?_
  rintro e w4 ⟨rfl, q, h4⟩
  have b34 : Below w3.heap.size w3 w4 := by rw [h4]; exact below_drewN (Below.refl _ _) _
  have own4 := own_below' own23 b34
  have hh4 := (h3.below b34).more b34.size
  have b4 := b3.trans (b34.mono b3.size)
  clear h4 he
  go_wp2_with fail
  refine (right_any 1 w4).mono ?_
  rintro e w5 ⟨rfl, rfl⟩
  have hr : widthB 1 = true := rfl
  go_wp2_with fail
  have hp := numbersF_any 1 rfl A2 c2 (puts 1 l) w4 (Lies.own own4) HM.out (by rw [HL.out]; omega) (by rw [HL.out]; exact (own_cap own4).2.1)
  rw [HD.out, HL.out] at hp
  refine hp.mono ?_
  rintro e w5 ⟨A5, c5, rfl, own5, b45⟩
  have hh5 := (hh4.below b45).more b45.size
  have b5 := b4.trans (b45.mono b4.size)
  have hb5 : Lies w5 w5.heap.size A5 ((nums 1 (puts 1 l)).map uv) := Lies.own own5
  have hnl : (nums 1 (puts 1 l)).length = l.length := by rw [nums_len]; exact HD.out
  have HNL := Lib.hid hnl
  have hat : ∀ (i : Nat) (x : UInt32), l[i]? = some x → ∃ y, (nums 1 (puts 1 l))[i]? = some y ∧ y.toNat = x.toNat % 256 := by
    intro i x hx
    have hi : i < l.length := (List.getElem?_eq_some_iff.1 hx).1
    refine ⟨numAt 1 (puts 1 l) i, by simp [nums, HD.out, hi], ?_⟩
    rw [numAt_puts (by decide) hx]
  have HA := Lib.hid hat
  clear hp hnl hat
  generalize nums 1 (puts 1 l) = back at *
  have hneq : ((l.length : Int) != (l.length : Int)) = false := by simp
  go_wp2
  go_loopw [7] (fun i wr => ∃ j q : Nat, j ≤ l.length ∧ i = .int .i64 j ∧ wr = w5.drewN q) (fun i _ => l.length - (intOf i).toNat)
  case atStart => exact ⟨0, 0, Nat.zero_le _, rfl, rfl⟩
  case round =>
    obtain ⟨j, q, hj, rfl, rfl⟩ := hrel
    by_cases hlt : j < l.length
    · obtain ⟨ad, x, rfl, _, hx, hc⟩ := hh5.word hlt
      obtain ⟨ad', y, rfl, _, hy, hc'⟩ := hb5.word (k := j) (by have := HNL.out; omega)
      have hi1 : (j : Int) < (l.length : Int) := by omega
      obtain ⟨y', hy1, hy2⟩ := HA.out j x hx.out
      have hyy : y.toNat = x.toNat % 256 := by
        have := hy.out
        rw [hy1] at this
        rw [← Option.some.inj this, hy2]
      have hxl := x.toNat_lt
      have hne : ((y.toNat : Int) != (x.toNat : Int) % 256) = false := by rw [bne_eq_false_iff_eq]; omega
      clear hyy hxl hy1 hy2
      go_wp2
      go_quiet (fail)
      go_wp2
      go_roundw
      case rel => exact ⟨j + 1, q + nq, by omega, by go_num, by simp⟩
      case measure => simp [intOf]; omega
    · go_wp2
      go_ret
      exact ⟨rfl, below_drewN b5 _⟩
theorem wputs_good2 (A : Option Addr) (c : Nat) (l : List UInt32) (w : World) (h : Lies w w.heap.size A (l.map uv)) (hn : l.length ≤ 200) :
    Calls Try.prog 5 #[.int .i64 2, .slice A l.length c] w fun e w' => e = .returned (.bool true) ∧ Below w.heap.size w w' := by
  have hlen := puts_len 2 l
  have hm : (puts 2 l).length % 2 = 0 := by rw [hlen]; omega
  have hd : (puts 2 l).length / 2 = l.length := by rw [hlen]; omega
  have HL := Lib.hid hlen
  have HD := Lib.hid hd
  have HM := Lib.hid hm
  clear hlen hd hm
  go_enter Try.func5, Try.ntmps5
  go_wp2_with fail
  refine (awake_any w).mono ?_
  rintro e w1 ⟨rfl, b1⟩
  have h1 := (h.below b1).more b1.size
  go_wp2_with fail
  have hp1 := put_any 2 (by decide) A c l w1 h1 (by omega)
  refine hp1.mono ?_
  rintro e w2 ⟨A2, c2, rfl, own2, b12⟩
  have h2 := (h1.below b12).more b12.size
  have b2 := b1.trans (b12.mono b1.size)
  clear hp1
  go_wp2_with fail
  have hp2 := rput_any 2 (by decide) A c l w2 h2 (by omega)
  refine hp2.mono ?_
  rintro e w3 ⟨A3, c3, rfl, own3, b23⟩
  have h3 := (h2.below b23).more b23.size
  have b3 := b2.trans (b23.mono b2.size)
  have own23 := own_below' own2 b23
  clear hp2
  go_wp2_with fail
  have he := same_any A2 A3 c2 c3 w3.heap.size (puts 2 l) (puts 2 l) w3 (Lies.own own23) (Lies.own own3) (by rw [HL.out]; unfold maxLen; omega)
  rw [HL.out, decide_eq_true rfl] at he
  refine he.mono ?_
  rintro e w4 ⟨rfl, q, h4⟩
  have b34 : Below w3.heap.size w3 w4 := by rw [h4]; exact below_drewN (Below.refl _ _) _
  have own4 := own_below' own23 b34
  have hh4 := (h3.below b34).more b34.size
  have b4 := b3.trans (b34.mono b3.size)
  clear h4 he
  go_wp2_with fail
  refine (right_any 2 w4).mono ?_
  rintro e w5 ⟨rfl, rfl⟩
  have hr : widthB 2 = true := rfl
  go_wp2_with fail
  have hp := numbersF_any 2 rfl A2 c2 (puts 2 l) w4 (Lies.own own4) HM.out (by rw [HL.out]; omega) (by rw [HL.out]; exact (own_cap own4).2.1)
  rw [HD.out, HL.out] at hp
  refine hp.mono ?_
  rintro e w5 ⟨A5, c5, rfl, own5, b45⟩
  have hh5 := (hh4.below b45).more b45.size
  have b5 := b4.trans (b45.mono b4.size)
  have hb5 : Lies w5 w5.heap.size A5 ((nums 2 (puts 2 l)).map uv) := Lies.own own5
  have hnl : (nums 2 (puts 2 l)).length = l.length := by rw [nums_len]; exact HD.out
  have HNL := Lib.hid hnl
  have hat : ∀ (i : Nat) (x : UInt32), l[i]? = some x → ∃ y, (nums 2 (puts 2 l))[i]? = some y ∧ y.toNat = x.toNat % 65536 := by
    intro i x hx
    have hi : i < l.length := (List.getElem?_eq_some_iff.1 hx).1
    refine ⟨numAt 2 (puts 2 l) i, by simp [nums, HD.out, hi], ?_⟩
    rw [numAt_puts (by decide) hx]
  have HA := Lib.hid hat
  clear hp hnl hat
  generalize nums 2 (puts 2 l) = back at *
  have hneq : ((l.length : Int) != (l.length : Int)) = false := by simp
  go_wp2
  go_loopw [7] (fun i wr => ∃ j q : Nat, j ≤ l.length ∧ i = .int .i64 j ∧ wr = w5.drewN q) (fun i _ => l.length - (intOf i).toNat)
  case atStart => exact ⟨0, 0, Nat.zero_le _, rfl, rfl⟩
  case round =>
    obtain ⟨j, q, hj, rfl, rfl⟩ := hrel
    by_cases hlt : j < l.length
    · obtain ⟨ad, x, rfl, _, hx, hc⟩ := hh5.word hlt
      obtain ⟨ad', y, rfl, _, hy, hc'⟩ := hb5.word (k := j) (by have := HNL.out; omega)
      have hi1 : (j : Int) < (l.length : Int) := by omega
      obtain ⟨y', hy1, hy2⟩ := HA.out j x hx.out
      have hyy : y.toNat = x.toNat % 65536 := by
        have := hy.out
        rw [hy1] at this
        rw [← Option.some.inj this, hy2]
      have hxl := x.toNat_lt
      have hne : ((y.toNat : Int) != (x.toNat : Int) % 65536) = false := by rw [bne_eq_false_iff_eq]; omega
      clear hyy hxl hy1 hy2
      go_wp2
      go_quiet (fail)
      go_wp2
      go_roundw
      case rel => exact ⟨j + 1, q + nq, by omega, by go_num, by simp⟩
      case measure => simp [intOf]; omega
    · go_wp2
      go_ret
      exact ⟨rfl, below_drewN b5 _⟩
theorem wputs_good4 (A : Option Addr) (c : Nat) (l : List UInt32) (w : World) (h : Lies w w.heap.size A (l.map uv)) (hn : l.length ≤ 200) :
    Calls Try.prog 5 #[.int .i64 4, .slice A l.length c] w fun e w' => e = .returned (.bool true) ∧ Below w.heap.size w w' := by
  have hlen := puts_len 4 l
  have hm : (puts 4 l).length % 4 = 0 := by rw [hlen]; omega
  have hd : (puts 4 l).length / 4 = l.length := by rw [hlen]; omega
  have HL := Lib.hid hlen
  have HD := Lib.hid hd
  have HM := Lib.hid hm
  clear hlen hd hm
  go_enter Try.func5, Try.ntmps5
  go_wp2_with fail
  refine (awake_any w).mono ?_
  rintro e w1 ⟨rfl, b1⟩
  have h1 := (h.below b1).more b1.size
  go_wp2_with fail
  have hp1 := put_any 4 (by decide) A c l w1 h1 (by omega)
  refine hp1.mono ?_
  rintro e w2 ⟨A2, c2, rfl, own2, b12⟩
  have h2 := (h1.below b12).more b12.size
  have b2 := b1.trans (b12.mono b1.size)
  clear hp1
  go_wp2_with fail
  have hp2 := rput_any 4 (by decide) A c l w2 h2 (by omega)
  refine hp2.mono ?_
  rintro e w3 ⟨A3, c3, rfl, own3, b23⟩
  have h3 := (h2.below b23).more b23.size
  have b3 := b2.trans (b23.mono b2.size)
  have own23 := own_below' own2 b23
  clear hp2
  go_wp2_with fail
  have he := same_any A2 A3 c2 c3 w3.heap.size (puts 4 l) (puts 4 l) w3 (Lies.own own23) (Lies.own own3) (by rw [HL.out]; unfold maxLen; omega)
  rw [HL.out, decide_eq_true rfl] at he
  refine he.mono ?_
  rintro e w4 ⟨rfl, q, h4⟩
  have b34 : Below w3.heap.size w3 w4 := by rw [h4]; exact below_drewN (Below.refl _ _) _
  have own4 := own_below' own23 b34
  have hh4 := (h3.below b34).more b34.size
  have b4 := b3.trans (b34.mono b3.size)
  clear h4 he
  go_wp2_with fail
  refine (right_any 4 w4).mono ?_
  rintro e w5 ⟨rfl, rfl⟩
  have hr : widthB 4 = true := rfl
  go_wp2_with fail
  have hp := numbersF_any 4 rfl A2 c2 (puts 4 l) w4 (Lies.own own4) HM.out (by rw [HL.out]; omega) (by rw [HL.out]; exact (own_cap own4).2.1)
  rw [HD.out, HL.out] at hp
  refine hp.mono ?_
  rintro e w5 ⟨A5, c5, rfl, own5, b45⟩
  have hh5 := (hh4.below b45).more b45.size
  have b5 := b4.trans (b45.mono b4.size)
  have hb5 : Lies w5 w5.heap.size A5 ((nums 4 (puts 4 l)).map uv) := Lies.own own5
  have hnl : (nums 4 (puts 4 l)).length = l.length := by rw [nums_len]; exact HD.out
  have HNL := Lib.hid hnl
  have hat : ∀ (i : Nat) (x : UInt32), l[i]? = some x → ∃ y, (nums 4 (puts 4 l))[i]? = some y ∧ y.toNat = x.toNat % 4294967296 := by
    intro i x hx
    have hi : i < l.length := (List.getElem?_eq_some_iff.1 hx).1
    refine ⟨numAt 4 (puts 4 l) i, by simp [nums, HD.out, hi], ?_⟩
    rw [numAt_puts (by decide) hx]
  have HA := Lib.hid hat
  clear hp hnl hat
  generalize nums 4 (puts 4 l) = back at *
  have hneq : ((l.length : Int) != (l.length : Int)) = false := by simp
  go_wp2
  go_loopw [7] (fun i wr => ∃ j q : Nat, j ≤ l.length ∧ i = .int .i64 j ∧ wr = w5.drewN q) (fun i _ => l.length - (intOf i).toNat)
  case atStart => exact ⟨0, 0, Nat.zero_le _, rfl, rfl⟩
  case round =>
    obtain ⟨j, q, hj, rfl, rfl⟩ := hrel
    by_cases hlt : j < l.length
    · obtain ⟨ad, x, rfl, _, hx, hc⟩ := hh5.word hlt
      obtain ⟨ad', y, rfl, _, hy, hc'⟩ := hb5.word (k := j) (by have := HNL.out; omega)
      have hi1 : (j : Int) < (l.length : Int) := by omega
      obtain ⟨y', hy1, hy2⟩ := HA.out j x hx.out
      have hyy : y.toNat = x.toNat % 4294967296 := by
        have := hy.out
        rw [hy1] at this
        rw [← Option.some.inj this, hy2]
      have hxl := x.toNat_lt
      have hne : ((y.toNat : Int) != (x.toNat : Int)) = false := by rw [bne_eq_false_iff_eq]; omega
      clear hyy hxl hy1 hy2
      go_wp2
      go_quiet (fail)
      go_wp2
      go_roundw
      case rel => exact ⟨j + 1, q + nq, by omega, by go_num, by simp⟩
      case measure => simp [intOf]; omega
    · go_wp2
      go_ret
      exact ⟨rfl, below_drewN b5 _⟩

theorem law_WirePuts {H : Type} {enc : TypeId × Value → H} {W : World} {base : Nat} {v0 v1 : Value} {d0 d1 : DataW H} {p0 p1 : List MemPlace}
    (o0 : Value.okWide Try.prog W .any base 3 v0) (h0 : DataW.Trod enc Try.prog W 0 (fun _ => true) true 3 v0 d0 p0) (_s0 : Small Try.prog 3 d0)
    (o1 : Value.okWide Try.prog W .any base 38 v1) (h1 : DataW.Trod enc Try.prog W 0 (fun _ => true) true 38 v1 d1 p1) (_s1 : Small Try.prog 38 d1) :
    Calls Try.prog 5 #[v0, v1] W fun e w' => e = .returned (.bool true) ∧ Below W.heap.size W w' := by
  obtain ⟨k, rfl, _, _, wk⟩ := open_int Try.underlying3 o0 h0
  obtain ⟨A, n, c, rfl⟩ := okWide_slice Try.underlying38 o1
  obtain ⟨fuel, hf⟩ := h1
  obtain ⟨l, rfl, hl, hc, hcm⟩ := open_words Try.underlying38 Try.underlying32 (by kernel_rfl) hf
  by_cases hn : l.length ≤ 200
  · by_cases hk : widthB k = true
    · obtain ⟨n, rfl, hn3⟩ := width_nat hk
      rcases hn3 with rfl | rfl | rfl
      · exact wputs_good1 A c l W hl hn
      · exact wputs_good2 A c l W hl hn
      · exact wputs_good4 A c l W hl hn
    · exact wputs_bad k A l.length c W hn (by simpa using hk)
  · exact wputs_long k A l.length c W (by omega)
end Go.Proofs.Ytldfepehhdnaeaa
