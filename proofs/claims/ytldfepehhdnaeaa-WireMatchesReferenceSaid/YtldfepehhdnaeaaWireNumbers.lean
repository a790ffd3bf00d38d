/- Layer 1, the law WireNumbers: the walk. -/
import Derived.Test.YtldfepehhdnaeaaWireG
import Derived.Test.YtldfepehhdnaeaaWireH
import Derived.Test.YtldfepehhdnaeaaOpen
namespace Go.Proofs.Ytldfepehhdnaeaa
open Go.RowKit Go.ChangeShapes Go.WideShapes Go.ChangeAt

theorem width_nat {k : Int} (h : widthB k = true) : ∃ n : Nat, k = (n : Int) ∧ (n = 1 ∨ n = 2 ∨ n = 4) := by
  simp [widthB] at h
  rcases h with rfl | rfl | rfl
  · exact ⟨1, rfl, .inl rfl⟩
  · exact ⟨2, rfl, .inr (.inl rfl)⟩
  · exact ⟨4, rfl, .inr (.inr rfl)⟩

theorem equal32_nil (w : World) : Calls Try.prog 17 #[.slice none 0 0, .slice none 0 0] w fun e w' => e = .returned (.bool true) ∧ ∃ q, w' = w.drewN q :=
  equal32_any none none 0 0 0 [] [] w Lies.nil Lies.nil (Nat.zero_le _)

/-- too long: the fixed examples again -/
theorem wnumbers_long (k : Int) (A : Option Addr) (n c : Nat) (w : World) (hn : 1000 < n) :
    Calls Try.prog 4 #[.int .i64 k, .slice A n c] w fun e w' => e = .returned (.bool true) ∧ Below w.heap.size w w' := by
  go_enter Try.func4, Try.ntmps4
  go_wp2_with fail
  refine (awake_any w).mono ?_
  rintro e w1 ⟨rfl, b1⟩
  go_wp2_with fail
  refine (awake_any w1).mono ?_
  rintro e w2 ⟨rfl, b2⟩
  go_wp2_with fail
  go_ret
  exact ⟨rfl, b1.trans (b2.mono b1.size)⟩
theorem wnumbers_bad (k : Int) (A : Option Addr) (n c : Nat) (w : World) (hn : n ≤ 1000) (hk : widthB k = false) :
    Calls Try.prog 4 #[.int .i64 k, .slice A n c] w fun e w' => e = .returned (.bool true) ∧ Below w.heap.size w w' := by
  go_enter Try.func4, Try.ntmps4
  go_wp2_with fail
  refine (awake_any w).mono ?_
  rintro e w1 ⟨rfl, b1⟩
  go_wp2_with fail
  refine (numbersF_bad k A n c w1 hk).mono ?_
  rintro e w2 ⟨rfl, rfl⟩
  go_wp2_with fail
  refine (rnumbers_bad k A n c w1 hk).mono ?_
  rintro e w2 ⟨rfl, rfl⟩
  go_wp2_with fail
  refine (equal32_nil w1).mono ?_
  rintro e w2 ⟨rfl, q, h2⟩
  have b2 : Below w.heap.size w w2 := by rw [h2]; exact below_drewN b1 _
  clear h2
  go_wp2_with fail
  refine (right_any k w2).mono ?_
  rintro e w3 ⟨rfl, rfl⟩
  go_wp2_with fail
  go_ret
  exact ⟨rfl, b2⟩
theorem wnumbers_rem (k : Nat) (A : Option Addr) (n c : Nat) (w : World) (hn : n ≤ 1000) (hk : widthB (k : Int) = true) (hm : n % k ≠ 0) :
    Calls Try.prog 4 #[.int .i64 (k : Int), .slice A n c] w fun e w' => e = .returned (.bool true) ∧ Below w.heap.size w w' := by
  have hb : (((n : Int) % (k : Int)) != 0) = true := by
    rw [bne_iff_ne]
    omega
  have hk0 := (width_le hk).1
  have hn2 : n ≤ maxLen := by unfold maxLen; omega
  have HM := Lib.hid hm
  clear hm
  go_enter Try.func4, Try.ntmps4
  go_wp2_with fail
  refine (awake_any w).mono ?_
  rintro e w1 ⟨rfl, b1⟩
  go_wp2_with fail
  refine (numbersF_rem k hk A n c w1 HM.out hn2).mono ?_
  rintro e w2 ⟨rfl, rfl⟩
  go_wp2_with fail
  refine (rnumbers_rem k hk A n c w1 HM.out hn2).mono ?_
  rintro e w2 ⟨rfl, rfl⟩
  go_wp2_with fail
  refine (equal32_nil w1).mono ?_
  rintro e w2 ⟨rfl, q, h2⟩
  have b2 : Below w.heap.size w w2 := by rw [h2]; exact below_drewN b1 _
  clear h2
  go_wp2_with fail
  refine (right_any k w2).mono ?_
  rintro e w3 ⟨rfl, rfl⟩
  go_wp2_with fail
  go_ret
  exact ⟨rfl, b2⟩
theorem wnumbers_good (k : Nat) (hk : k = 1 ∨ k = 2 ∨ k = 4) (A : Option Addr) (c : Nat) (b : List UInt8) (w : World) (h : Lies w w.heap.size A (b.map bv)) (hbc : b.length ≤ c) (hn : b.length ≤ 1000) (hm : b.length % k = 0) :
    Calls Try.prog 4 #[.int .i64 (k : Int), .slice A b.length c] w fun e w' => e = .returned (.bool true) ∧ Below w.heap.size w w' := by
  have hw : widthB (k : Int) = true := by rcases hk with rfl | rfl | rfl <;> rfl
  have hb : (((b.length : Int) % (k : Int)) != 0) = false := by
    rw [bne_eq_false_iff_eq]
    omega
  have hk0 := (width_le hw).1
  have HM := Lib.hid hm
  have HK := Lib.hid hk
  have hq := Nat.div_le_self b.length k
  clear hm hk
  go_enter Try.func4, Try.ntmps4
  go_wp2_with fail
  refine (awake_any w).mono ?_
  rintro e w1 ⟨rfl, b1⟩
  have h1 := (h.below b1).more b1.size
  go_wp2_with fail
  refine (numbersF_any k hw A c b w1 h1 HM.out (by omega) hbc).mono ?_
  rintro e w2 ⟨A2, c2, rfl, own2, b12⟩
  have h2 := (h1.below b12).more b12.size
  have b2 := b1.trans (b12.mono b1.size)
  go_wp2_with fail
  refine (rnumbers_any k hw A c b w2 h2 HM.out (by omega)).mono ?_
  rintro e w3 ⟨A3, c3, rfl, own3, b23⟩
  have h3 := (h2.below b23).more b23.size
  have b3 := b2.trans (b23.mono b2.size)
  have own23 := own_below' own2 b23
  have HL := Lib.hid (nums_len k b)
  go_wp2_with fail
  have he := equal32_any A2 A3 c2 c3 w3.heap.size (nums k b) (nums k b) w3 (Lies.own own23) (Lies.own own3) (by rw [nums_len]; unfold maxLen; omega)
  rw [nums_len, decide_eq_true rfl] at he
  refine he.mono ?_
  rintro e w4 ⟨rfl, q, h4⟩
  have b34 : Below w3.heap.size w3 w4 := by rw [h4]; exact below_drewN (Below.refl _ _) _
  have own4 := own_below' own23 b34
  have hh4 := (h3.below b34).more b34.size
  have b4 := b3.trans (b34.mono b3.size)
  clear h4 he
  go_wp2_with fail
  refine (right_any k w4).mono ?_
  rintro e w5 ⟨rfl, rfl⟩
  go_wp2_with fail
  have hp := put_any k HK.out A2 c2 (nums k b) w4 (Lies.own own4) (by rw [nums_len]; omega)
  have e5 : b.length / k * k = b.length := by rw [Nat.mul_comm]; exact Nat.mul_div_cancel' (Nat.dvd_of_mod_eq_zero HM.out)
  rw [nums_len, e5, puts_nums' HK.out HM.out] at hp
  refine hp.mono ?_
  rintro e w5 ⟨A5, c5, rfl, own5, b45⟩
  have hh5 := (hh4.below b45).more b45.size
  have b5 := b4.trans (b45.mono b4.size)
  clear hp e5
  go_wp2_with fail
  have hs := same_any A5 A c5 c w5.heap.size b b w5 (Lies.own own5) hh5 (by unfold maxLen; omega)
  rw [decide_eq_true rfl] at hs
  refine hs.mono ?_
  rintro e w6 ⟨rfl, q6, h6⟩
  have b6 : Below w.heap.size w w6 := by rw [h6]; exact below_drewN b5 _
  clear h6 hs
  go_wp2_with fail
  go_ret
  exact ⟨rfl, b6⟩

theorem law_WireNumbers {H : Type} {enc : TypeId × Value → H} {W : World} {base : Nat} {v0 v1 : Value} {d0 d1 : DataW H} {p0 p1 : List MemPlace}
    (o0 : Value.okWide Try.prog W .any base 3 v0) (h0 : DataW.Trod enc Try.prog W 0 (fun _ => true) true 3 v0 d0 p0) (_s0 : Small Try.prog 3 d0)
    (o1 : Value.okWide Try.prog W .any base 22 v1) (h1 : DataW.Trod enc Try.prog W 0 (fun _ => true) true 22 v1 d1 p1) (_s1 : Small Try.prog 22 d1) :
    Calls Try.prog 4 #[v0, v1] W fun e w' => e = .returned (.bool true) ∧ Below W.heap.size W w' := by
  obtain ⟨k, rfl, _, _, wk⟩ := open_int Try.underlying3 o0 h0
  obtain ⟨A, n, c, rfl⟩ := okWide_slice Try.underlying22 o1
  obtain ⟨fuel, hf⟩ := h1
  obtain ⟨b, rfl, hl, hc, hcm⟩ := open_bytes Try.underlying22 Try.underlying5 (by kernel_rfl) hf
  by_cases hn : b.length ≤ 1000
  · by_cases hk : widthB k = true
    · obtain ⟨n, rfl, hn3⟩ := width_nat hk
      by_cases hm : b.length % n = 0
      · exact wnumbers_good n hn3 A c b W hl hc hn hm
      · exact wnumbers_rem n A b.length c W hn hk hm
    · exact wnumbers_bad k A b.length c W hn (by simpa using hk)
  · exact wnumbers_long k A b.length c W (by omega)
end Go.Proofs.Ytldfepehhdnaeaa
