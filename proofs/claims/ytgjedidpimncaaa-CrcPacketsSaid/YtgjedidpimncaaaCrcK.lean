/- Layer 5, the law CrcPackets: the walk. -/
import Derived.Test.YtgjedidpimncaaaCrcJ
import Derived.Test.YtgjedidpimncaaaOpen
namespace Go.Proofs.Ytgjedidpimncaaa
open Go.RowKit Go.ChangeShapes Go.WideShapes Go.ChangeAt

theorem same_lies (A A' : Option Addr) (c c' B n : Nat) (a : List UInt8) (w : World) (ha : Lies w B A (a.map bv)) (hb : Lies w B A' (a.map bv)) (hn : a.length = n) (hm : n ≤ 10000000) :
    Calls Try.prog 17 #[.slice A n c, .slice A' n c'] w fun e w' => e = .returned (.bool true) ∧ Below w.heap.size w w' := by
  subst hn
  refine (same_any A A' c c' B a a w ha hb (by unfold maxLen; omega)).mono ?_
  rintro e w' ⟨rfl, q, rfl⟩
  exact ⟨ret_bool (by simp), below_drewN (Below.refl _ _) _⟩
theorem packets_any (A : Option Addr) (c : Nat) (b : List UInt8) (w : World) (h : Lies w w.heap.size A (b.map bv)) :
    Calls Try.prog 4 #[.slice A b.length c] w fun e w' => e = .returned (.bool true) ∧ Below w.heap.size w w' := by
  by_cases hsm : b.length ≤ 2000
  · have ho1 := one_bytes b
    go_enter Try.func4, Try.ntmps4
    go_wp2_with fail
    refine (awake_any w).mono ?_
    rintro e w1 ⟨rfl, b1⟩
    have hl1 := (h.below b1).more b1.size
    go_wp2_with (at_builtin; refine wpList_append_lies _ rfl (.tmp 16) (.tmp 17) 24 rfl w1.heap.size 5 _ 1 Try.underlying24 u8info rfl _ 0 [] rfl (own_empty w1 w1.heap.size (Nat.le_refl _)) _ A b.length c _ rfl (by simp) (hl1.alloc (Nat.le_refl _) _) ho1 (by omega) (by unfold maxLen; omega) (by simp) ?_; intro A2 c2 w2 hown' hgrow _; have hown : w2.ownsRow w1.heap.size 5 1 (.slice A2 b.length c2) b.length (b.map bv) := (by simpa using hown'); clear hown')
    have b12 : Below w1.heap.size w1 w2 := ((Below.refl _ w1).alloc (Nat.le_refl _) _).grown hgrow (by simp) (fun j e => by cases e; exact Nat.le_refl _)
    have hl2 := (hl1.below b12).more b12.size
    have b2 := b1.trans (b12.mono b1.size)
    have hcap := own_cap hown
    have ho2 := Lies.own hown
    have hc2 : b.length ≤ c2 := hcap.2.1
    have hc2m : c2 ≤ maxLen := hcap.2.2
    clear hown hgrow hcap b1 b12 hl1 h
    by_cases h12 : 12 ≤ b.length
    · have HLn := Lib.hid (sealL_len b)
      have HSd := Lib.hid (sealL_sealed h12)
      have hlt12 : ¬ ((b.length : Int) < 12) := by omega
      refine (packet_any A2 c2 b w2 ho2 hc2 hc2m h12 (by omega)).mono ?_
      rintro e w3 ⟨rfl, b23⟩
      have b3 := b2.trans (b23.mono b2.size)
      have hl3 := (hl2.below b23).more b23.size
      have ho3 := (ho2.below b23).more b23.size
      clear b2 b23 hl2 ho2
      go_wp2_with fail
      refine (seal_any A2 c2 b w3 ho3 hc2 hc2m h12 (by omega)).mono ?_
      rintro e w4 ⟨A4, c4, rfl, hown4, b34⟩
      have b4 := b3.trans (b34.mono b3.size)
      have hl4 := (hl3.below b34).more b34.size
      have ho4 := (ho3.below b34).more b34.size
      have hcap4 := own_cap hown4
      have hs4 := Lies.own hown4
      clear b3 b34 hl3 ho3 hown4
      go_wp2_with fail
      refine (csealed_any A2 c2 b w4 ho4 hc2 hc2m (by omega)).mono ?_
      rintro e w5 ⟨rfl, b45⟩
      have b5 := b4.trans (b45.mono b4.size)
      have hl5 := (hl4.below b45).more b45.size
      have ho5 := (ho4.below b45).more b45.size
      have hs5 := (hs4.below b45).more b45.size
      clear b4 b45 hl4 ho4 hs4
      have hRS := rsealed_any A c b w5 hl5 (by omega)
      generalize isSealed b = sd at *
      go_wp2_with fail
      refine hRS.mono ?_
      rintro e w6 ⟨rfl, b56⟩
      have b6 := b5.trans (b56.mono b5.size)
      have hl6 := (hl5.below b56).more b56.size
      have ho6 := (ho5.below b56).more b56.size
      have hs6 := (hs5.below b56).more b56.size
      have hne : (sd != sd) = false := by simp
      clear b5 b56 hl5 ho5 hs5 hRS
      go_wp2_with fail
      refine (same_lies A2 A c2 c _ b.length b w6 ho6 hl6 rfl (by omega)).mono ?_
      rintro e w7 ⟨rfl, b67⟩
      have b7 := b6.trans (b67.mono b6.size)
      have hl7 := (hl6.below b67).more b67.size
      have hs7 := (hs6.below b67).more b67.size
      clear b6 b67 hl6 ho6 hs6
      have hRP := rpacket_any A c b w7 hl7 h12 (by omega)
      go_wp2_with fail
      refine hRP.mono ?_
      rintro e w8 ⟨rfl, b78⟩
      have b8 := b7.trans (b78.mono b7.size)
      have hl8 := (hl7.below b78).more b78.size
      have hs8 := (hs7.below b78).more b78.size
      clear b7 b78 hl7 hs7 hRP
      have hRS := rseal_any A c b w8 hl8 h12 (by omega)
      go_wp2_with fail
      refine hRS.mono ?_
      rintro e w9 ⟨g, c9, rfl, hown9, _, b89⟩
      have b9 := b8.trans (b89.mono b8.size)
      have hs9 := (hs8.below b89).more b89.size
      have hr9 := Lies.own hown9
      clear b8 b89 hl8 hs8 hRS hown9
      go_wp2_with fail
      refine (same_lies A4 _ c4 c9 _ b.length (sealL b) w9 hs9 hr9 HLn.out (by omega)).mono ?_
      rintro e w10 ⟨rfl, b910⟩
      have b10 := b9.trans (b910.mono b9.size)
      have hs10 := (hs9.below b910).more b910.size
      have hC := csealed_any A4 c4 (sealL b) w10 hs10 (by rw [HLn.out]; exact hcap4.2.1) hcap4.2.2 (by rw [HLn.out]; omega)
      rw [HLn.out, HSd.out] at hC
      clear b9 b910 hs9 hr9
      go_wp2_with fail
      refine hC.mono ?_
      rintro e w11 ⟨rfl, b1011⟩
      go_wp2_with fail
      go_ret
      exact ⟨rfl, b10.trans (b1011.mono b10.size)⟩
    · have hlt12 : (b.length : Int) < 12 := by omega
      refine (packet_no A2 c2 b.length w2 (by omega)).mono ?_
      rintro e w3 ⟨rfl, rfl⟩
      go_wp2_with fail
      refine (seal_no A2 c2 b.length w2 (by omega)).mono ?_
      rintro e w3 ⟨rfl, rfl⟩
      go_wp2_with fail
      refine (csealed_any A2 c2 b w2 ho2 hc2 hc2m (by omega)).mono ?_
      rintro e w5 ⟨rfl, b45⟩
      have b5 := b2.trans (b45.mono b2.size)
      have hl5 := (hl2.below b45).more b45.size
      have ho5 := (ho2.below b45).more b45.size
      clear b2 b45 hl2 ho2
      have hRS := rsealed_any A c b w5 hl5 (by omega)
      generalize isSealed b = sd at *
      go_wp2_with fail
      refine hRS.mono ?_
      rintro e w6 ⟨rfl, b56⟩
      have b6 := b5.trans (b56.mono b5.size)
      have hl6 := (hl5.below b56).more b56.size
      have ho6 := (ho5.below b56).more b56.size
      have hne : (sd != sd) = false := by simp
      clear b5 b56 hl5 ho5 hRS
      go_wp2_with fail
      refine (same_lies A2 A c2 c _ b.length b w6 ho6 hl6 rfl (by omega)).mono ?_
      rintro e w7 ⟨rfl, b67⟩
      go_wp2_with fail
      go_ret
      exact ⟨rfl, b6.trans (b67.mono b6.size)⟩
  · have hgt : (2000 : Int) < b.length := by omega
    go_enter Try.func4, Try.ntmps4
    go_wp2_with fail
    refine (awake_any w).mono ?_
    rintro e w1 ⟨rfl, b1⟩
    go_wp2_with fail
    refine (awake_any w1).mono ?_
    rintro e w2 ⟨rfl, b2⟩
    go_wp2_with fail
    go_ret
    exact ⟨rfl, b1.trans (b2.mono b1.size)⟩

theorem law_CrcPackets {H : Type} {enc : TypeId × Value → H} {W : World} {base : Nat} {v0 : Value} {d0 : DataW H} {p0 : List MemPlace}
    (o0 : Value.okWide Try.prog W .any base 24 v0) (h0 : DataW.Trod enc Try.prog W 0 (fun _ => true) true 24 v0 d0 p0) (_s0 : Small Try.prog 24 d0) :
    Calls Try.prog 4 #[v0] W fun e w' => e = .returned (.bool true) ∧ Below W.heap.size W w' := by
  obtain ⟨A, n, c, rfl⟩ := okWide_slice Try.underlying24 o0
  obtain ⟨fuel, hf⟩ := h0
  obtain ⟨a, rfl, hl, hc, hcm⟩ := open_bytes Try.underlying24 Try.underlying5 (by kernel_rfl) hf
  exact packets_any A c a W hl
end Go.Proofs.Ytgjedidpimncaaa
