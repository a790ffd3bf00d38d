/- Layer 5, the law CrcMatchesReference: the walk. -/
import Derived.Test.YtgjedidpimncaaaCrcJ
import Derived.Test.YtgjedidpimncaaaBulk
namespace Go.Proofs.Ytgjedidpimncaaa
open Go.RowKit Go.ChangeShapes Go.WideShapes Go.ChangeAt

theorem Parts.moved {w w' : World} {A : Option Addr} {vs : List Value} {ps : List (List UInt8)} (h : Parts w w.heap.size A vs ps) (hb : Below w.heap.size w w') : Parts w' w'.heap.size A vs ps :=
  (h.below hb).more hb.size
theorem crcmatch_any (A : Option Addr) (c : Nat) (vs : List Value) (ps : List (List UInt8)) (w : World) (h : Parts w w.heap.size A vs ps) (ht : tot ps ≤ 1048576) (hn : ps.length ≤ maxLen) :
    Calls Try.prog 3 #[.slice A ps.length c] w fun e w' => e = .returned (.bool true) ∧ Below w.heap.size w w' := by
  by_cases h20 : ps.length ≤ 20
  · have hn20 : ¬ (20 < (ps.length : Int)) := by omega
    go_enter Try.func3, Try.ntmps3
    go_wp2_with fail
    refine (awake_any w).mono ?_
    rintro e w1 ⟨rfl, b1⟩
    have h1 := h.moved b1
    clear h
    go_wp2_with fail
    refine (rjoin_any A c vs ps w1 h1 hn (by omega)).mono ?_
    rintro e w2 ⟨A2, c2, rfl, hown, b12⟩
    have h2 := h1.moved b12
    have b2 := b1.trans (b12.mono b1.size)
    have hl2 := Lies.own hown
    clear b1 b12 h1 hown
    by_cases hl : tot ps ≤ 200
    · have hl200 : ¬ (200 < (tot ps : Int)) := by omega
      have hq : tot ps = ps.flatten.length := rfl
      have hS := fun w h2 => sum_any A c vs ps w h2 (by omega) (by omega)
      have hR := rsum_any A2 c2 ps.flatten w2 hl2 (by rw [← hq]; omega)
      have hSl := fun w hl2 => slow_any A2 c2 ps.flatten w hl2 (by rw [← hq]; omega)
      have hF := fun w B hl2 => rfast_any A2 c2 B ps.flatten w hl2 (by rw [← hq]; omega)
      rw [← hq] at hR hSl hF
      clear hq
      generalize crcN ps.flatten = x at *
      have hxx : ((x : Int) == (x : Int)) = true := by simp
      go_wp2_with fail
      refine hR.mono ?_
      rintro e w3 ⟨rfl, b23⟩
      have h3 := h2.moved b23
      have hl3 := (hl2.below b23).more b23.size
      have b3 := b2.trans (b23.mono b2.size)
      clear b2 b23 h2 hl2 hR
      go_wp2_with fail
      refine (hS w3 h3).mono ?_
      rintro e w4 ⟨rfl, b34⟩
      have hl4 := (hl3.below b34).more b34.size
      have b4 := b3.trans (b34.mono b3.size)
      clear b3 b34 h3 hl3 hS
      go_wp2_with fail
      refine (hSl w4 hl4).mono ?_
      rintro e w5 ⟨rfl, b45⟩
      have hl5 := (hl4.below b45).more b45.size
      have b5 := b4.trans (b45.mono b4.size)
      clear b4 b45 hl4 hSl
      go_wp2_with fail
      refine (hF w5 _ hl5).mono ?_
      rintro e w6 ⟨rfl, rfl⟩
      go_wp2_with fail
      go_ret
      exact ⟨rfl, b5⟩
    · have hl200 : 200 < (tot ps : Int) := by omega
      go_wp2_with fail
      go_ret
      exact ⟨rfl, b2⟩
  · have hn20 : 20 < (ps.length : Int) := by omega
    go_enter Try.func3, Try.ntmps3
    go_wp2_with fail
    refine (awake_any w).mono ?_
    rintro e w1 ⟨rfl, b1⟩
    go_wp2_with fail
    refine (awake_any w1).mono ?_
    rintro e w2 ⟨rfl, b2⟩
    go_wp2_with fail
    go_ret
    exact ⟨rfl, b1.trans (b2.mono b1.size)⟩

theorem law_CrcMatchesReference {H : Type} {enc : TypeId × Value → H} {W : World} {base : Nat} {v0 : Value} {d0 : DataW H} {p0 : List MemPlace}
    (o0 : Value.okWide Try.prog W .any base 22 v0) (h0 : DataW.Trod enc Try.prog W 0 (fun _ => true) true 22 v0 d0 p0) (_s0 : Small Try.prog 22 d0)
    (hk : Rows.uptoBulkAll [d0] ≤ 1048576) :
    Calls Try.prog 3 #[v0] W fun e w' => e = .returned (.bool true) ∧ Below W.heap.size W w' := by
  obtain ⟨A, n, c, rfl⟩ := okWide_slice Try.underlying22 o0
  obtain ⟨fuel, hf⟩ := h0
  simp only [Rows.uptoBulkAll] at hk
  obtain ⟨vs, ps, rfl, hp, hc, hcm, ht⟩ := open_parts_bulk hf (N := 1048576) (by omega)
  exact crcmatch_any A c vs ps W hp ht (by omega)
end Go.Proofs.Ytgjedidpimncaaa
