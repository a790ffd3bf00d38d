/- Layer 10: the law CauseValues. It writes nothing that was there. -/
import Derived.Test.YtdnilbebdgohnaaCauseGK
import Derived.Test.YtdnilbebdgohnaaCauseO
import Derived.Test.YtdnilbebdgohnaaCauseH
import Derived.Test.YtdnilbebdgohnaaNodeUO
import Derived.Test.YtdnilbebdgohnaaNodeRW





namespace Go.Proofs.Ytdnilbebdgohnaa
open Go.ChangeShapes Go.WideShapes Go.ChangeAt Go.RowKit

theorem value10_all (n : Nd) (A : Option Addr) (c : Nat) (K : Option Addr) (k : Nat) (w : World) (hN : Node w w.heap.size A c K k n) (hf : Fine n) :
    Calls Try.prog 13 #[ndV n A c K k] w fun e w' => e = .returned (.tuple #[.int .u32 (((valO n).getD 0 : Nat) : Int), .bool (valO n).isSome]) ∧ Below w.heap.size w w' := by
  cases hok : okC numT n with
  | true =>
    have h := hok
    rw [okC_num] at h
    exact value10_yes n A c K k w hN hf hok (of_decide_eq_true h).2.1
  | false =>
    have e : valO n = none := by unfold valO; rw [hok]; rfl
    rw [e]
    exact value10_no n A c K k w hN hf hok
set_option maxRecDepth 100000 in
set_option maxHeartbeats 4000000 in
theorem cv_law (n : Nd) (A : Option Addr) (c : Nat) (K : Option Addr) (k : Nat) (w : World) (hN : Node w w.heap.size A c K k n) (hb : Bnd n) :
    Calls Try.prog 4 #[ndV n A c K k] w fun e w' => e = .returned (.bool true) ∧ Below w.heap.size w w' := by
  unfold ndV
  have b0 : Below w.heap.size w (w.alloc (.cells #[hv n.t, .slice A n.v.length c, .slice K n.ks.length k] 28)) := (Below.refl _ _).alloc (Nat.le_refl _) _
  have x0 : NdBox (w.alloc (.cells #[hv n.t, .slice A n.v.length c, .slice K n.ks.length k] 28)) w.heap.size n A c K k := Whole.new w 28 #[hv n.t, .slice A n.v.length c, .slice K n.ks.length k]
  have hN0 := hN.on b0
  have HBD := Lib.hid hb
  have HB := Lib.hid b0
  clear hN hb
  go_enter Try.func4, Try.ntmps4
  go_upto_region 1 with fail
  generalize w.alloc (.cells #[hv n.t, .slice A n.v.length c, .slice K n.ks.length k] 28) = w0 at *
  clear b0
  go_wp2_with fail
  refine (awake10_any w0).mono ?_
  rintro e w1 ⟨rfl, b1⟩
  have x1 := x0.below b1
  have hN1 := hN0.on b1
  have B1 := HB.out.trans (b1.mono HB.out.size)
  have hF1 := few_one n A c K k w1 hN1 HBD.out
  have s0 := x1.c0
  have s1 := x1.c1
  have s2 := x1.c2
  cases hca : decide (cnt 21 [n] ≤ 200) with
  | false =>
    rw [hca] at hF1
    clear hca
    go_wp2_with fail
    refine hF1.mono ?_
    rintro e w2 ⟨rfl, b2⟩
    have B2 := B1.trans (b2.mono B1.size)
    go_wp2_with fail
    refine (awake10_any w2).mono ?_
    rintro e w3 ⟨rfl, b3⟩
    go_wp2_with fail
    go_ret
    exact ⟨rfl, B2.trans (b3.mono B2.size)⟩
  | true =>
    have hf : Fine n := (few_fine 21 [n] (of_decide_eq_true hca)).2.2 n (by simp)
    have HV := Lib.hid (fun W hW => value10_all n A c K k W hW hf)
    have HR := Lib.hid (fun W hW => rvalue10_any n A c K k W hW HBD.out)
    have HT := Lib.hid (fun W hW => types10_any n A c K k W hW hf)
    have HU := Lib.hid (fun W hW => rtypes10_any n A c K k W hW hf)
    rw [hca] at hF1
    clear hca hf
    have HLT : Hid (((typO n).getD []).length ≤ 1000000) := by
      unfold Hid typO
      split
      · rename_i h9
        have h8 := typ_even h9
        show (prs (n.v.drop 4)).length ≤ 1000000
        rw [prs_len, List.length_drop]
        omega
      · exact Nat.zero_le _
    generalize valO n = o at *
    generalize typO n = p at *
    go_wp2_with fail
    refine hF1.mono ?_
    rintro e w2 ⟨rfl, b2⟩
    have x2 := x1.below b2
    have hN2 := hN1.on b2
    have B2 := B1.trans (b2.mono B1.size)
    have hv2 := HV.out w2 hN2
    unfold ndV at hv2
    clear s0 s1 s2 hF1
    have s0 := x2.c0
    have s1 := x2.c1
    have s2 := x2.c2
    go_wp2_with fail
    refine hv2.mono ?_
    rintro e w3 ⟨rfl, b3⟩
    have x3 := x2.below b3
    have hN3 := hN2.on b3
    have B3 := B2.trans (b3.mono B2.size)
    have hv3 := HR.out w3 hN3
    unfold ndV at hv3
    clear s0 s1 s2 hv2
    have s0 := x3.c0
    have s1 := x3.c1
    have s2 := x3.c2
    go_wp2_with fail
    refine Calls.mono (R := RVal w3 o) hv3 ?_
    rintro e w4 ⟨b4, y, rfl, hy⟩
    have HY := Lib.hid hy
    have x4 := x3.below b4
    have hN4 := hN3.on b4
    have B4 := B3.trans (b4.mono B3.size)
    have hv4 := HT.out w4 hN4
    unfold ndV at hv4
    clear s0 s1 s2 hv3 hy
    have s0 := x4.c0
    have s1 := x4.c1
    have s2 := x4.c2
    cases o with
    | none =>
      simp only [Option.getD_none, Option.isSome_none]
      go_wp2_with fail
      refine Calls.mono (R := TypR w4 p) hv4 ?_
      rintro e w5 ⟨b5, A5, c5, rfl, l5, _⟩
      have x5 := x4.below b5
      have hN5 := hN4.on b5
      have B5 := B4.trans (b5.mono B4.size)
      have hv5 := HU.out w5 hN5
      unfold ndV at hv5
      clear s0 s1 s2 hv4
      have s0 := x5.c0
      have s1 := x5.c1
      have s2 := x5.c2
      go_wp2_with fail
      refine Calls.mono (R := TypR w5 p) hv5 ?_
      rintro e w6 ⟨b6, A6, c6, rfl, l6, _⟩
      have B6 := B5.trans (b6.mono B5.size)
      have hE : Calls Try.prog 18 #[.slice A5 (p.getD []).length c5, .slice A6 (p.getD []).length c6] w6 (fun e w' => e = .returned (.bool true) ∧ ∃ q, w' = w6.drewN q) := by
        have h9 := eq16_any A5 A6 c5 c6 w6.heap.size (p.getD []) (p.getD []) w6 ((l5.below b6).more b6.size) l6 HLT.out
        rw [decide_eq_true rfl] at h9
        exact h9
      clear hv5
      go_wp2_with fail
      refine hE.mono ?_
      rintro e w7 ⟨rfl, q7, rfl⟩
      cases p
      all_goals
        go_wp2_with fail
        go_ret
        exact ⟨rfl, below_drewN B6 _⟩
    | some z =>
      obtain rfl : z = y := HY.out z rfl
      simp only [Option.getD_some, Option.isSome_some]
      go_wp2_with fail
      refine Calls.mono (R := TypR w4 p) hv4 ?_
      rintro e w5 ⟨b5, A5, c5, rfl, l5, _⟩
      have x5 := x4.below b5
      have hN5 := hN4.on b5
      have B5 := B4.trans (b5.mono B4.size)
      have hv5 := HU.out w5 hN5
      unfold ndV at hv5
      clear s0 s1 s2 hv4
      have s0 := x5.c0
      have s1 := x5.c1
      have s2 := x5.c2
      go_wp2_with fail
      refine Calls.mono (R := TypR w5 p) hv5 ?_
      rintro e w6 ⟨b6, A6, c6, rfl, l6, _⟩
      have B6 := B5.trans (b6.mono B5.size)
      have hE : Calls Try.prog 18 #[.slice A5 (p.getD []).length c5, .slice A6 (p.getD []).length c6] w6 (fun e w' => e = .returned (.bool true) ∧ ∃ q, w' = w6.drewN q) := by
        have h9 := eq16_any A5 A6 c5 c6 w6.heap.size (p.getD []) (p.getD []) w6 ((l5.below b6).more b6.size) l6 HLT.out
        rw [decide_eq_true rfl] at h9
        exact h9
      clear hv5
      go_wp2_with fail
      refine hE.mono ?_
      rintro e w7 ⟨rfl, q7, rfl⟩
      cases p
      all_goals
        go_wp2_with fail
        go_ret
        exact ⟨rfl, below_drewN B6 _⟩
set_option maxRecDepth 100000 in
theorem law_CauseValues {H : Type} {enc : TypeId × Value → H} {W : World} {base : Nat} {v0 : Value} {d0 : DataW H} {p0 : List MemPlace}
    (o0 : Value.okWide Try.prog W .any base 28 v0) (h0 : DataW.Trod enc Try.prog W 0 (fun _ => true) true 28 v0 d0 p0) (s0 : Small Try.prog 28 d0) :
    Calls Try.prog 4 #[v0] W fun e w' => e = .returned (.bool true) ∧ Below W.heap.size W w' := by
  obtain ⟨n, A, c, K, k, rfl, hN, hB⟩ := open_node o0 h0 s0
  exact cv_law n A c K k W hN hB
end Go.Proofs.Ytdnilbebdgohnaa

