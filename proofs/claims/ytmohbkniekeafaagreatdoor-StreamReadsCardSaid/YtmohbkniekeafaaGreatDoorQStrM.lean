/- Layer 17: the law StreamReads. It writes nothing that was there. -/
import Derived.Test.YtmohbkniekeafaaGreatDoorQStrL
import Derived.BigGuard
import Derived.Deep.RegionHeld3



namespace Go.Proofs.YtmohbkniekeafaaGreatDoor
open Go.ChangeShapes Go.WideShapes Go.ChangeAt Go.RowKit

set_option linter.unusedSimpArgs false
theorem strOf_len {n : Nd} (hf : Fine n) : (strOf n).length ≤ 1000000 := by
  have h1 := hf.vl
  rw [Nd.vlen_eq] at h1
  by_cases hsb : seqB n = true
  · by_cases h13 : n.t = 13
    · rw [strOf_13 hsb h13, strs_len, List.length_drop]; omega
    · by_cases h14 : n.t = 14
      · rw [strOf_14 hsb h14, strs_len, List.length_drop]; omega
      · rw [strOf_else h13 h14]; exact Nat.zero_le _
  · rw [strOf_no (by simpa using hsb)]; exact Nat.zero_le _
set_option maxRecDepth 100000 in
set_option maxHeartbeats 16000000 in
theorem reads_law (n : Nd) (hbn : Bnd n) (A : Option Addr) (c : Nat) (K : Option Addr) (k : Nat) (w : World) (hn : Node w w.heap.size A c K k n) (hh : Handle w) :
    Calls Tryz.prog 11 #[ndV n A c K k] w fun e w' => e = .returned (.bool true) ∧ Below w.heap.size w w' := by
  have b0 : Below w.heap.size w (w.alloc (.cells #[hv n.t, .slice A n.v.length c, .slice K n.ks.length k] 76)) := (Below.refl _ w).alloc (Nat.le_refl _) _
  have x0 := Whole.new w 76 #[hv n.t, .slice A n.v.length c, .slice K n.ks.length k]
  have HAW := Lib.hid (fun (V : World) (hb : Below w.heap.size w V) => awake17_any V (hh.below hb hh.lt))
  have HFQ := Lib.hid (fun (V : World) (hb : Below w.heap.size w V) => few17_any n hbn A c K k V (hn.on hb))
  have HSQ := Lib.hid (fun (hf : fewN n = true) (V : World) (hb : Below w.heap.size w V) => seq17_any n (fewN_fine hf) A c K k V (hn.on hb))
  have HSR := Lib.hid (fun (hf : fewN n = true) (V : World) (hb : Below w.heap.size w V) => rseq17_any n (fewN_fine hf) A c K k V (hn.on hb))
  have HST := Lib.hid (fun (hf : fewN n = true) (V : World) (hb : Below w.heap.size w V) => streams17_any n (fewN_fine hf) A c K k V (hn.on hb))
  have HSS := Lib.hid (fun (hf : fewN n = true) (V : World) (hb : Below w.heap.size w V) => rstreams17_any n (fewN_fine hf) A c K k V (hn.on hb))
  have HLE := Lib.hid (fun (hf : fewN n = true) => strOf_len (fewN_fine hf))
  clear hn hh hbn
  unfold ndV at HSQ HSR HST HSS ⊢
  generalize fewN n = fq at *
  generalize seqB n = sb at *
  generalize seqV n = sv at *
  generalize strOf n = so at *
  generalize n.v.length = lv at *
  generalize n.ks.length = lk at *
  generalize n.t = t at *
  go_enter Tryz.func11, Tryz.ntmps11
  go_upto_region 1 with fail
  generalize w.alloc (.cells #[hv t, .slice A lv c, .slice K lk k] 76) = w0 at *
  have HW0 := Lib.hid (HAW.out w0 b0)
  go_wp2_with fail
  refine HW0.out.mono ?_
  rintro e w1 ⟨rfl, b1⟩
  have B1 := b0.trans (b1.mono b0.size)
  have x1 := x0.below b1 x0.lt
  clear HW0 x0 b1
  obtain ⟨q0, q1, q2⟩ := wh317 x1
  have HF1 := Lib.hid (HFQ.out w1 B1)
  clear HFQ
  cases fq with
  | false =>
    go_wp2_with fail
    refine HF1.out.mono ?_
    rintro e w2 ⟨rfl, b2⟩
    have B2 := B1.trans (b2.mono B1.size)
    have HW2 := Lib.hid (HAW.out w2 B2)
    go_wp2_with fail
    refine HW2.out.mono ?_
    rintro e w3 ⟨rfl, b3⟩
    go_wp2_with fail
    go_ret
    exact ⟨rfl, B2.trans (b3.mono B2.size)⟩
  | true =>
    go_wp2_with fail
    refine HF1.out.mono ?_
    rintro e w2 ⟨rfl, b2⟩
    have B2 := B1.trans (b2.mono B1.size)
    have x2 := x1.below b2 x1.lt
    clear HF1 q0 q1 q2 x1 B1 b2 HAW b0
    go_upto_region 3 with fail
    obtain ⟨q0, q1, q2⟩ := wh317 x2
    have HQ2 := Lib.hid (HSQ.out (by trivial) w2 B2)
    go_wp2_with fail
    refine HQ2.out.mono ?_
    rintro e w3 ⟨rfl, b3⟩
    have B3 := B2.trans (b3.mono B2.size)
    have x3 := x2.below b3 x2.lt
    clear HQ2 HSQ q0 q1 q2 x2 B2 b3
    go_upto_region 4 with fail
    obtain ⟨q0, q1, q2⟩ := wh317 x3
    have HQ3 := Lib.hid (HSR.out (by trivial) w3 B3)
    go_wp2_with fail
    refine HQ3.out.mono ?_
    rintro e w5 ⟨rfl, b5⟩
    have B5 := Lib.hid (B3.trans (b5.mono B3.size))
    have x5 := x3.below b5 x3.lt
    clear HQ3 HSR q0 q1 q2 x3 B3 b5
    have HT := Lib.hid (fun (V : World) (hV : Below w5.heap.size w5 V) => HST.out (by trivial) V (B5.out.trans (hV.mono B5.out.size)))
    have HS := Lib.hid (fun (V : World) (hV : Below w5.heap.size w5 V) => HSS.out (by trivial) V (B5.out.trans (hV.mono B5.out.size)))
    have hle : so.length ≤ 1000000 := HLE.out (by trivial)
    have HE := Lib.hid (fun (A' : Option Addr) (c' : Nat) (A2 : Option Addr) (c2 : Nat) (V : World) (h1 : Lies V V.heap.size A' (so.map hv)) (h2 : Lies V V.heap.size A2 (so.map hv)) => requal17_self so A' A2 c' c2 V h1 h2 hle)
    have KS : Hid (∀ V, Below w5.heap.size w5 V → V.cell? ⟨w.heap.size, 0, none⟩ = some (hv t) ∧ V.cell? ⟨w.heap.size, 1, none⟩ = some (.slice A lv c) ∧ V.cell? ⟨w.heap.size, 2, none⟩ = some (.slice K lk k)) := Lib.hid (fun V hV => wh317 (x5.below hV x5.lt))
    have e1 : ((sv.toNat : Int) == (sv.toNat : Int)) = true := by simp
    have e2 : (sb == sb) = true := by simp
    clear HST HSS HLE x5 hle
    go_upto_region 5 with fail
    go_region_held3 (fun V => V.cell? ⟨w.heap.size, 0, none⟩ = some (hv t) ∧ V.cell? ⟨w.heap.size, 1, none⟩ = some (.slice A lv c) ∧ V.cell? ⟨w.heap.size, 2, none⟩ = some (.slice K lk k))
      (first | exact KS.out _ (below_drew (Below.refl _ _)) | exact KS.out _ R8 | exact KS.out _ R6 | exact KS.out _ R7 | fail)
      (first
      | (go_at_call 52; first
        | ((with_reducible refine (HT.out _ (below_drew (Below.refl _ _))).mono ?_); rintro e w6 ⟨A6, c6, rfl, l6, b6⟩; have R6 : Below w5.heap.size w5 w6 := below_undrew13 b6)
        | ((with_reducible refine (HT.out _ R7).mono ?_); rintro e w6 ⟨A6, c6, rfl, l6, b6⟩; have R6 : Below w5.heap.size w5 w6 := R7.trans (b6.mono R7.size); have l7 := (l7.below b6).more b6.size))
      | (go_at_call 53; first
        | ((with_reducible refine (HS.out _ (below_drew (Below.refl _ _))).mono ?_); rintro e w7 ⟨A7, c7, rfl, l7, b7⟩; have R7 : Below w5.heap.size w5 w7 := below_undrew13 b7)
        | ((with_reducible refine (HS.out _ R6).mono ?_); rintro e w7 ⟨A7, c7, rfl, l7, b7⟩; have R7 : Below w5.heap.size w5 w7 := R6.trans (b7.mono R6.size); have l6 := (l6.below b7).more b7.size))
      | (go_at_call 51; (with_reducible refine (HE.out _ _ _ _ _ l6 l7).mono ?_); rintro e w8 ⟨rfl, b8⟩; first | have R8 : Below w5.heap.size w5 w8 := R7.trans (b8.mono R7.size) | have R8 : Below w5.heap.size w5 w8 := R6.trans (b8.mono R6.size))
      | fail)
    all_goals
      go_wp2_with fail
      go_ret
      exact ⟨rfl, B5.out.trans (R8.mono B5.out.size)⟩
set_option maxRecDepth 100000 in
theorem law_StreamReads {H : Type} {enc : TypeId × Value → H} {W : World} {base : Nat} {v0 : Value} {d0 : DataW H} {p0 : List MemPlace}
    (o0 : Value.okWide Tryz.prog W .any base 76 v0) (h0 : DataW.Trod enc Tryz.prog W 0 (fun _ => true) true 76 v0 d0 p0) (s0 : Small Tryz.prog 76 d0) (hL : laidMetH Tryz.prog laidL W) :
    Calls Tryz.prog 11 #[v0] W fun e w' => e = .returned (.bool true) ∧ Below W.heap.size W w' := by
  obtain ⟨n, A, c, K, k, rfl, hn, bn⟩ := open_node o0 h0 s0
  exact reads_law n bn A c K k W hn (handle_of_laid hL)
end Go.Proofs.YtmohbkniekeafaaGreatDoor


