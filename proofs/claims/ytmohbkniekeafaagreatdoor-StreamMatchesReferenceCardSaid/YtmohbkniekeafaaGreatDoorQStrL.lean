/- Layer 17: the law StreamAnswers. It writes nothing that was there. -/
import Derived.Test.YtmohbkniekeafaaGreatDoorQSTJ
import Derived.Test.YtmohbkniekeafaaGreatDoorQSTH
import Derived.Test.YtmohbkniekeafaaGreatDoorQNodeUO
import Derived.Test.YtmohbkniekeafaaGreatDoorQNodeRAC
import Derived.Test.YtmohbkniekeafaaGreatDoorQNS
import Derived.BigGuard







namespace Go.Proofs.YtmohbkniekeafaaGreatDoor
open Go.ChangeShapes Go.WideShapes Go.ChangeAt Go.RowKit

set_option linter.unusedSimpArgs false
def fewN (n : Nd) : Bool := decide (cnt 21 [n] ≤ 200)
theorem fewN_fine {n : Nd} (h : fewN n = true) : Fine n := (few_fine 21 [n] (of_decide_eq_true h)).2.2 n (by simp)
theorem few17_any (n : Nd) (hb : Bnd n) (A : Option Addr) (c : Nat) (K : Option Addr) (k : Nat) (w : World) (h : Node w w.heap.size A c K k n) :
    Calls Tryz.prog 48 #[.slice (some ⟨w.heap.size, 0, none⟩) 1 1] (w.alloc (.cells #[hv n.t, .slice A n.v.length c, .slice K n.ks.length k] 76)) fun e w' => e = .returned (.bool (fewN n)) ∧ Below w.heap.size w w' := by
  have b0 : Below w.heap.size w (w.alloc (.cells #[hv n.t, .slice A n.v.length c, .slice K n.ks.length k] 76)) := (Below.refl _ w).alloc (Nat.le_refl _) _
  have hN := node_one17 (Whole.new w 76 #[hv n.t, .slice A n.v.length c, .slice K n.ks.length k]) (h.on b0)
  exact Calls.mono (few_any (some ⟨w.heap.size, 0, none⟩) 1 [n] _ hN (by simp) (by intro m hm; rw [List.mem_singleton.1 hm]; exact hb)) fun e w' h => ⟨h.1, b0.trans (h.2.mono b0.size)⟩
set_option maxRecDepth 100000 in
set_option maxHeartbeats 16000000 in
theorem ans_law (q a : Nd) (hbq : Bnd q) (hba : Bnd a) (A : Option Addr) (c : Nat) (K : Option Addr) (k : Nat) (A' : Option Addr) (c' : Nat) (K' : Option Addr) (k' : Nat) (w : World) (hq : Node w w.heap.size A c K k q) (ha : Node w w.heap.size A' c' K' k' a) (hh : Handle w) :
    Calls Tryz.prog 13 #[ndV q A c K k, ndV a A' c' K' k'] w fun e w' => e = .returned (.bool true) ∧ Below w.heap.size w w' := by
  have b0 : Below w.heap.size w ((w.alloc (.cells #[hv q.t, .slice A q.v.length c, .slice K q.ks.length k] 76)).alloc (.cells #[hv a.t, .slice A' a.v.length c', .slice K' a.ks.length k'] 76)) := ((Below.refl _ w).alloc (Nat.le_refl _) _).alloc (by simp) _
  have x0 := (Whole.new w 76 #[hv q.t, .slice A q.v.length c, .slice K q.ks.length k]).alloc (.cells #[hv a.t, .slice A' a.v.length c', .slice K' a.ks.length k'] 76)
  have y0 := Whole.new (w.alloc (.cells #[hv q.t, .slice A q.v.length c, .slice K q.ks.length k] 76)) 76 #[hv a.t, .slice A' a.v.length c', .slice K' a.ks.length k']
  rw [World.size_alloc] at y0
  have HAW := Lib.hid (fun (V : World) (hb : Below w.heap.size w V) => awake17_any V (hh.below hb hh.lt))
  have HFQ := Lib.hid (fun (V : World) (hb : Below w.heap.size w V) => few17_any q hbq A c K k V (hq.on hb))
  have HFA := Lib.hid (fun (V : World) (hb : Below w.heap.size w V) => few17_any a hba A' c' K' k' V (ha.on hb))
  have HSQ := Lib.hid (fun (hf : fewN q = true) (V : World) (hb : Below w.heap.size w V) => rseq17_any q (fewN_fine hf) A c K k V (hq.on hb))
  have HSA := Lib.hid (fun (hf : fewN a = true) (V : World) (hb : Below w.heap.size w V) => rseq17_any a (fewN_fine hf) A' c' K' k' V (ha.on hb))
  have HAN := Lib.hid (fun (hf : fewN q = true) (hg : fewN a = true) (V : World) (hb : Below w.heap.size w V) => answers17_any q a (fewN_fine hf) (fewN_fine hg) A c K k A' c' K' k' V (hq.on hb) (ha.on hb))
  have HR : Hid (ansB q a = (!decide (q.t = 16) && (seqB q && (decide (a.t = 16) && (seqB a && decide (seqV q = seqV a)))))) := Lib.hid rfl
  have hs0 : w.heap.size + 2 = ((w.alloc (.cells #[hv q.t, .slice A q.v.length c, .slice K q.ks.length k] 76)).alloc (.cells #[hv a.t, .slice A' a.v.length c', .slice K' a.ks.length k'] 76)).heap.size := by simp
  have HS0 := Lib.hid hs0
  clear hq ha hh hbq hba hs0
  unfold ndV at HSQ HSA HAN ⊢
  generalize fewN q = fq at *
  generalize fewN a = fa at *
  generalize ansB q a = r at *
  generalize seqB q = sq at *
  generalize seqB a = sa at *
  generalize seqV q = vq at *
  generalize seqV a = va at *
  generalize q.v.length = lq at *
  generalize a.v.length = la at *
  generalize q.ks.length = kq at *
  generalize a.ks.length = ka at *
  generalize q.t = tq at *
  generalize a.t = ta at *
  go_enter Tryz.func13, Tryz.ntmps13
  go_upto_region 1 with fail
  generalize (w.alloc (.cells #[hv tq, .slice A lq c, .slice K kq k] 76)).alloc (.cells #[hv ta, .slice A' la c', .slice K' ka k'] 76) = w0 at *
  have HW0 := Lib.hid (HAW.out w0 b0)
  have hz0 := HS0.out
  go_wp2_with fail
  refine HW0.out.mono ?_
  rintro e w1 ⟨rfl, b1⟩
  have B1 := b0.trans (b1.mono b0.size)
  have x1 := x0.below b1 x0.lt
  have y1 := y0.below b1 y0.lt
  clear HW0 x0 y0 b1 hz0 HS0
  obtain ⟨q0, q1, q2⟩ := wh317 x1
  have HF1 := Lib.hid (HFQ.out w1 B1)
  clear HFQ
  cases fq with
  | false =>
    go_wp2_with fail
    refine HF1.out.mono ?_
    rintro e w2 ⟨rfl, b2⟩
    have B2 := B1.trans (b2.mono B1.size)
    have HW2 := Lib.hid (HAW.out w2 B2)
    go_wp2_with fail
    refine HW2.out.mono ?_
    rintro e w3 ⟨rfl, b3⟩
    go_wp2_with fail
    go_ret
    exact ⟨rfl, B2.trans (b3.mono B2.size)⟩
  | true =>
    go_wp2_with fail
    refine HF1.out.mono ?_
    rintro e w2 ⟨rfl, b2⟩
    have B2 := B1.trans (b2.mono B1.size)
    have x2 := x1.below b2 x1.lt
    have y2 := y1.below b2 y1.lt
    clear HF1 q0 q1 q2 x1 y1 B1 b2
    obtain ⟨q0, q1, q2⟩ := wh317 y2
    have HF2 := Lib.hid (HFA.out w2 B2)
    clear HFA
    cases fa with
    | false =>
      go_wp2_with fail
      refine HF2.out.mono ?_
      rintro e w3 ⟨rfl, b3⟩
      have B3 := B2.trans (b3.mono B2.size)
      have HW3 := Lib.hid (HAW.out w3 B3)
      go_wp2_with fail
      refine HW3.out.mono ?_
      rintro e w4 ⟨rfl, b4⟩
      go_wp2_with fail
      go_ret
      exact ⟨rfl, B3.trans (b4.mono B3.size)⟩
    | true =>
      go_wp2_with fail
      refine HF2.out.mono ?_
      rintro e w3 ⟨rfl, b3⟩
      have B3 := B2.trans (b3.mono B2.size)
      have x3 := x2.below b3 x2.lt
      have y3 := y2.below b3 y2.lt
      clear HF2 q0 q1 q2 x2 y2 B2 b3 HAW
      go_upto_region 3 with fail
      obtain ⟨q0, q1, q2⟩ := wh317 x3
      have HQ3 := Lib.hid (HSQ.out (by trivial) w3 B3)
      go_wp2_with fail
      refine HQ3.out.mono ?_
      rintro e w4 ⟨rfl, b4⟩
      have B4 := B3.trans (b4.mono B3.size)
      have x4 := x3.below b4 x3.lt
      have y4 := y3.below b4 y3.lt
      clear HQ3 q0 q1 q2 x3 y3 B3 b4 HSQ
      go_upto_region 4 with fail
      obtain ⟨q0, q1, q2⟩ := wh317 y4
      have HQ4 := Lib.hid (HSA.out (by trivial) w4 B4)
      go_wp2_with fail
      refine HQ4.out.mono ?_
      rintro e w5 ⟨rfl, b5⟩
      have B5 := B4.trans (b5.mono B4.size)
      have x5 := x4.below b5 x4.lt
      have y5 := y4.below b5 y4.lt
      clear HQ4 q0 q1 q2 x4 y4 B4 b5 HSA
      go_upto_region 5 with fail
      obtain ⟨q0, q1, q2⟩ := wh317 x5
      obtain ⟨u0, u1, u2⟩ := wh317 y5
      have HA5 := Lib.hid (HAN.out (by trivial) (by trivial) w5 B5)
      go_wp2_with fail
      refine HA5.out.mono ?_
      rintro e w6 ⟨rfl, b6⟩
      have B6 := Lib.hid (B5.trans (b6.mono B5.size))
      have x6 := x5.below b6 x5.lt
      have y6 := y5.below b6 y5.lt
      clear HA5 q0 q1 q2 u0 u1 u2 x5 y5 B5 b6 HAN
      have q0 := (wh317 x6).1
      have u0 := (wh317 y6).1
      clear x6 y6 b0
      have HD : Hid ((sq = false ∧ r = false) ∨ (sq = true ∧ sa = false ∧ r = false) ∨ (sq = true ∧ sa = true ∧ ¬ vq = va ∧ r = false) ∨ (sq = true ∧ sa = true ∧ vq = va ∧ tq = 16 ∧ r = false) ∨ (sq = true ∧ sa = true ∧ vq = va ∧ ¬ tq = 16 ∧ ¬ ta = 16 ∧ r = false) ∨ (sq = true ∧ sa = true ∧ vq = va ∧ ¬ tq = 16 ∧ ta = 16 ∧ r = true)) := by
        unfold Hid
        rw [HR.out]
        cases sq with
        | false => exact .inl ⟨rfl, by simp⟩
        | true =>
          cases sa with
          | false => exact .inr (.inl ⟨rfl, rfl, by simp⟩)
          | true =>
            by_cases h3 : vq = va
            · by_cases h1 : tq = 16
              · exact .inr (.inr (.inr (.inl ⟨rfl, rfl, h3, h1, by simp [h1]⟩)))
              · by_cases h2 : ta = 16
                · exact .inr (.inr (.inr (.inr (.inr ⟨rfl, rfl, h3, h1, h2, by simp [h1, h2, h3]⟩))))
                · exact .inr (.inr (.inr (.inr (.inl ⟨rfl, rfl, h3, h1, h2, by simp [h1, h2, h3]⟩))))
            · exact .inr (.inr (.inl ⟨rfl, rfl, h3, by simp [h3]⟩))
      clear HR
      rcases HD.out with ⟨rfl, rfl⟩ | ⟨rfl, rfl, rfl⟩ | ⟨rfl, rfl, h3, rfl⟩ | ⟨rfl, rfl, rfl, rfl, rfl⟩ | ⟨rfl, rfl, rfl, h1, h2, rfl⟩ | ⟨rfl, rfl, rfl, h1, rfl, rfl⟩
      · clear HD
        go_wp2_with fail
        go_ret
        exact ⟨rfl, B6.out⟩
      · clear HD
        go_wp2_with fail
        go_ret
        exact ⟨rfl, B6.out⟩
      · have e3 := u32_isnt h3
        clear HD h3
        go_wp2_with fail
        go_ret
        exact ⟨rfl, B6.out⟩
      · clear HD
        go_wp2_with fail
        go_ret
        exact ⟨rfl, B6.out⟩
      · have e1 : ((tq.toNat : Int) != 16) = true := u16_ne h1
        have e2 : ((ta.toNat : Int) == 16) = false := u16_isnt h2
        clear HD h1 h2
        go_wp2_with fail
        go_ret
        exact ⟨rfl, B6.out⟩
      · have e1 : ((tq.toNat : Int) != 16) = true := u16_ne h1
        clear HD h1
        go_wp2_with fail
        go_ret
        exact ⟨rfl, B6.out⟩
set_option maxRecDepth 100000 in
theorem law_StreamAnswers {H : Type} {enc : TypeId × Value → H} {W : World} {base : Nat} {v0 v1 : Value} {d0 d1 : DataW H} {p0 p1 : List MemPlace}
    (o0 : Value.okWide Tryz.prog W .any base 76 v0) (h0 : DataW.Trod enc Tryz.prog W 0 (fun _ => true) true 76 v0 d0 p0) (s0 : Small Tryz.prog 76 d0)
    (o1 : Value.okWide Tryz.prog W .any base 76 v1) (h1 : DataW.Trod enc Tryz.prog W 0 (fun _ => true) true 76 v1 d1 p1) (s1 : Small Tryz.prog 76 d1) (hL : laidMetH Tryz.prog laidL W) :
    Calls Tryz.prog 13 #[v0, v1] W fun e w' => e = .returned (.bool true) ∧ Below W.heap.size W w' := by
  obtain ⟨q, A, c, K, k, rfl, hq, bq⟩ := open_node o0 h0 s0
  obtain ⟨a, A', c', K', k', rfl, ha, ba⟩ := open_node o1 h1 s1
  exact ans_law q a bq ba A c K k A' c' K' k' W hq ha (handle_of_laid hL)
end Go.Proofs.YtmohbkniekeafaaGreatDoor


