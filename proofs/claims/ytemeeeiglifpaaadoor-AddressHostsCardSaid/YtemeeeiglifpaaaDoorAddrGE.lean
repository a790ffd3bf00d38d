/- A variable that holds a node (for seats without layer 8's own awake: there NodeR holds it). No condition of its own. -/
import Derived.Test.YtemeeeiglifpaaaDoorNodeAD
import Derived.Test.YtemeeeiglifpaaaDoorAddrGD
import Derived.Test.YtemeeeiglifpaaaDoorNodeW
import Derived.Test.YtemeeeiglifpaaaDoorAddrV
import Derived.Test.YtemeeeiglifpaaaDoorNodeTV
import Derived.Test.YtemeeeiglifpaaaDoorAddrGA
import Derived.Test.YtemeeeiglifpaaaDoorSame
import Derived.Test.YtemeeeiglifpaaaDoorAddrY
import Derived.Test.YtemeeeiglifpaaaDoorNodeUO
import Derived.ChangeMaps5

namespace Go.Proofs.YtemeeeiglifpaaaDoor
open Go.RowKit

/-- a variable that holds a node -/
def NdBox (W : World) (g : Nat) (n : Nd) (A : Option Addr) (c : Nat) (K : Option Addr) (k : Nat) : Prop := Whole W g 27 #[hv n.t, .slice A n.v.length c, .slice K n.ks.length k]
section
variable {W W2 : World} {g : Nat} {n : Nd} {A K : Option Addr} {c k : Nat}
theorem NdBox.below (h : NdBox W g n A c K k) (hb : Below W.heap.size W W2) : NdBox W2 g n A c K k := Whole.below h hb (Whole.lt h)
end
end Go.Proofs.YtemeeeiglifpaaaDoor

/- Layer 9: the law's 'same': two nodes, each a list of its own. -/



namespace Go.Proofs.YtemeeeiglifpaaaDoor
open Go.RowKit Go.Shelf

set_option maxRecDepth 100000 in
set_option maxHeartbeats 8000000 in
theorem same9_any (a b : Nd) (A : Option Addr) (c : Nat) (K : Option Addr) (k : Nat) (A' : Option Addr) (c' : Nat) (K' : Option Addr) (k' : Nat) (w : World) (ha : Node w w.heap.size A c K k a) (hb : Node w w.heap.size A' c' K' k' b) :
    Calls Tryd.prog 9 #[ndV a A c K k, ndV b A' c' K' k'] w fun e w' => e = .returned (.bool (a.beq b)) ∧ Below w.heap.size w w' := by
  unfold ndV
  have b0 : Below w.heap.size w ((w.alloc (.cells #[hv a.t, .slice A a.v.length c, .slice K a.ks.length k] 27)).alloc (.cells #[hv b.t, .slice A' b.v.length c', .slice K' b.ks.length k'] 27)) :=
    ((Below.refl _ _).alloc (Nat.le_refl _) _).alloc (by simp) _
  have x0 : NdBox _ w.heap.size a A c K k := (Whole.new w 27 #[hv a.t, .slice A a.v.length c, .slice K a.ks.length k]).alloc (.cells #[hv b.t, .slice A' b.v.length c', .slice K' b.ks.length k'] 27)
  have x1 : NdBox _ (w.heap.size + 1) b A' c' K' k' := wnew1 w (.cells #[hv a.t, .slice A a.v.length c, .slice K a.ks.length k] 27) 27 #[hv b.t, .slice A' b.v.length c', .slice K' b.ks.length k']
  have hsz : Hid (((w.alloc (.cells #[hv a.t, .slice A a.v.length c, .slice K a.ks.length k] 27)).alloc (.cells #[hv b.t, .slice A' b.v.length c', .slice K' b.ks.length k'] 27)).heap.size = w.heap.size + 1 + 1) := by simp [Hid]
  have hN0 := ha.on b0
  have hM0 := hb.on b0
  have HB := Lib.hid b0
  clear ha hb
  go_enter Tryd.func9, Tryd.ntmps9
  go_wp2_with fail
  generalize (w.alloc (.cells #[hv a.t, .slice A a.v.length c, .slice K a.ks.length k] 27)).alloc (.cells #[hv b.t, .slice A' b.v.length c', .slice K' b.ks.length k'] 27) = w0 at *
  clear b0
  have y00 : w0.cell? ⟨w.heap.size, 0, none⟩ = some (hv a.t) := by rw [Whole.cell x0]; rfl
  have y01 : w0.cell? ⟨w.heap.size, 1, none⟩ = some (.slice A a.v.length c) := by rw [Whole.cell x0]; rfl
  have y02 : w0.cell? ⟨w.heap.size, 2, none⟩ = some (.slice K a.ks.length k) := by rw [Whole.cell x0]; rfl
  have y10 : w0.cell? ⟨w.heap.size + 1, 0, none⟩ = some (hv b.t) := by rw [Whole.cell x1]; rfl
  have y11 : w0.cell? ⟨w.heap.size + 1, 1, none⟩ = some (.slice A' b.v.length c') := by rw [Whole.cell x1]; rfl
  have y12 : w0.cell? ⟨w.heap.size + 1, 2, none⟩ = some (.slice K' b.ks.length k') := by rw [Whole.cell x1]; rfl
  have HR : Hid (∀ V g1 g2, Below w0.heap.size w0 V → Whole V g1 27 #[hv a.t, .slice A a.v.length c, .slice K a.ks.length k] → Whole V g2 27 #[hv b.t, .slice A' b.v.length c', .slice K' b.ks.length k'] →
      Calls Tryd.prog 22 #[.slice (some ⟨g1, 0, none⟩) 1 1, .slice (some ⟨g2, 0, none⟩) 1 1] V fun e w' => e = .returned (.bool (a.beq b)) ∧ Below w0.heap.size w0 w') := fun V g1 g2 hV q1 q2 => by
    refine (rsame_any [a] [b] (some ⟨g1, 0, none⟩) (some ⟨g2, 0, none⟩) 1 1 V (list1_of q1 (hN0.on hV)) (list1_of q2 (hM0.on hV)) (by simp) (by simp)).mono fun e w' h => ⟨?_, hV.trans (h.2.mono hV.size)⟩
    rw [h.1]
    simp [beqL]
  have z0 : Whole ((w0.alloc (.cells #[hv a.t, .slice A a.v.length c, .slice K a.ks.length k] 27)).alloc (.cells #[hv b.t, .slice A' b.v.length c', .slice K' b.ks.length k'] 27)) (w.heap.size + 1 + 1) 27 #[hv a.t, .slice A a.v.length c, .slice K a.ks.length k] := by rw [← hsz.out]; exact (Whole.new _ _ _).alloc _
  have z1 : Whole ((w0.alloc (.cells #[hv a.t, .slice A a.v.length c, .slice K a.ks.length k] 27)).alloc (.cells #[hv b.t, .slice A' b.v.length c', .slice K' b.ks.length k'] 27)) (w.heap.size + 1 + 1 + 1) 27 #[hv b.t, .slice A' b.v.length c', .slice K' b.ks.length k'] := by rw [← hsz.out]; exact wnew1 _ _ _ _
  have hR := HR.out _ _ _ (((Below.refl _ _).alloc (Nat.le_refl _) _).alloc (by simp) _) z0 z1
  clear hN0 hM0 x0 x1 z0 z1 HR
  go_wp2_with fail
  refine hR.mono ?_
  rintro e w2 ⟨rfl, b2⟩
  go_wp2_with fail
  go_ret
  exact ⟨rfl, HB.out.trans (b2.mono HB.out.size)⟩
end Go.Proofs.YtemeeeiglifpaaaDoor

/- Layer 9: the law AddressParses, for whatever string, if awake is right. It writes nothing that was there. -/



namespace Go.Proofs.YtemeeeiglifpaaaDoor
open Go.RowKit Go.Shelf

/-- awake is true wherever the tables stand -/
def AwakeOK : Prop := ∀ V : World, AT V → Errs V → Calls Tryd.prog 6 #[] V fun e w' => e = .returned (.bool true) ∧ Below V.heap.size V w'
theorem zero_node (w : World) : Node w w.heap.size none 0 none 0 (.mk 0 [] []) := ⟨Lies.nil, Nat.le_refl _, Nat.zero_le _, Nodes.nil w _ none, Nat.le_refl _, Nat.zero_le _⟩
theorem attx_of {t : UInt16} {v : List UInt8} (h : isA t v) : attx (.mk t v []) = atx t v := by
  unfold attx
  rcases h with ⟨rfl, hv⟩ | ⟨rfl, hv⟩
  · rw [if_neg (by simp [nof, fitA, hv, Nd.t, Nd.v, Nd.ks])]
    rfl
  · rw [if_neg (by simp [nof, fitA, hv, Nd.t, Nd.v, Nd.ks])]
    rfl
theorem str_back (s : ByteArray) : (⟨s.data.toList.toArray⟩ : ByteArray) = s := by cases s; simp
set_option maxRecDepth 100000 in
set_option maxHeartbeats 8000000 in
theorem parses_law (hA : Hid AwakeOK) (s : ByteArray) (w : World) (hT : AT w) (hE : Errs w) :
    Calls Tryd.prog 3 #[.string s] w fun e w' => e = .returned (.bool true) ∧ Below w.heap.size w w' := by
  have hA0 := hA.out w hT hE
  go_enter Tryd.func3, Tryd.ntmps3
  cases hc : decide (s.size ≤ 300) with
  | false =>
    have hs := of_decide_eq_false hc
    clear hc
    go_wp2_with fail
    refine hA0.mono ?_
    rintro e w1 ⟨rfl, b1⟩
    have hA1 := hA.out w1 (hT.below b1) (hE.below b1)
    go_wp2_with fail
    refine hA1.mono ?_
    rintro e w2 ⟨rfl, b2⟩
    go_wp2_with fail
    go_ret
    exact ⟨rfl, b1.trans (b2.mono b1.size)⟩
  | true =>
    have hs := of_decide_eq_true hc
    clear hc
    go_wp2_with fail
    refine hA0.mono ?_
    rintro e w1 ⟨rfl, b1⟩
    have T1 := hT.below b1
    have E1 := hE.below b1
    have hP := parse_any s.data.toList (by rw [str_back]; omega) w1 T1 E1
    rw [str_back] at hP
    have HT := Lib.hid T1
    have HE := Lib.hid E1
    have HB := Lib.hid b1
    clear hA0 hT hE T1 E1
    go_wp2_with fail
    refine hP.mono ?_
    clear hP
    rintro e w2 ⟨b2, ⟨t, v, A', c', hr, rfl, hN, _⟩ | ⟨hr, rfl⟩⟩
    · obtain ⟨n, hn⟩ : ∃ n : Nd, Nd.mk t v [] = n := ⟨_, rfl⟩
      rw [hn] at hN ⊢
      have b12 := Lib.hid (HB.out.trans (b2.mono HB.out.size))
      have hb2 := Lib.hid b2
      have bx2 : Below w2.heap.size w2 (w2.alloc (.cells #[hv n.t, .slice A' n.v.length c', .slice none n.ks.length 0] 27)) := (Below.refl _ w2).alloc (Nat.le_refl _) _
      have x2 := Whole.new w2 27 #[hv n.t, .slice A' n.v.length c', .slice none n.ks.length 0]
      have hsz3 : w2.heap.size < (w2.alloc (.cells #[hv n.t, .slice A' n.v.length c', .slice none n.ks.length 0] 27)).heap.size := by simp
      have hN3 := Lib.hid (hN.on bx2)
      have hn := Lib.hid hn
      have hr := Lib.hid hr
      clear b2 hN
      go_wp2_with fail
      generalize w2.alloc (.cells #[hv n.t, .slice A' n.v.length c', .slice none n.ks.length 0] 27) = w3 at *
      refine (rparse_any s (by omega) w3).mono ?_
      rintro e w4 ⟨b4, ⟨t', v', A2, c2, hr', rfl, hM⟩ | ⟨hr', rfl⟩⟩
      case' inr => exact absurd (hr.out.symm.trans hr') (by simp)
      obtain ⟨rfl, rfl⟩ : t = t' ∧ v = v' := by have := hr.out.symm.trans hr'; simpa using this
      rw [hn.out] at hM ⊢
      clear hr'
      have y2 := x2.below b4 hsz3
      have bx4 : Below w4.heap.size w4 (w4.alloc (.cells #[hv n.t, .slice A2 n.v.length c2, .slice none n.ks.length 0] 27)) := (Below.refl _ w4).alloc (Nat.le_refl _) _
      have z2 := y2.alloc (.cells #[hv n.t, .slice A2 n.v.length c2, .slice none n.ks.length 0] 27)
      have z4 := Whole.new w4 27 #[hv n.t, .slice A2 n.v.length c2, .slice none n.ks.length 0]
      have hN5 := Lib.hid ((hN3.out.on b4).on bx4)
      have hM5 := Lib.hid (hM.on bx4)
      have hlt2 : w2.heap.size < (w4.alloc (.cells #[hv n.t, .slice A2 n.v.length c2, .slice none n.ks.length 0] 27)).heap.size := z2.lt
      have hlt4 : w4.heap.size < (w4.alloc (.cells #[hv n.t, .slice A2 n.v.length c2, .slice none n.ks.length 0] 27)).heap.size := z4.lt
      have T5 := Lib.hid ((((HT.out.below hb2.out).below bx2).below b4).below bx4)
      have B5 := Lib.hid ((((b12.out.trans (bx2.mono b12.out.size)).trans (b4.mono (Nat.le_trans b12.out.size bx2.size))).trans (bx4.mono (Nat.le_trans (Nat.le_trans b12.out.size bx2.size) b4.size))))
      clear x2 y2 bx2 b4 bx4 hM hN3
      have s0 : (w4.alloc (.cells #[hv n.t, .slice A2 n.v.length c2, .slice none n.ks.length 0] 27)).cell? ⟨w4.heap.size, 0, none⟩ = some (hv n.t) := by rw [z4.cell]; rfl
      have s1 : (w4.alloc (.cells #[hv n.t, .slice A2 n.v.length c2, .slice none n.ks.length 0] 27)).cell? ⟨w4.heap.size, 1, none⟩ = some (.slice A2 n.v.length c2) := by rw [z4.cell]; rfl
      have s2 : (w4.alloc (.cells #[hv n.t, .slice A2 n.v.length c2, .slice none n.ks.length 0] 27)).cell? ⟨w4.heap.size, 2, none⟩ = some (.slice none n.ks.length 0) := by rw [z4.cell]; rfl
      have s3 : (w4.alloc (.cells #[hv n.t, .slice A2 n.v.length c2, .slice none n.ks.length 0] 27)).cell? ⟨w2.heap.size, 0, none⟩ = some (hv n.t) := by rw [z2.cell]; rfl
      have s4 : (w4.alloc (.cells #[hv n.t, .slice A2 n.v.length c2, .slice none n.ks.length 0] 27)).cell? ⟨w2.heap.size, 1, none⟩ = some (.slice A' n.v.length c') := by rw [z2.cell]; rfl
      have s5 : (w4.alloc (.cells #[hv n.t, .slice A2 n.v.length c2, .slice none n.ks.length 0] 27)).cell? ⟨w2.heap.size, 2, none⟩ = some (.slice none n.ks.length 0) := by rw [z2.cell]; rfl
      go_wp2_with fail
      generalize w4.alloc (.cells #[hv n.t, .slice A2 n.v.length c2, .slice none n.ks.length 0] 27) = w5 at *
      have KS : Hid (∀ V, Below w5.heap.size w5 V → (fun V => V.cell? ⟨w4.heap.size, 0, none⟩ = some (hv n.t) ∧ V.cell? ⟨w4.heap.size, 1, none⟩ = some (.slice A2 n.v.length c2) ∧ V.cell? ⟨w4.heap.size, 2, none⟩ = some (.slice none n.ks.length 0) ∧ V.cell? ⟨w2.heap.size, 0, none⟩ = some (hv n.t) ∧ V.cell? ⟨w2.heap.size, 1, none⟩ = some (.slice A' n.v.length c') ∧ V.cell? ⟨w2.heap.size, 2, none⟩ = some (.slice none n.ks.length 0)) V) := fun V hV => ⟨by rw [(z4.below hV hlt4).cell]; rfl, by rw [(z4.below hV hlt4).cell]; rfl, by rw [(z4.below hV hlt4).cell]; rfl, by rw [(z2.below hV hlt2).cell]; rfl, by rw [(z2.below hV hlt2).cell]; rfl, by rw [(z2.below hV hlt2).cell]; rfl⟩
      have HS : Hid (∀ V, Below w5.heap.size w5 V → Calls Tryd.prog 9 #[.agg #[hv n.t, .slice A' n.v.length c', .slice none n.ks.length 0], .agg #[hv n.t, .slice A2 n.v.length c2, .slice none n.ks.length 0]] V fun e w' => e = .returned (.bool true) ∧ Below w5.heap.size w5 w') := fun V hV => by
        refine (same9_any n n A' c' none 0 A2 c2 none 0 V (hN5.out.on hV) (hM5.out.on hV)).mono fun e w' h => ⟨?_, hV.trans (h.2.mono hV.size)⟩
        rw [h.1, (Nd.beq_eq n n).2 rfl]
      have HX : Hid (∀ V, Below w5.heap.size w5 V → Calls Tryd.prog 10 #[.agg #[hv n.t, .slice A' n.v.length c', .slice none n.ks.length 0]] V fun e w' => e = .returned (.string s) ∧ Below w5.heap.size w5 w') := fun V hV => by
        have hNV := hN5.out.on hV
        obtain ⟨q1, q2⟩ := rp_sound hr.out
        refine (text_any n A' c' none 0 V (T5.out.below hV) hNV.data hNV.dc (Nat.le_trans hNV.dc (Nat.le_trans hNV.dm (by decide))) (Nat.le_trans hNV.kc (by decide))).mono fun e w' h => ⟨?_, hV.trans (h.2.mono hV.size)⟩
        rw [h.1, ← hn.out, attx_of q1, ← q2, str_back]
      clear z2 z4 hN5 hM5 T5 hlt2 hlt4 hsz3
      have hS := HS.out w5 (Below.refl _ _)
      refine hS.mono ?_
      rintro e w7 ⟨rfl, R7⟩
      clear s0 s1 s2 s3 s4 s5 hS
      obtain ⟨s0, s1, s2, s3, s4, s5⟩ := KS.out w7 R7
      have hX := HX.out w7 R7
      go_wp2_with fail
      refine hX.mono ?_
      rintro e w8 ⟨rfl, R8⟩
      go_wp2_with fail
      go_ret
      exact ⟨rfl, B5.out.trans (R8.mono B5.out.size)⟩
    · have hN : Node w2 w2.heap.size none 0 none 0 (.mk 0 [] []) := zero_node w2
      have b12 := Lib.hid (HB.out.trans (b2.mono HB.out.size))
      have hb2 := Lib.hid b2
      have bx2 : Below w2.heap.size w2 (w2.alloc (.cells #[.int .u16 0, .slice none 0 0, .slice none 0 0] 27)) := (Below.refl _ w2).alloc (Nat.le_refl _) _
      have x2 := Whole.new w2 27 #[.int .u16 0, .slice none 0 0, .slice none 0 0]
      have hsz3 : w2.heap.size < (w2.alloc (.cells #[.int .u16 0, .slice none 0 0, .slice none 0 0] 27)).heap.size := by simp
      have hN3 := Lib.hid (hN.on bx2)
      have hr := Lib.hid hr
      clear b2 hN
      go_wp2_with fail
      generalize w2.alloc (.cells #[.int .u16 0, .slice none 0 0, .slice none 0 0] 27) = w3 at *
      refine (rparse_any s (by omega) w3).mono ?_
      rintro e w4 ⟨b4, ⟨t', v', A2, c2, hr', rfl, hM⟩ | ⟨hr', rfl⟩⟩
      case' inl => exact absurd (hr.out.symm.trans hr') (by simp)
      have hM : Node w4 w4.heap.size none 0 none 0 (.mk 0 [] []) := zero_node w4
      clear hr'
      have y2 := x2.below b4 hsz3
      have bx4 : Below w4.heap.size w4 (w4.alloc (.cells #[.int .u16 0, .slice none 0 0, .slice none 0 0] 27)) := (Below.refl _ w4).alloc (Nat.le_refl _) _
      have z2 := y2.alloc (.cells #[.int .u16 0, .slice none 0 0, .slice none 0 0] 27)
      have z4 := Whole.new w4 27 #[.int .u16 0, .slice none 0 0, .slice none 0 0]
      have hN5 := Lib.hid ((hN3.out.on b4).on bx4)
      have hM5 := Lib.hid (hM.on bx4)
      have hlt2 : w2.heap.size < (w4.alloc (.cells #[.int .u16 0, .slice none 0 0, .slice none 0 0] 27)).heap.size := z2.lt
      have hlt4 : w4.heap.size < (w4.alloc (.cells #[.int .u16 0, .slice none 0 0, .slice none 0 0] 27)).heap.size := z4.lt
      have T5 := Lib.hid ((((HT.out.below hb2.out).below bx2).below b4).below bx4)
      have B5 := Lib.hid ((((b12.out.trans (bx2.mono b12.out.size)).trans (b4.mono (Nat.le_trans b12.out.size bx2.size))).trans (bx4.mono (Nat.le_trans (Nat.le_trans b12.out.size bx2.size) b4.size))))
      clear x2 y2 bx2 b4 bx4 hM hN3
      have s0 : (w4.alloc (.cells #[.int .u16 0, .slice none 0 0, .slice none 0 0] 27)).cell? ⟨w4.heap.size, 0, none⟩ = some (.int .u16 0) := by rw [z4.cell]; rfl
      have s1 : (w4.alloc (.cells #[.int .u16 0, .slice none 0 0, .slice none 0 0] 27)).cell? ⟨w4.heap.size, 1, none⟩ = some (.slice none 0 0) := by rw [z4.cell]; rfl
      have s2 : (w4.alloc (.cells #[.int .u16 0, .slice none 0 0, .slice none 0 0] 27)).cell? ⟨w4.heap.size, 2, none⟩ = some (.slice none 0 0) := by rw [z4.cell]; rfl
      have s3 : (w4.alloc (.cells #[.int .u16 0, .slice none 0 0, .slice none 0 0] 27)).cell? ⟨w2.heap.size, 0, none⟩ = some (.int .u16 0) := by rw [z2.cell]; rfl
      have s4 : (w4.alloc (.cells #[.int .u16 0, .slice none 0 0, .slice none 0 0] 27)).cell? ⟨w2.heap.size, 1, none⟩ = some (.slice none 0 0) := by rw [z2.cell]; rfl
      have s5 : (w4.alloc (.cells #[.int .u16 0, .slice none 0 0, .slice none 0 0] 27)).cell? ⟨w2.heap.size, 2, none⟩ = some (.slice none 0 0) := by rw [z2.cell]; rfl
      go_wp2_with fail
      generalize w4.alloc (.cells #[.int .u16 0, .slice none 0 0, .slice none 0 0] 27) = w5 at *
      have KS : Hid (∀ V, Below w5.heap.size w5 V → (fun V => V.cell? ⟨w4.heap.size, 0, none⟩ = some (.int .u16 0) ∧ V.cell? ⟨w4.heap.size, 1, none⟩ = some (.slice none 0 0) ∧ V.cell? ⟨w4.heap.size, 2, none⟩ = some (.slice none 0 0) ∧ V.cell? ⟨w2.heap.size, 0, none⟩ = some (.int .u16 0) ∧ V.cell? ⟨w2.heap.size, 1, none⟩ = some (.slice none 0 0) ∧ V.cell? ⟨w2.heap.size, 2, none⟩ = some (.slice none 0 0)) V) := fun V hV => ⟨by rw [(z4.below hV hlt4).cell]; rfl, by rw [(z4.below hV hlt4).cell]; rfl, by rw [(z4.below hV hlt4).cell]; rfl, by rw [(z2.below hV hlt2).cell]; rfl, by rw [(z2.below hV hlt2).cell]; rfl, by rw [(z2.below hV hlt2).cell]; rfl⟩
      have HS : Hid (∀ V, Below w5.heap.size w5 V → Calls Tryd.prog 9 #[.agg #[.int .u16 0, .slice none 0 0, .slice none 0 0], .agg #[.int .u16 0, .slice none 0 0, .slice none 0 0]] V fun e w' => e = .returned (.bool true) ∧ Below w5.heap.size w5 w') := fun V hV => by
        refine (same9_any (.mk 0 [] []) (.mk 0 [] []) none 0 none 0 none 0 none 0 V (hN5.out.on hV) (hM5.out.on hV)).mono fun e w' h => ⟨?_, hV.trans (h.2.mono hV.size)⟩
        rw [h.1, (Nd.beq_eq (.mk 0 [] []) (.mk 0 [] [])).2 rfl]
      clear z2 z4 hN5 hM5 T5 hlt2 hlt4 hsz3
      have hS := HS.out w5 (Below.refl _ _)
      refine hS.mono ?_
      rintro e w7 ⟨rfl, R7⟩
      go_wp2_with fail
      go_ret
      exact ⟨rfl, B5.out.trans (R7.mono B5.out.size)⟩
end Go.Proofs.YtemeeeiglifpaaaDoor

/- Layer 9: the law AddressBytes, for whatever bytes, if awake is right. It writes nothing that was there. -/



namespace Go.Proofs.YtemeeeiglifpaaaDoor
open Go.RowKit Go.Shelf

theorem Lies.on {w w' : World} {A : Option Addr} {vs : List Value} (h : Lies w w.heap.size A vs) (hb : Below w.heap.size w w') : Lies w' w'.heap.size A vs := (h.below hb).more hb.size
set_option maxRecDepth 100000 in
set_option maxHeartbeats 8000000 in
theorem bytes_law (hA : Hid AwakeOK) (A : Option Addr) (c : Nat) (l : List UInt8) (w : World) (hT : AT w) (hE : Errs w) (hL : Lies w w.heap.size A (l.map bv)) (hc : l.length ≤ c) (hm : c ≤ maxLen) :
    Calls Tryd.prog 5 #[.slice A l.length c] w fun e w' => e = .returned (.bool true) ∧ Below w.heap.size w w' := by
  have hA0 := hA.out w hT hE
  go_enter Tryd.func5, Tryd.ntmps5
  cases hc1 : decide (l.length ≤ 100) with
  | false =>
    have hs := of_decide_eq_false hc1
    clear hc1
    go_wp2_with fail
    refine hA0.mono ?_
    rintro e w1 ⟨rfl, b1⟩
    have hA1 := hA.out w1 (hT.below b1) (hE.below b1)
    go_wp2_with fail
    refine hA1.mono ?_
    rintro e w2 ⟨rfl, b2⟩
    go_wp2_with fail
    go_ret
    exact ⟨rfl, b1.trans (b2.mono b1.size)⟩
  | true =>
    have hs := of_decide_eq_true hc1
    clear hc1
    go_wp2_with fail
    refine hA0.mono ?_
    rintro e w1 ⟨rfl, b1⟩
    have hO := of_bytes A c l w1 (hT.below b1).tbl (hL.on b1) hc hm (by omega)
    have HL := Lib.hid hL
    have HB := Lib.hid b1
    clear hA0 hT hE hL
    go_wp2_with fail
    refine hO.mono ?_
    clear hO
    rintro e w2 ⟨b2, ⟨hl, A', c', rfl, hN, _⟩ | ⟨hl, rfl⟩⟩
    · skip
      obtain ⟨n, hn⟩ : ∃ n : Nd, ofN l = n := ⟨_, rfl⟩
      rw [hn] at hN ⊢
      have hnv : n.v = l := by rw [← hn]; rfl
      have hnn : nof n < 2 := by rw [← hn]; unfold nof fitA ofN; rcases hl with hl | hl <;> simp [hl, Nd.t, Nd.v, Nd.ks]
      clear hn
      have hnk : n.v.length ≤ 100 := by rw [hnv]; omega
      have b12 := HB.out.trans (b2.mono HB.out.size)
      have bx2 : Below w2.heap.size w2 (w2.alloc (.cells #[hv n.t, .slice A' n.v.length c', .slice none n.ks.length 0] 27)) := (Below.refl _ w2).alloc (Nat.le_refl _) _
      have x2 := Whole.new w2 27 #[hv n.t, .slice A' n.v.length c', .slice none n.ks.length 0]
      have B3 := Lib.hid (b12.trans (bx2.mono b12.size))
      have hN3 := Lib.hid (hN.on bx2)
      have hL3 := Lib.hid (HL.out.on B3.out)
      have s0 : (w2.alloc (.cells #[hv n.t, .slice A' n.v.length c', .slice none n.ks.length 0] 27)).cell? ⟨w2.heap.size, 0, none⟩ = some (hv n.t) := by rw [x2.cell]; rfl
      have s1 : (w2.alloc (.cells #[hv n.t, .slice A' n.v.length c', .slice none n.ks.length 0] 27)).cell? ⟨w2.heap.size, 1, none⟩ = some (.slice A' n.v.length c') := by rw [x2.cell]; rfl
      have s2 : (w2.alloc (.cells #[hv n.t, .slice A' n.v.length c', .slice none n.ks.length 0] 27)).cell? ⟨w2.heap.size, 2, none⟩ = some (.slice none n.ks.length 0) := by rw [x2.cell]; rfl
      have hlt := Lib.hid x2.lt
      have hx2 := Lib.hid x2
      have hI := ris_any n A' c' none 0 (w2.alloc (.cells #[hv n.t, .slice A' n.v.length c', .slice none n.ks.length 0] 27)) (Nat.le_trans hnk (by decide)) (Nat.le_trans hN.kc (by decide))
      rw [decide_eq_true hnn] at hI
      have hnd := Lib.hid hN.dc
      have Hnv := Lib.hid hnv
      have Hnk := Lib.hid hnk
      clear b12 hN b2 bx2 x2 hnn hnv hnk
      rcases hl with hl | hl
      all_goals
        first
          | (have d4 : ((l.length : Int) != 4) = true := by rw [bne_iff_ne]; omega
             have d16 : ((l.length : Int) != 16) = false := by rw [bne_eq_false_iff_eq]; omega)
          | (have d4 : ((l.length : Int) != 4) = false := by rw [bne_eq_false_iff_eq]; omega)
        clear hl
        go_wp2_with fail
        refine hI.mono ?_
        rintro e w4 ⟨rfl, b4⟩
        clear s0 s1 s2
        have s1 := (hx2.out.below b4 hlt.out).cell 1
        simp only [List.getElem?_toArray, List.getElem?_cons_succ, List.getElem?_cons_zero] at s1
        have hS := same_any A' A c' c w4.heap.size n.v l w4 (hN3.out.on b4).data (hL3.out.on b4) (Nat.le_trans Hnk.out (by decide))
        rw [decide_eq_true Hnv.out] at hS
        have B4 := Lib.hid (B3.out.trans (b4.mono B3.out.size))
        clear hI
        go_wp2_with fail
        refine hS.mono ?_
        rintro e w5 ⟨rfl, q, rfl⟩
        go_wp2_with fail
        go_ret
        exact ⟨rfl, below_drewN B4.out q⟩
    · skip
      have hN : Node w2 w2.heap.size none 0 none 0 (.mk 0 [] []) := zero_node w2
      have b12 := HB.out.trans (b2.mono HB.out.size)
      have bx2 : Below w2.heap.size w2 (w2.alloc (.cells #[.int .u16 0, .slice none 0 0, .slice none 0 0] 27)) := (Below.refl _ w2).alloc (Nat.le_refl _) _
      have x2 := Whole.new w2 27 #[.int .u16 0, .slice none 0 0, .slice none 0 0]
      have B3 := Lib.hid (b12.trans (bx2.mono b12.size))
      have hN3 := Lib.hid (hN.on bx2)
      have s0 : (w2.alloc (.cells #[.int .u16 0, .slice none 0 0, .slice none 0 0] 27)).cell? ⟨w2.heap.size, 0, none⟩ = some (.int .u16 0) := by rw [x2.cell]; rfl
      have s1 : (w2.alloc (.cells #[.int .u16 0, .slice none 0 0, .slice none 0 0] 27)).cell? ⟨w2.heap.size, 1, none⟩ = some (.slice none 0 0) := by rw [x2.cell]; rfl
      have s2 : (w2.alloc (.cells #[.int .u16 0, .slice none 0 0, .slice none 0 0] 27)).cell? ⟨w2.heap.size, 2, none⟩ = some (.slice none 0 0) := by rw [x2.cell]; rfl
      have hlt := Lib.hid x2.lt
      have hx2 := Lib.hid x2
      have hS := same9_any (.mk 0 [] []) (.mk 0 [] []) none 0 none 0 none 0 none 0 (w2.alloc (.cells #[.int .u16 0, .slice none 0 0, .slice none 0 0] 27)) hN3.out hN3.out
      rw [(Nd.beq_eq (.mk 0 [] []) (.mk 0 [] [])).2 rfl] at hS
      have d4 : ((l.length : Int) != 4) = true := by rw [bne_iff_ne]; omega
      have d16 : ((l.length : Int) != 16) = true := by rw [bne_iff_ne]; omega
      clear b12 hN b2 bx2 x2 hl
      go_wp2_with fail
      refine hS.mono ?_
      rintro e w4 ⟨rfl, b4⟩
      go_wp2_with fail
      go_ret
      exact ⟨rfl, B3.out.trans (b4.mono B3.out.size)⟩
end Go.Proofs.YtemeeeiglifpaaaDoor

/- Layer 9: mathematics of the law AddressHosts: when a node has a name, and which; bytes of a row as a string. -/


namespace Go.Proofs.YtemeeeiglifpaaaDoor
open Go.RowKit Go.Shelf

/-- what the law wants of a node that has a name -/
def wantB (n : Nd) : Bool := decide (n.t = 11) && decide (n.ks.length = 0) && decide (n.v.getLast? = some 0) && hostB (n.v.take (n.v.length - 1))
theorem last_back {v : List UInt8} (h : v.getLast? = some 0) : v.take (v.length - 1) ++ [0] = v := by
  obtain ⟨ys, rfl⟩ := List.getLast?_eq_some_iff.1 h
  simp
theorem nameB_want (n : Nd) : nameB n = wantB n := by
  obtain ⟨t, v, ks⟩ := n
  have e : nameB (.mk t v ks) = (hostB (trimZ v) && (Nd.mk t v ks).beq (.mk 11 (trimZ v ++ [0]) [])) := rfl
  have e2 : wantB (.mk t v ks) = (decide (t = 11) && decide (ks.length = 0) && decide (v.getLast? = some 0) && hostB (v.take (v.length - 1))) := rfl
  rw [e, e2, Bool.eq_iff_iff]
  simp only [Bool.and_eq_true, decide_eq_true_eq, Nd.beq_eq, Nd.mk.injEq]
  unfold trimZ
  by_cases h : v.getLast? = some 0
  · rw [if_pos h, List.dropLast_eq_take, last_back h]
    constructor
    · rintro ⟨h1, h2, _, h3⟩
      exact ⟨⟨⟨h2, by rw [h3]; rfl⟩, h⟩, h1⟩
    · rintro ⟨⟨⟨h1, h2⟩, _⟩, h3⟩
      exact ⟨h3, h1, rfl, List.eq_nil_of_length_eq_zero h2⟩
  · rw [if_neg h]
    constructor
    · rintro ⟨_, _, h2, _⟩
      have := congrArg List.length h2
      simp at this
    · rintro ⟨⟨_, h2⟩, _⟩
      exact absurd h2 h
theorem nameS_no {n : Nd} (h : wantB n = false) : nameS n = ⟨#[]⟩ := by
  unfold nameS
  rw [nameB_want, h]
  rfl
theorem nameS_yes {n : Nd} (h : wantB n = true) : nameS n = ⟨(n.v.take (n.v.length - 1)).toArray⟩ := by
  unfold nameS
  rw [nameB_want, h, if_pos rfl]
  have h2 : n.v.getLast? = some 0 := by
    unfold wantB at h
    simp only [Bool.and_eq_true, decide_eq_true_eq] at h
    exact h.1.2
  unfold trimZ
  rw [if_pos h2, List.dropLast_eq_take]
theorem want_host {l : List UInt8} (h : hostB l = true) : wantB (hostN l) = true := by
  have e : wantB (hostN l) = (decide ((11 : UInt16) = 11) && decide (([] : List Nd).length = 0) && decide ((l ++ [0]).getLast? = some (0 : UInt8)) && hostB ((l ++ [0]).take ((l ++ [(0 : UInt8)]).length - 1))) := rfl
  rw [e]
  simp [h]
theorem nameS_host {l : List UInt8} (h : hostB l = true) : nameS (hostN l) = ⟨l.toArray⟩ := by
  rw [nameS_yes (want_host h)]
  have : (hostN l).v.take ((hostN l).v.length - 1) = l := by
    show (l ++ [0]).take ((l ++ [(0 : UInt8)]).length - 1) = l
    simp
  rw [this]
theorem few_host (l : List UInt8) : Few1 (hostN l) := .mk (by show ([] : List Nd).length ≤ _; simp) (fun k hk => by cases hk)
end Go.Proofs.YtemeeeiglifpaaaDoor

/- Layer 9: closed facts for awake: the examples of the documentation. -/

namespace Go.Proofs.YtemeeeiglifpaaaDoor
open Go.RowKit Go.Shelf

/-- the example: the text and the bytes of an address, and a host's name -/
abbrev exT : List UInt8 := [49, 48, 46, 48, 46, 48, 46, 49]
abbrev exV : List UInt8 := [10, 0, 0, 1]
abbrev exH : List UInt8 := [97, 46, 98]
theorem ex_text : atx 5 exV = exT := by kernel_rfl
theorem ex_rp : rp exT = some (5, exV) := by rw [← ex_text]; exact rp_atx (.inl ⟨rfl, rfl⟩)
theorem ex_attx : attx (.mk 5 exV []) = exT := by rw [attx_of (.inl ⟨rfl, rfl⟩)]; exact ex_text
theorem ex_of : ofN exV = .mk 5 exV [] := rfl
theorem ex_host : hostB exH = true := by kernel_rfl
theorem ex_name : nameB (hostN exH) = true := by rw [nameB_want]; exact want_host ex_host
theorem ex_nameS : nameS (hostN exH) = ⟨#[97, 46, 98]⟩ := nameS_host ex_host
theorem ex_nof : nof (.mk 5 exV []) = 0 := by kernel_rfl
theorem ex_nofH : nof (hostN exH) = 2 := by kernel_rfl
theorem ex_lies (w : World) : Lies (w.alloc (.cells #[.int .u8 10, .int .u8 0, .int .u8 0, .int .u8 1] 5)) (w.alloc (.cells #[.int .u8 10, .int .u8 0, .int .u8 0, .int .u8 1] 5)).heap.size (some ⟨w.heap.size, 0, none⟩) (([10, 0, 0, 1] : List UInt8).map bv) := fun _ => by
  have h := Whole.new w 5 #[.int .u8 10, .int .u8 0, .int .u8 0, .int .u8 1]
  refine ⟨_, rfl, h.lt, fun j u hu => ?_⟩
  rw [add_row, h.cell, List.getElem?_toArray]
  exact hu
end Go.Proofs.YtemeeeiglifpaaaDoor

/- Layer 9: the law AddressHosts, for whatever string and node, if awake is right. It writes nothing that was there. -/




namespace Go.Proofs.YtemeeeiglifpaaaDoor
open Go.RowKit Go.Shelf

theorem few_len {n : Nd} (h : cnt 21 [n] ≤ 200) : n.v.length ≤ 300000 := by
  unfold cnt cl at h
  rw [if_pos (by omega)] at h
  unfold cl at h
  omega
theorem wrap_len {n : Nat} (h : n ≤ 300000) : wrap64 ((n : Int) - 1) = (n : Int) - 1 := by
  unfold wrap64
  omega
theorem want_no {n : Nd} (h : ((n.t.toNat : Int) == 11) = false ∨ ((n.ks.length : Int) == 0) = false ∨ ¬ (0 : Int) ≤ (n.v.length : Int) - 1 ∨ n.v.getLast? ≠ some 0 ∨ hostB (n.v.take (n.v.length - 1)) = false) : wantB n = false := by
  unfold wantB
  rcases h with h | h | h | h | h
  · have : n.t ≠ 11 := by
      intro e
      rw [e] at h
      exact absurd h (by decide)
    simp [this]
  · have : ¬ n.ks.length = 0 := by
      intro e
      rw [e] at h
      exact absurd h (by decide)
    simp [show ¬ n.ks = [] from fun e => this (by rw [e]; rfl)]
  · have : n.v = [] := List.eq_nil_of_length_eq_zero (by omega)
    simp [this]
  · simp [h]
  · rw [h, Bool.and_false]
theorem lies_at {w : World} {B : Nat} {ad : Addr} {v : List UInt8} (h : Lies w B (some ad) (v.map bv)) {j : Nat} {x : UInt8} (hx : v[j]? = some x) : w.cell? (ad.add j) = some (bv x) := by
  obtain ⟨ad', h1, _, h3⟩ := h (by intro e; have := List.map_eq_nil_iff.1 e; subst this; simp at hx)
  cases h1
  exact h3 j _ (by rw [List.getElem?_map, hx]; rfl)
theorem last_no {v : List UInt8} {x : UInt8} (h : v.getLast? = some x) (hx : ((x.toNat : Int) == 0) = false) : v.getLast? ≠ some 0 := by
  intro e
  rw [h] at e
  cases e
  exact absurd hx (by decide)
theorem want_yes {n : Nd} (h1 : ((n.t.toNat : Int) == 11) = true) (h2 : ((n.ks.length : Int) == 0) = true) (h3 : n.v.getLast? = some 0) (h4 : hostB (n.v.take (n.v.length - 1)) = true) : wantB n = true := by
  have e1 : n.t = 11 := UInt16.toNat_inj.1 (by show n.t.toNat = 11; have := beq_iff_eq.1 h1; omega)
  have e2 : n.ks.length = 0 := by have := beq_iff_eq.1 h2; omega
  unfold wantB
  rw [h3, h4, e1, e2]
  rfl
theorem app0 (s : ByteArray) : (⟨(s.data.toList ++ [0]).toArray⟩ : ByteArray) = s ++ ⟨#[0]⟩ := by
  apply ByteArray.ext
  rw [ByteArray.data_append]
  apply Array.ext'
  simp
set_option maxRecDepth 100000 in
set_option maxHeartbeats 8000000 in
theorem hosts_law (hA : Hid AwakeOK) (s : ByteArray) (n : Nd) (A : Option Addr) (c : Nat) (K : Option Addr) (k : Nat) (w : World) (hN : Node w w.heap.size A c K k n) (hb : Bnd n) (hT : AT w) (hE : Errs w) :
    Calls Tryd.prog 4 #[.string s, ndV n A c K k] w fun e w' => e = .returned (.bool true) ∧ Below w.heap.size w w' := by
  unfold ndV
  have b0 : Below w.heap.size w (w.alloc (.cells #[hv n.t, .slice A n.v.length c, .slice K n.ks.length k] 27)) := (Below.refl _ w).alloc (Nat.le_refl _) _
  have x0 := Whole.new w 27 #[hv n.t, .slice A n.v.length c, .slice K n.ks.length k]
  have HF := Lib.hid hb
  have hN0 := Lib.hid (hN.on b0)
  have HT := Lib.hid (hT.below b0)
  have HE := Lib.hid (hE.below b0)
  have HB := Lib.hid b0
  clear hb hN hT hE
  go_enter Tryd.func4, Tryd.ntmps4
  go_wp2_with fail
  generalize w.alloc (.cells #[hv n.t, .slice A n.v.length c, .slice K n.ks.length k] 27) = w0 at *
  clear b0
  have hlt0 := Lib.hid x0.lt
  refine (hA.out w0 HT.out HE.out).mono ?_
  rintro e w1 ⟨rfl, b1⟩
  have y0 := Lib.hid (x0.below b1 hlt0.out)
  have T1 := Lib.hid (HT.out.below b1)
  have E1 := Lib.hid (HE.out.below b1)
  have N1 := Lib.hid (hN0.out.on b1)
  have B1 := Lib.hid (HB.out.trans (b1.mono HB.out.size))
  have hlt1 := Lib.hid y0.out.lt
  clear x0 hN0 HT HE HB b1 hlt0
  cases hc1 : decide (s.size ≤ 500) with
  | false =>
    have hs := of_decide_eq_false hc1
    clear hc1
    go_wp2_with fail
    refine (hA.out w1 T1.out E1.out).mono ?_
    rintro e w2 ⟨rfl, b2⟩
    go_wp2_with fail
    go_ret
    exact ⟨rfl, B1.out.trans (b2.mono B1.out.size)⟩
  | true =>
    have hs := of_decide_eq_true hc1
    clear hc1
    have hF1 := few_one n A c K k w1 N1.out HF.out
    have s0 : w1.cell? ⟨w.heap.size, 0, none⟩ = some (hv n.t) := by rw [y0.out.cell]; rfl
    have s1 : w1.cell? ⟨w.heap.size, 1, none⟩ = some (.slice A n.v.length c) := by rw [y0.out.cell]; rfl
    have s2 : w1.cell? ⟨w.heap.size, 2, none⟩ = some (.slice K n.ks.length k) := by rw [y0.out.cell]; rfl
    cases hca : decide (cnt 21 [n] ≤ 200) with
    | false =>
      rw [hca] at hF1
      clear hca
      go_wp2_with fail
      refine hF1.mono ?_
      rintro e w2 ⟨rfl, b2⟩
      have hA2 := hA.out w2 (T1.out.below b2) (E1.out.below b2)
      go_wp2_with fail
      refine hA2.mono ?_
      rintro e w3 ⟨rfl, b3⟩
      go_wp2_with fail
      go_ret
      exact ⟨rfl, B1.out.trans ((b2.trans (b3.mono b2.size)).mono B1.out.size)⟩
    | true =>
      have HC1 := Lib.hid (few1_of (of_decide_eq_true hca))
      have HC2 := Lib.hid (few_len (of_decide_eq_true hca))
      rw [hca] at hF1
      clear hca
      go_wp2_with fail
      refine hF1.mono ?_
      rintro e w2 ⟨rfl, b2⟩
      have y2 := Lib.hid (y0.out.below b2 hlt1.out)
      have N2 := Lib.hid (N1.out.on b2)
      have B2 := Lib.hid (B1.out.trans (b2.mono B1.out.size))
      have hlt2 := Lib.hid y2.out.lt
      clear y0 N1 B1 hlt1 T1 E1 b2 s0 s1 s2 hF1 hA
      go_wp2_with fail
      refine (host_str s w2 (by omega)).mono ?_
      rintro e w3 ⟨b3, ⟨hh, A', c', rfl, hM⟩ | ⟨hh, rfl⟩⟩
      · obtain ⟨m, hm⟩ : ∃ m : Nd, hostN s.data.toList = m := ⟨_, rfl⟩
        rw [hm] at hM ⊢
        have y3 := y2.out.below b3 hlt2.out
        have b23 := Lib.hid b3
        have bx3 : Below w3.heap.size w3 (w3.alloc (.cells #[hv m.t, .slice A' m.v.length c', .slice none m.ks.length 0] 27)) := (Below.refl _ w3).alloc (Nat.le_refl _) _
        have x3 := Whole.new w3 27 #[hv m.t, .slice A' m.v.length c', .slice none m.ks.length 0]
        have hlt3 := Lib.hid y3.lt
        have hltx := Lib.hid x3.lt
        have y4 := Lib.hid (y3.below bx3 hlt3.out)
        have x4 := Lib.hid x3
        have B3 := B2.out.trans (b3.mono B2.out.size)
        have B4 := Lib.hid (B3.trans (bx3.mono B3.size))
        have N4 := Lib.hid ((N2.out.on b3).on bx3)
        have M4 := Lib.hid (hM.on bx3)
        have hR := rhost_any s (w3.alloc (.cells #[hv m.t, .slice A' m.v.length c', .slice none m.ks.length 0] 27)) (Nat.le_trans hs (by decide))
        rw [hh] at hR
        have Hh := Lib.hid hh
        have Hm := Lib.hid hm
        clear b3 bx3 x3 y3 y2 B3 hM hh N2 B2 hlt2 hlt3 hm
        go_wp2_with fail
        generalize (w3.alloc (.cells #[hv m.t, .slice A' m.v.length c', .slice none m.ks.length 0] 27)) = w4 at *
        refine hR.mono ?_
        rintro e w5 ⟨rfl, b5⟩
        have x5 := Lib.hid (x4.out.below b5 hltx.out)
        have y5 := Lib.hid (y4.out.below b5 y4.out.lt)
        have N5 := Lib.hid (N4.out.on b5)
        have M5 := Lib.hid (M4.out.on b5)
        have B5 := Lib.hid (B4.out.trans (b5.mono B4.out.size))
        clear hR b5 x4 y4 N4 M4 B4 hltx
        have p0 : w5.cell? ⟨w3.heap.size, 0, none⟩ = some (hv m.t) := by rw [x5.out.cell]; rfl
        have p1 : w5.cell? ⟨w3.heap.size, 1, none⟩ = some (.slice A' m.v.length c') := by rw [x5.out.cell]; rfl
        have p2 : w5.cell? ⟨w3.heap.size, 2, none⟩ = some (.slice none m.ks.length 0) := by rw [x5.out.cell]; rfl
        have hB : nameB m = true := by rw [← Hm.out, nameB_want, want_host Hh.out]
        have hSs : nameS m = s := by rw [← Hm.out, nameS_host Hh.out, str_back]
        have hmv : m.v = s.data.toList ++ [0] := by rw [← Hm.out]; rfl
        have hNm := name_any m A' c' none 0 w5 M5.out (by rw [← Hm.out]; exact few_host _) (by rw [hmv, List.length_append, List.length_singleton, Array.length_toList]; show s.size + 1 ≤ _; omega)
        rw [hB, hSs] at hNm
        have Hmv := Lib.hid hmv
        clear hB hSs hmv
        go_wp2_with fail
        refine hNm.mono ?_
        rintro e w6 ⟨rfl, b6⟩
        have x6 := Lib.hid (x5.out.below b6 x5.out.lt)
        have y6 := Lib.hid (y5.out.below b6 y5.out.lt)
        have N6 := Lib.hid (N5.out.on b6)
        have B6 := Lib.hid (B5.out.trans (b6.mono B5.out.size))
        have hcv := conv_lies (P := Tryd.prog) c' (M5.out.on b6).data 24 5 9 Tryd.underlying24 Tryd.underlying5 Tryd.underlying9
        clear hNm b6 x5 y5 N5 M5 B5 p0 p1 p2
        have p0 : w6.cell? ⟨w3.heap.size, 0, none⟩ = some (.int .u16 11) := by rw [x6.out.cell, ← Hm.out]; rfl
        have p1 : w6.cell? ⟨w3.heap.size, 1, none⟩ = some (.slice A' m.v.length c') := by rw [x6.out.cell]; rfl
        have p2 : w6.cell? ⟨w3.heap.size, 2, none⟩ = some (.slice none m.ks.length 0) := by rw [x6.out.cell]; rfl
        have hmq : (⟨m.v.toArray⟩ : ByteArray) = s ++ ⟨#[0]⟩ := by rw [Hmv.out]; exact app0 s
        have s0 : w6.cell? ⟨w.heap.size, 0, none⟩ = some (hv n.t) := by rw [y6.out.cell]; rfl
        have s1 : w6.cell? ⟨w.heap.size, 1, none⟩ = some (.slice A n.v.length c) := by rw [y6.out.cell]; rfl
        have s2 : w6.cell? ⟨w.heap.size, 2, none⟩ = some (.slice K n.ks.length k) := by rw [y6.out.cell]; rfl
        have hN := name_any n A c K k w6 N6.out HC1.out HC2.out
        rw [nameB_want] at hN
        have hwr : wrap64 ((n.v.length : Int) - 1) = (n.v.length : Int) - 1 := wrap_len HC2.out
        cases h1 : ((n.t.toNat : Int) == 11) with
        | false =>
          have hW : wantB n = false := by exact want_no (.inl h1)
          rw [hW, nameS_no hW] at hN
          clear hW
          go_wp2_with fail
          refine hN.mono ?_
          rintro e w7 ⟨rfl, b7⟩
          have s0 : w7.cell? ⟨w.heap.size, 0, none⟩ = some (hv n.t) := by rw [(y6.out.below b7 y6.out.lt).cell]; rfl
          have s1 : w7.cell? ⟨w.heap.size, 1, none⟩ = some (.slice A n.v.length c) := by rw [(y6.out.below b7 y6.out.lt).cell]; rfl
          have s2 : w7.cell? ⟨w.heap.size, 2, none⟩ = some (.slice K n.ks.length k) := by rw [(y6.out.below b7 y6.out.lt).cell]; rfl
          have N7 := Lib.hid (N6.out.on b7)
          have B7 := Lib.hid (B6.out.trans (b7.mono B6.out.size))
          clear hN b7
          go_wp2_with fail
          go_ret
          exact ⟨rfl, B7.out⟩
        | true =>
          cases h2 : ((n.ks.length : Int) == 0) with
          | false =>
            have hW : wantB n = false := by exact want_no (.inr (.inl h2))
            rw [hW, nameS_no hW] at hN
            clear hW
            go_wp2_with fail
            refine hN.mono ?_
            rintro e w7 ⟨rfl, b7⟩
            have s0 : w7.cell? ⟨w.heap.size, 0, none⟩ = some (hv n.t) := by rw [(y6.out.below b7 y6.out.lt).cell]; rfl
            have s1 : w7.cell? ⟨w.heap.size, 1, none⟩ = some (.slice A n.v.length c) := by rw [(y6.out.below b7 y6.out.lt).cell]; rfl
            have s2 : w7.cell? ⟨w.heap.size, 2, none⟩ = some (.slice K n.ks.length k) := by rw [(y6.out.below b7 y6.out.lt).cell]; rfl
            have N7 := Lib.hid (N6.out.on b7)
            have B7 := Lib.hid (B6.out.trans (b7.mono B6.out.size))
            clear hN b7
            go_wp2_with fail
            go_ret
            exact ⟨rfl, B7.out⟩
          | true =>
            by_cases h3 : (0 : Int) ≤ (n.v.length : Int) - 1
            case neg =>
              have hW : wantB n = false := by exact want_no (.inr (.inr (.inl h3)))
              rw [hW, nameS_no hW] at hN
              clear hW
              go_wp2_with fail
              refine hN.mono ?_
              rintro e w7 ⟨rfl, b7⟩
              have s0 : w7.cell? ⟨w.heap.size, 0, none⟩ = some (hv n.t) := by rw [(y6.out.below b7 y6.out.lt).cell]; rfl
              have s1 : w7.cell? ⟨w.heap.size, 1, none⟩ = some (.slice A n.v.length c) := by rw [(y6.out.below b7 y6.out.lt).cell]; rfl
              have s2 : w7.cell? ⟨w.heap.size, 2, none⟩ = some (.slice K n.ks.length k) := by rw [(y6.out.below b7 y6.out.lt).cell]; rfl
              have N7 := Lib.hid (N6.out.on b7)
              have B7 := Lib.hid (B6.out.trans (b7.mono B6.out.size))
              clear hN b7
              go_wp2_with fail
              go_ret
              exact ⟨rfl, B7.out⟩
            case pos =>
              obtain ⟨x, hx⟩ : ∃ x, n.v[n.v.length - 1]? = some x := ⟨_, List.getElem?_eq_getElem (by omega)⟩
              have hgl : n.v.getLast? = some x := by rw [List.getLast?_eq_getElem?, hx]
              obtain ⟨ad, hA1, _, _⟩ := N6.out.data (by intro e; have := congrArg List.length e; simp at this; rw [this] at h3; simp at h3)
              subst hA1
              have Hx := Lib.hid hx
              have Hgl := Lib.hid hgl
              have htn : ((n.v.length : Int) - 1).toNat = n.v.length - 1 := by omega
              have hlt : (n.v.length : Int) - 1 < (n.v.length : Int) := by omega
              have hcc : (n.v.length : Int) - 1 ≤ (c : Int) := by have := N6.out.dc; omega
              have hdc := N6.out.dc
              clear hx hgl
              cases h4 : ((x.toNat : Int) == 0) with
              | false =>
                have hW : wantB n = false := by exact want_no (.inr (.inr (.inr (.inl (last_no Hgl.out h4)))))
                rw [hW, nameS_no hW] at hN
                clear hW
                have s1 : w6.cell? ⟨w.heap.size, 1, none⟩ = some (.slice (some ad) n.v.length c) := s1
                go_wp2_with fail
                refine hN.mono ?_
                rintro e w7 ⟨rfl, b7⟩
                have s0 : w7.cell? ⟨w.heap.size, 0, none⟩ = some (hv n.t) := by rw [(y6.out.below b7 y6.out.lt).cell]; rfl
                have s1 : w7.cell? ⟨w.heap.size, 1, none⟩ = some (.slice (some ad) n.v.length c) := by rw [(y6.out.below b7 y6.out.lt).cell]; rfl
                have s2 : w7.cell? ⟨w.heap.size, 2, none⟩ = some (.slice K n.ks.length k) := by rw [(y6.out.below b7 y6.out.lt).cell]; rfl
                have N7 := Lib.hid (N6.out.on b7)
                have B7 := Lib.hid (B6.out.trans (b7.mono B6.out.size))
                clear hN b7
                have hce : w7.cell? (ad.add (n.v.length - 1)) = some (bv x) := lies_at N7.out.data Hx.out
                go_wp2_with fail
                go_ret
                exact ⟨rfl, B7.out⟩
              | true =>
                have hx0 : x = 0 := by have := of_decide_eq_true (show decide ((x.toNat : Int) = 0) = true by simpa using h4); exact UInt8.toNat_inj.1 (by show x.toNat = 0; omega)
                have hle : (n.v.take (n.v.length - 1)).length = n.v.length - 1 := by rw [List.length_take]; omega
                have Hle := Lib.hid hle
                clear hle
                cases h5 : hostB (n.v.take (n.v.length - 1)) with
                | false =>
                  have hW : wantB n = false := by exact want_no (.inr (.inr (.inr (.inr h5))))
                  rw [hW, nameS_no hW] at hN
                  have H5 := Lib.hid h5
                  clear hW h5 hx0
                  have s1 : w6.cell? ⟨w.heap.size, 1, none⟩ = some (.slice (some ad) n.v.length c) := s1
                  go_wp2_with fail
                  refine hN.mono ?_
                  rintro e w7 ⟨rfl, b7⟩
                  have s0 : w7.cell? ⟨w.heap.size, 0, none⟩ = some (hv n.t) := by rw [(y6.out.below b7 y6.out.lt).cell]; rfl
                  have s1 : w7.cell? ⟨w.heap.size, 1, none⟩ = some (.slice (some ad) n.v.length c) := by rw [(y6.out.below b7 y6.out.lt).cell]; rfl
                  have s2 : w7.cell? ⟨w.heap.size, 2, none⟩ = some (.slice K n.ks.length k) := by rw [(y6.out.below b7 y6.out.lt).cell]; rfl
                  have y7 := Lib.hid (y6.out.below b7 y6.out.lt)
                  have N7 := Lib.hid (N6.out.on b7)
                  have B7 := Lib.hid (B6.out.trans (b7.mono B6.out.size))
                  clear hN b7
                  have hce : w7.cell? (ad.add (n.v.length - 1)) = some (bv x) := lies_at N7.out.data Hx.out
                  have hL7 := (N7.out.data).take (n.v.length - 1)
                  rw [← List.map_take] at hL7
                  have hcv := conv_lies (P := Tryd.prog) c hL7 24 5 9 Tryd.underlying24 Tryd.underlying5 Tryd.underlying9
                  rw [Hle.out] at hcv
                  clear hL7
                  have hR := rhost_any ⟨(n.v.take (n.v.length - 1)).toArray⟩ w7 (by show (n.v.take (n.v.length - 1)).toArray.size ≤ _; rw [List.size_toArray, Hle.out]; have := HC2.out; omega)
                  rw [show hostB (⟨(n.v.take (n.v.length - 1)).toArray⟩ : ByteArray).data.toList = false from H5.out] at hR
                  generalize hTk : (⟨(n.v.take (n.v.length - 1)).toArray⟩ : ByteArray) = tk at *
                  have HTk := Lib.hid hTk
                  clear hTk
                  go_wp2_with fail
                  refine hR.mono ?_
                  rintro e w8 ⟨rfl, b8⟩
                  go_wp2_with fail
                  go_ret
                  exact ⟨rfl, B7.out.trans (b8.mono B7.out.size)⟩
                | true =>
                  have hW : wantB n = true := by exact want_yes h1 h2 (by rw [Hgl.out, hx0]) h5
                  rw [hW, nameS_yes hW] at hN
                  have H5 := Lib.hid h5
                  clear hW h5 hx0
                  have s1 : w6.cell? ⟨w.heap.size, 1, none⟩ = some (.slice (some ad) n.v.length c) := s1
                  go_wp2_with fail
                  refine hN.mono ?_
                  rintro e w7 ⟨rfl, b7⟩
                  have s0 : w7.cell? ⟨w.heap.size, 0, none⟩ = some (hv n.t) := by rw [(y6.out.below b7 y6.out.lt).cell]; rfl
                  have s1 : w7.cell? ⟨w.heap.size, 1, none⟩ = some (.slice (some ad) n.v.length c) := by rw [(y6.out.below b7 y6.out.lt).cell]; rfl
                  have s2 : w7.cell? ⟨w.heap.size, 2, none⟩ = some (.slice K n.ks.length k) := by rw [(y6.out.below b7 y6.out.lt).cell]; rfl
                  have y7 := Lib.hid (y6.out.below b7 y6.out.lt)
                  have N7 := Lib.hid (N6.out.on b7)
                  have B7 := Lib.hid (B6.out.trans (b7.mono B6.out.size))
                  clear hN b7
                  have hce : w7.cell? (ad.add (n.v.length - 1)) = some (bv x) := lies_at N7.out.data Hx.out
                  have hL7 := (N7.out.data).take (n.v.length - 1)
                  rw [← List.map_take] at hL7
                  have hcv := conv_lies (P := Tryd.prog) c hL7 24 5 9 Tryd.underlying24 Tryd.underlying5 Tryd.underlying9
                  rw [Hle.out] at hcv
                  clear hL7
                  have hR := rhost_any ⟨(n.v.take (n.v.length - 1)).toArray⟩ w7 (by show (n.v.take (n.v.length - 1)).toArray.size ≤ _; rw [List.size_toArray, Hle.out]; have := HC2.out; omega)
                  rw [show hostB (⟨(n.v.take (n.v.length - 1)).toArray⟩ : ByteArray).data.toList = true from H5.out] at hR
                  generalize hTk : (⟨(n.v.take (n.v.length - 1)).toArray⟩ : ByteArray) = tk at *
                  have HTk := Lib.hid hTk
                  clear hTk
                  go_wp2_with fail
                  refine hR.mono ?_
                  rintro e w8 ⟨rfl, b8⟩
                  have N8 := Lib.hid (N7.out.on b8)
                  clear s0 s1 s2 hcv
                  have s1 : w8.cell? ⟨w.heap.size, 1, none⟩ = some (.slice (some ad) n.v.length c) := by rw [(y7.out.below b8 y7.out.lt).cell]; rfl
                  have hL7 := (N8.out.data).take (n.v.length - 1)
                  rw [← List.map_take] at hL7
                  have hcv := conv_lies (P := Tryd.prog) c hL7 24 5 9 Tryd.underlying24 Tryd.underlying5 Tryd.underlying9
                  rw [Hle.out] at hcv
                  clear hL7
                  rw [HTk.out] at hcv
                  go_wp2_with fail
                  go_ret
                  exact ⟨rfl, B7.out.trans (b8.mono B7.out.size)⟩
      · have hM : Node w3 w3.heap.size none 0 none 0 (.mk 0 [] []) := zero_node w3
        have y3 := y2.out.below b3 hlt2.out
        have b23 := Lib.hid b3
        have bx3 : Below w3.heap.size w3 (w3.alloc (.cells #[.int .u16 0, .slice none 0 0, .slice none 0 0] 27)) := (Below.refl _ w3).alloc (Nat.le_refl _) _
        have x3 := Whole.new w3 27 #[.int .u16 0, .slice none 0 0, .slice none 0 0]
        have hlt3 := Lib.hid y3.lt
        have hltx := Lib.hid x3.lt
        have y4 := Lib.hid (y3.below bx3 hlt3.out)
        have x4 := Lib.hid x3
        have B3 := B2.out.trans (b3.mono B2.out.size)
        have B4 := Lib.hid (B3.trans (bx3.mono B3.size))
        have N4 := Lib.hid ((N2.out.on b3).on bx3)
        have M4 := Lib.hid (hM.on bx3)
        have hR := rhost_any s (w3.alloc (.cells #[.int .u16 0, .slice none 0 0, .slice none 0 0] 27)) (Nat.le_trans hs (by decide))
        rw [hh] at hR
        have Hh := Lib.hid hh
        clear b3 bx3 x3 y3 y2 B3 hM hh N2 B2 hlt2 hlt3
        go_wp2_with fail
        generalize (w3.alloc (.cells #[.int .u16 0, .slice none 0 0, .slice none 0 0] 27)) = w4 at *
        refine hR.mono ?_
        rintro e w5 ⟨rfl, b5⟩
        have x5 := Lib.hid (x4.out.below b5 hltx.out)
        have y5 := Lib.hid (y4.out.below b5 y4.out.lt)
        have N5 := Lib.hid (N4.out.on b5)
        have M5 := Lib.hid (M4.out.on b5)
        have B5 := Lib.hid (B4.out.trans (b5.mono B4.out.size))
        clear hR b5 x4 y4 N4 M4 B4 hltx
        have p0 : w5.cell? ⟨w3.heap.size, 0, none⟩ = some (.int .u16 0) := by rw [x5.out.cell]; rfl
        have p1 : w5.cell? ⟨w3.heap.size, 1, none⟩ = some (.slice none 0 0) := by rw [x5.out.cell]; rfl
        have p2 : w5.cell? ⟨w3.heap.size, 2, none⟩ = some (.slice none 0 0) := by rw [x5.out.cell]; rfl
        have hS := same9_any (.mk 0 [] []) (.mk 0 [] []) none 0 none 0 none 0 none 0 w5 M5.out M5.out
        rw [(Nd.beq_eq (.mk 0 [] []) (.mk 0 [] [])).2 rfl] at hS
        have s0 : w5.cell? ⟨w.heap.size, 0, none⟩ = some (hv n.t) := by rw [y5.out.cell]; rfl
        have s1 : w5.cell? ⟨w.heap.size, 1, none⟩ = some (.slice A n.v.length c) := by rw [y5.out.cell]; rfl
        have s2 : w5.cell? ⟨w.heap.size, 2, none⟩ = some (.slice K n.ks.length k) := by rw [y5.out.cell]; rfl
        go_wp2_with fail
        refine hS.mono ?_
        rintro e w6 ⟨rfl, b6⟩
        have y6 := Lib.hid (y5.out.below b6 y5.out.lt)
        have N6 := Lib.hid (N5.out.on b6)
        have B6 := Lib.hid (B5.out.trans (b6.mono B5.out.size))
        clear hS b6 x5 y5 N5 M5 B5 p0 p1 p2 s0 s1 s2
        have s0 : w6.cell? ⟨w.heap.size, 0, none⟩ = some (hv n.t) := by rw [y6.out.cell]; rfl
        have s1 : w6.cell? ⟨w.heap.size, 1, none⟩ = some (.slice A n.v.length c) := by rw [y6.out.cell]; rfl
        have s2 : w6.cell? ⟨w.heap.size, 2, none⟩ = some (.slice K n.ks.length k) := by rw [y6.out.cell]; rfl
        have hN := name_any n A c K k w6 N6.out HC1.out HC2.out
        rw [nameB_want] at hN
        have hwr : wrap64 ((n.v.length : Int) - 1) = (n.v.length : Int) - 1 := wrap_len HC2.out
        cases h1 : ((n.t.toNat : Int) == 11) with
        | false =>
          have hW : wantB n = false := by exact want_no (.inl h1)
          rw [hW, nameS_no hW] at hN
          clear hW
          go_wp2_with fail
          refine hN.mono ?_
          rintro e w7 ⟨rfl, b7⟩
          have s0 : w7.cell? ⟨w.heap.size, 0, none⟩ = some (hv n.t) := by rw [(y6.out.below b7 y6.out.lt).cell]; rfl
          have s1 : w7.cell? ⟨w.heap.size, 1, none⟩ = some (.slice A n.v.length c) := by rw [(y6.out.below b7 y6.out.lt).cell]; rfl
          have s2 : w7.cell? ⟨w.heap.size, 2, none⟩ = some (.slice K n.ks.length k) := by rw [(y6.out.below b7 y6.out.lt).cell]; rfl
          have N7 := Lib.hid (N6.out.on b7)
          have B7 := Lib.hid (B6.out.trans (b7.mono B6.out.size))
          clear hN b7
          go_wp2_with fail
          go_ret
          exact ⟨rfl, B7.out⟩
        | true =>
          cases h2 : ((n.ks.length : Int) == 0) with
          | false =>
            have hW : wantB n = false := by exact want_no (.inr (.inl h2))
            rw [hW, nameS_no hW] at hN
            clear hW
            go_wp2_with fail
            refine hN.mono ?_
            rintro e w7 ⟨rfl, b7⟩
            have s0 : w7.cell? ⟨w.heap.size, 0, none⟩ = some (hv n.t) := by rw [(y6.out.below b7 y6.out.lt).cell]; rfl
            have s1 : w7.cell? ⟨w.heap.size, 1, none⟩ = some (.slice A n.v.length c) := by rw [(y6.out.below b7 y6.out.lt).cell]; rfl
            have s2 : w7.cell? ⟨w.heap.size, 2, none⟩ = some (.slice K n.ks.length k) := by rw [(y6.out.below b7 y6.out.lt).cell]; rfl
            have N7 := Lib.hid (N6.out.on b7)
            have B7 := Lib.hid (B6.out.trans (b7.mono B6.out.size))
            clear hN b7
            go_wp2_with fail
            go_ret
            exact ⟨rfl, B7.out⟩
          | true =>
            by_cases h3 : (0 : Int) ≤ (n.v.length : Int) - 1
            case neg =>
              have hW : wantB n = false := by exact want_no (.inr (.inr (.inl h3)))
              rw [hW, nameS_no hW] at hN
              clear hW
              go_wp2_with fail
              refine hN.mono ?_
              rintro e w7 ⟨rfl, b7⟩
              have s0 : w7.cell? ⟨w.heap.size, 0, none⟩ = some (hv n.t) := by rw [(y6.out.below b7 y6.out.lt).cell]; rfl
              have s1 : w7.cell? ⟨w.heap.size, 1, none⟩ = some (.slice A n.v.length c) := by rw [(y6.out.below b7 y6.out.lt).cell]; rfl
              have s2 : w7.cell? ⟨w.heap.size, 2, none⟩ = some (.slice K n.ks.length k) := by rw [(y6.out.below b7 y6.out.lt).cell]; rfl
              have N7 := Lib.hid (N6.out.on b7)
              have B7 := Lib.hid (B6.out.trans (b7.mono B6.out.size))
              clear hN b7
              go_wp2_with fail
              go_ret
              exact ⟨rfl, B7.out⟩
            case pos =>
              obtain ⟨x, hx⟩ : ∃ x, n.v[n.v.length - 1]? = some x := ⟨_, List.getElem?_eq_getElem (by omega)⟩
              have hgl : n.v.getLast? = some x := by rw [List.getLast?_eq_getElem?, hx]
              obtain ⟨ad, hA1, _, _⟩ := N6.out.data (by intro e; have := congrArg List.length e; simp at this; rw [this] at h3; simp at h3)
              subst hA1
              have Hx := Lib.hid hx
              have Hgl := Lib.hid hgl
              have htn : ((n.v.length : Int) - 1).toNat = n.v.length - 1 := by omega
              have hlt : (n.v.length : Int) - 1 < (n.v.length : Int) := by omega
              have hcc : (n.v.length : Int) - 1 ≤ (c : Int) := by have := N6.out.dc; omega
              have hdc := N6.out.dc
              clear hx hgl
              cases h4 : ((x.toNat : Int) == 0) with
              | false =>
                have hW : wantB n = false := by exact want_no (.inr (.inr (.inr (.inl (last_no Hgl.out h4)))))
                rw [hW, nameS_no hW] at hN
                clear hW
                have s1 : w6.cell? ⟨w.heap.size, 1, none⟩ = some (.slice (some ad) n.v.length c) := s1
                go_wp2_with fail
                refine hN.mono ?_
                rintro e w7 ⟨rfl, b7⟩
                have s0 : w7.cell? ⟨w.heap.size, 0, none⟩ = some (hv n.t) := by rw [(y6.out.below b7 y6.out.lt).cell]; rfl
                have s1 : w7.cell? ⟨w.heap.size, 1, none⟩ = some (.slice (some ad) n.v.length c) := by rw [(y6.out.below b7 y6.out.lt).cell]; rfl
                have s2 : w7.cell? ⟨w.heap.size, 2, none⟩ = some (.slice K n.ks.length k) := by rw [(y6.out.below b7 y6.out.lt).cell]; rfl
                have N7 := Lib.hid (N6.out.on b7)
                have B7 := Lib.hid (B6.out.trans (b7.mono B6.out.size))
                clear hN b7
                have hce : w7.cell? (ad.add (n.v.length - 1)) = some (bv x) := lies_at N7.out.data Hx.out
                go_wp2_with fail
                go_ret
                exact ⟨rfl, B7.out⟩
              | true =>
                have hx0 : x = 0 := by have := of_decide_eq_true (show decide ((x.toNat : Int) = 0) = true by simpa using h4); exact UInt8.toNat_inj.1 (by show x.toNat = 0; omega)
                have hle : (n.v.take (n.v.length - 1)).length = n.v.length - 1 := by rw [List.length_take]; omega
                have Hle := Lib.hid hle
                clear hle
                cases h5 : hostB (n.v.take (n.v.length - 1)) with
                | false =>
                  have hW : wantB n = false := by exact want_no (.inr (.inr (.inr (.inr h5))))
                  rw [hW, nameS_no hW] at hN
                  have H5 := Lib.hid h5
                  clear hW h5 hx0
                  have s1 : w6.cell? ⟨w.heap.size, 1, none⟩ = some (.slice (some ad) n.v.length c) := s1
                  go_wp2_with fail
                  refine hN.mono ?_
                  rintro e w7 ⟨rfl, b7⟩
                  have s0 : w7.cell? ⟨w.heap.size, 0, none⟩ = some (hv n.t) := by rw [(y6.out.below b7 y6.out.lt).cell]; rfl
                  have s1 : w7.cell? ⟨w.heap.size, 1, none⟩ = some (.slice (some ad) n.v.length c) := by rw [(y6.out.below b7 y6.out.lt).cell]; rfl
                  have s2 : w7.cell? ⟨w.heap.size, 2, none⟩ = some (.slice K n.ks.length k) := by rw [(y6.out.below b7 y6.out.lt).cell]; rfl
                  have y7 := Lib.hid (y6.out.below b7 y6.out.lt)
                  have N7 := Lib.hid (N6.out.on b7)
                  have B7 := Lib.hid (B6.out.trans (b7.mono B6.out.size))
                  clear hN b7
                  have hce : w7.cell? (ad.add (n.v.length - 1)) = some (bv x) := lies_at N7.out.data Hx.out
                  have hL7 := (N7.out.data).take (n.v.length - 1)
                  rw [← List.map_take] at hL7
                  have hcv := conv_lies (P := Tryd.prog) c hL7 24 5 9 Tryd.underlying24 Tryd.underlying5 Tryd.underlying9
                  rw [Hle.out] at hcv
                  clear hL7
                  have hR := rhost_any ⟨(n.v.take (n.v.length - 1)).toArray⟩ w7 (by show (n.v.take (n.v.length - 1)).toArray.size ≤ _; rw [List.size_toArray, Hle.out]; have := HC2.out; omega)
                  rw [show hostB (⟨(n.v.take (n.v.length - 1)).toArray⟩ : ByteArray).data.toList = false from H5.out] at hR
                  generalize hTk : (⟨(n.v.take (n.v.length - 1)).toArray⟩ : ByteArray) = tk at *
                  have HTk := Lib.hid hTk
                  clear hTk
                  go_wp2_with fail
                  refine hR.mono ?_
                  rintro e w8 ⟨rfl, b8⟩
                  go_wp2_with fail
                  go_ret
                  exact ⟨rfl, B7.out.trans (b8.mono B7.out.size)⟩
                | true =>
                  have hW : wantB n = true := by exact want_yes h1 h2 (by rw [Hgl.out, hx0]) h5
                  rw [hW, nameS_yes hW] at hN
                  have H5 := Lib.hid h5
                  clear hW h5 hx0
                  have s1 : w6.cell? ⟨w.heap.size, 1, none⟩ = some (.slice (some ad) n.v.length c) := s1
                  go_wp2_with fail
                  refine hN.mono ?_
                  rintro e w7 ⟨rfl, b7⟩
                  have s0 : w7.cell? ⟨w.heap.size, 0, none⟩ = some (hv n.t) := by rw [(y6.out.below b7 y6.out.lt).cell]; rfl
                  have s1 : w7.cell? ⟨w.heap.size, 1, none⟩ = some (.slice (some ad) n.v.length c) := by rw [(y6.out.below b7 y6.out.lt).cell]; rfl
                  have s2 : w7.cell? ⟨w.heap.size, 2, none⟩ = some (.slice K n.ks.length k) := by rw [(y6.out.below b7 y6.out.lt).cell]; rfl
                  have y7 := Lib.hid (y6.out.below b7 y6.out.lt)
                  have N7 := Lib.hid (N6.out.on b7)
                  have B7 := Lib.hid (B6.out.trans (b7.mono B6.out.size))
                  clear hN b7
                  have hce : w7.cell? (ad.add (n.v.length - 1)) = some (bv x) := lies_at N7.out.data Hx.out
                  have hL7 := (N7.out.data).take (n.v.length - 1)
                  rw [← List.map_take] at hL7
                  have hcv := conv_lies (P := Tryd.prog) c hL7 24 5 9 Tryd.underlying24 Tryd.underlying5 Tryd.underlying9
                  rw [Hle.out] at hcv
                  clear hL7
                  have hR := rhost_any ⟨(n.v.take (n.v.length - 1)).toArray⟩ w7 (by show (n.v.take (n.v.length - 1)).toArray.size ≤ _; rw [List.size_toArray, Hle.out]; have := HC2.out; omega)
                  rw [show hostB (⟨(n.v.take (n.v.length - 1)).toArray⟩ : ByteArray).data.toList = true from H5.out] at hR
                  generalize hTk : (⟨(n.v.take (n.v.length - 1)).toArray⟩ : ByteArray) = tk at *
                  have HTk := Lib.hid hTk
                  clear hTk
                  go_wp2_with fail
                  refine hR.mono ?_
                  rintro e w8 ⟨rfl, b8⟩
                  have N8 := Lib.hid (N7.out.on b8)
                  clear s0 s1 s2 hcv
                  have s1 : w8.cell? ⟨w.heap.size, 1, none⟩ = some (.slice (some ad) n.v.length c) := by rw [(y7.out.below b8 y7.out.lt).cell]; rfl
                  have hL7 := (N8.out.data).take (n.v.length - 1)
                  rw [← List.map_take] at hL7
                  have hcv := conv_lies (P := Tryd.prog) c hL7 24 5 9 Tryd.underlying24 Tryd.underlying5 Tryd.underlying9
                  rw [Hle.out] at hcv
                  clear hL7
                  rw [HTk.out] at hcv
                  go_wp2_with fail
                  go_ret
                  exact ⟨rfl, B7.out.trans (b8.mono B7.out.size)⟩
end Go.Proofs.YtemeeeiglifpaaaDoor

/- Layer 9: the three laws at the program's own arguments and variables, if awake is right (a premise here: the claims want AwakeOK itself ahead of them). -/




namespace Go.Proofs.YtemeeeiglifpaaaDoor
open Go.ChangeShapes Go.WideShapes Go.ChangeAt Go.RowKit
open Go.ChangeMaps (open_string)

section
variable {H : Type} {enc : TypeId × Value → H} {W : World} {base : Nat} {v0 v1 : Value} {d0 d1 : DataW H} {p0 p1 : List MemPlace}
set_option maxRecDepth 100000 in
theorem parses_door (hA : Hid AwakeOK) (o0 : Value.okWide Tryd.prog W .any base 9 v0) (h0 : DataW.Trod enc Tryd.prog W 0 (fun _ => true) true 9 v0 d0 p0) (hL : laidMetH Tryd.prog laidL W) :
    Calls Tryd.prog 3 #[v0] W fun e w' => e = .returned (.bool true) ∧ Below W.heap.size W w' := by
  obtain ⟨s, rfl, _⟩ := open_string Tryd.underlying9 o0 h0
  exact parses_law hA s W (at_of_laid hL) (errs_of_laid hL)
set_option maxRecDepth 100000 in
theorem bytes_door (hA : Hid AwakeOK) (o0 : Value.okWide Tryd.prog W .any base 24 v0) (h0 : DataW.Trod enc Tryd.prog W 0 (fun _ => true) true 24 v0 d0 p0) (hL : laidMetH Tryd.prog laidL W) :
    Calls Tryd.prog 5 #[v0] W fun e w' => e = .returned (.bool true) ∧ Below W.heap.size W w' := by
  obtain ⟨A, len, c, rfl⟩ := okWide_slice Tryd.underlying24 o0
  obtain ⟨fuel, hf⟩ := h0
  obtain ⟨l, rfl, h1, h2, h3⟩ := open_bytes Tryd.underlying24 Tryd.underlying5 (by kernel_rfl) hf
  exact bytes_law hA A c l W (at_of_laid hL) (errs_of_laid hL) h1 h2 h3
set_option maxRecDepth 100000 in
theorem hosts_door (hA : Hid AwakeOK) (o0 : Value.okWide Tryd.prog W .any base 9 v0) (h0 : DataW.Trod enc Tryd.prog W 0 (fun _ => true) true 9 v0 d0 p0)
    (o1 : Value.okWide Tryd.prog W .any base 27 v1) (h1 : DataW.Trod enc Tryd.prog W 0 (fun _ => true) true 27 v1 d1 p1) (s1 : Small Tryd.prog 27 d1) (hL : laidMetH Tryd.prog laidL W) :
    Calls Tryd.prog 4 #[v0, v1] W fun e w' => e = .returned (.bool true) ∧ Below W.heap.size W w' := by
  obtain ⟨s, rfl, _⟩ := open_string Tryd.underlying9 o0 h0
  obtain ⟨n, A, c, K, k, rfl, hN, hb⟩ := open_node o1 h1 s1
  exact hosts_law hA s n A c K k W hN hb (at_of_laid hL) (errs_of_laid hL)
end
end Go.Proofs.YtemeeeiglifpaaaDoor

