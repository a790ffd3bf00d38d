/- CauseE + CauseF -/
import Derived.Test.YtdnilbebdgohnaaCauseCD
import Derived.Test.YtdnilbebdgohnaaWireC
import Derived.Test.YtdnilbebdgohnaaShapeDT
import Derived.Test.YtdnilbebdgohnaaNodeKR


namespace Go.Proofs.Ytdnilbebdgohnaa
open Go.RowKit

theorem lies_numT (w : World) : Lies ((w.alloc (.cells #[.int .u16 1, .int .u16 3, .int .u16 9] 22)).alloc (.cells #[.slice (some ⟨w.heap.size, 0, none⟩) 3 3] 37)) (w.heap.size + 2) (some ⟨w.heap.size, 0, none⟩) (numT.map hv) :=
  lies_two w (.cells #[.slice (some ⟨w.heap.size, 0, none⟩) 3 3] 37) numT
/-- ofNumber, for what calls its closure at once -/
theorem ofNumber_at (w : World) : Calls Try.prog 26 #[] w fun e w' => ∃ g, e = .returned (.func (.func 43) #[] #[.pointer (some ⟨g, 0, none⟩)]) ∧ Below w.heap.size w w' ∧
    Whole w' g 37 #[.slice (some ⟨w.heap.size, 0, none⟩) 3 3] ∧ Lies w' w'.heap.size (some ⟨w.heap.size, 0, none⟩) (numT.map hv) ∧ g < w'.heap.size := by
  refine (ofNumber_any w).mono ?_
  rintro e w1 ⟨rfl, rfl⟩
  refine ⟨_, rfl, ((Below.refl _ _).alloc (Nat.le_refl _) _).alloc (by simp) _, wnew1 _ _ _ _, (lies_numT w).more (by simp), by simp⟩
/-- what a closure of numbers says of a node, wherever it is asked -/
theorem rightN_at (n : Nd) (A : Option Addr) (c : Nat) (K : Option Addr) (k g g0 : Nat) (w V : World) (hV : Below w.heap.size w V) (hg : Whole w g 37 #[.slice (some ⟨g0, 0, none⟩) 3 3]) (hL : Lies w w.heap.size (some ⟨g0, 0, none⟩) (numT.map hv))
    (hN : Node w w.heap.size A c K k n) (hf : Fine n) : Calls Try.prog 43 #[.agg #[hv n.t, .slice A n.v.length c, .slice K n.ks.length k], .pointer (some ⟨g, 0, none⟩)] V (RetN V (rightO numT n)) :=
  right1_any numT (some ⟨g0, 0, none⟩) 3 g n A c K k V (hg.below hV hg.lt) ((hL.below hV).more hV.size) (by decide) (hN.on hV) hf
def NdAt (V : World) (g : Nat) (n : Nd) (A : Option Addr) (c : Nat) (K : Option Addr) (k : Nat) : Prop := V.cell? ⟨g, 0, none⟩ = some (hv n.t) ∧ V.cell? ⟨g, 1, none⟩ = some (.slice A n.v.length c) ∧ V.cell? ⟨g, 2, none⟩ = some (.slice K n.ks.length k)
theorem ndAt_of {w V : World} {g : Nat} {n : Nd} {A : Option Addr} {c : Nat} {K : Option Addr} {k : Nat} (h : NdBox w g n A c K k) (hV : Below w.heap.size w V) : NdAt V g n A c K k := ⟨(h.below hV).c0, (h.below hV).c1, (h.below hV).c2⟩

set_option maxRecDepth 100000 in
set_option maxHeartbeats 2000000 in
theorem value10_no (n : Nd) (A : Option Addr) (c : Nat) (K : Option Addr) (k : Nat) (w : World) (hN : Node w w.heap.size A c K k n) (hf : Fine n) (hno : okC numT n = false) :
    Calls Try.prog 13 #[ndV n A c K k] w fun e w' => e = .returned (.tuple #[.int .u32 0, .bool false]) ∧ Below w.heap.size w w' := by
  unfold ndV
  have b0 : Below w.heap.size w (w.alloc (.cells #[hv n.t, .slice A n.v.length c, .slice K n.ks.length k] 28)) := (Below.refl _ _).alloc (Nat.le_refl _) _
  have x0 : NdBox (w.alloc (.cells #[hv n.t, .slice A n.v.length c, .slice K n.ks.length k] 28)) w.heap.size n A c K k := Whole.new w 28 #[hv n.t, .slice A n.v.length c, .slice K n.ks.length k]
  have hN0 := hN.on b0
  have HF := Lib.hid hf
  have HO : Hid (rightO numT n = none) := by unfold Hid rightO; rw [if_neg (by rw [hno]; simp)]
  have HB := Lib.hid b0
  clear hN hf hno
  go_enter Try.func13, Try.ntmps13
  go_upto_region 1 with fail
  generalize w.alloc (.cells #[hv n.t, .slice A n.v.length c, .slice K n.ks.length k] 28) = w0 at *
  clear b0
  have KS : Hid (∀ V, Below w0.heap.size w0 V → NdAt V w.heap.size n A c K k) := fun V hV => ndAt_of x0 hV
  have hlt := Whole.lt x0
  have hne : w.heap.size ≠ w0.heap.size := by omega
  obtain ⟨s0, s1, s2⟩ := KS.out w0 (Below.refl _ _)
  have HN := Lib.hid hN0
  clear hN0 x0
  unfold NdAt at KS
  go_region_held3 (fun V => V.cell? ⟨w.heap.size, 0, none⟩ = some (hv n.t) ∧ V.cell? ⟨w.heap.size, 1, none⟩ = some (.slice A n.v.length c) ∧ V.cell? ⟨w.heap.size, 2, none⟩ = some (.slice K n.ks.length k))
    (first | exact KS.out _ (below_drew (Below.refl _ _)) | exact KS.out _ (below_drew ((Below.refl _ _).alloc (Nat.le_refl _) _)) | exact KS.out _ R1 | exact KS.out _ (R1.alloc R1.size _) | exact KS.out _ R2 | exact KS.out _ (R2.alloc R2.size _) | exact KS.out _ (((R2.setCell (by first | exact Nat.le_refl _ | exact R1.size) _).setCell (by first | exact Nat.le_refl _ | exact R1.size) _).setCell (by first | exact Nat.le_refl _ | exact R1.size) _) | fail)
    (first
    | (go_at_call 26; (with_reducible refine (ofNumber_at _).mono ?_); rintro e w1 ⟨g1, rfl, b1, hg1, hL1, lt1⟩; have R1 : Below w0.heap.size w0 w1 := (by first | exact below_undrew b1 | exact ((below_drew ((Below.refl _ _).alloc (Nat.le_refl _) _)).trans (b1.mono (by simp)))); have hne1 : w.heap.size ≠ w1.heap.size := (by have := R1.size; omega); (try have q1 : Whole w1 w0.heap.size 28 #[.int .u16 0, .slice none 0 0, .slice none 0 0] := (Whole.drew (Whole.new w0 _ _)).below b1 (by simp)))
    | (go_at_call 43; (with_reducible refine (rightN_at n A c K k _ _ w1 _ (by first | exact Below.refl _ _ | exact (Below.refl _ _).alloc (Nat.le_refl _) _ | fail) hg1 hL1 (HN.out.on R1) HF.out).mono ?_); rintro e w2 ⟨b2, A3, c3, K3, k3, rfl, hN3⟩; rw [HO.out]; have R2 : Below w0.heap.size w0 w2 := (by first | exact R1.trans (b2.mono R1.size) | exact (R1.alloc R1.size _).trans (b2.mono (by have := R1.size; simp; omega))); have hne2 : w.heap.size ≠ w2.heap.size := (by have := R2.size; omega); (first | (have q2 := q1.below b2 q1.lt; obtain ⟨z10, z11, z12, z13, z14, z15⟩ := q2.three) | (have q2 := (Whole.new w1 28 #[.int .u16 0, .slice none 0 0, .slice none 0 0]).below b2 (by simp); obtain ⟨z10, z11, z12, z13, z14, z15⟩ := q2.three) | skip))
    | fail)
  all_goals
    go_wp2_with fail
    go_ret2
    refine ⟨rfl, HB.out.trans ((?_ : Below w0.heap.size w0 _).mono HB.out.size)⟩
    first | exact R2.alloc R2.size _ | exact ((R2.setCell (by first | exact Nat.le_refl _ | exact R1.size) _).setCell (by first | exact Nat.le_refl _ | exact R1.size) _).setCell (by first | exact Nat.le_refl _ | exact R1.size) _

set_option maxRecDepth 100000 in
set_option maxHeartbeats 4000000 in
theorem value10_yes (n : Nd) (A : Option Addr) (c : Nat) (K : Option Addr) (k : Nat) (w : World) (hN : Node w w.heap.size A c K k n) (hf : Fine n) (hyes : okC numT n = true) (hl4 : n.v.length = 4) :
    Calls Try.prog 13 #[ndV n A c K k] w fun e w' => e = .returned (.tuple #[.int .u32 (((valO n).getD 0 : Nat) : Int), .bool (valO n).isSome]) ∧ Below w.heap.size w w' := by
  have HX : Hid (numOf ((n.v.drop 0).take 4) = numOf n.v) := by unfold Hid; rw [List.drop_zero, List.take_of_length_le (by omega)]
  have HQ : Hid ((((n.t.toNat : Int) == 1) = false ∧ valO n = some (numOf n.v)) ∨ (((n.t.toNat : Int) == 1) = true ∧ numOf n.v % 65536 = 0 ∧ valO n = some (numOf n.v / 65536)) ∨ (((n.t.toNat : Int) == 1) = true ∧ numOf n.v % 65536 ≠ 0 ∧ valO n = none)) := by
    unfold Hid valO
    rw [if_pos hyes]
    by_cases h1 : n.t = 1
    · have e1 : ((n.t.toNat : Int) == 1) = true := by rw [h1]; rfl
      rw [if_pos h1]
      by_cases h2 : numOf n.v % 65536 = 0
      · rw [if_pos h2]; exact .inr (.inl ⟨e1, h2, rfl⟩)
      · rw [if_neg h2]; exact .inr (.inr ⟨e1, h2, rfl⟩)
    · rw [if_neg h1]
      refine .inl ⟨?_, rfl⟩
      rw [beq_eq_false_iff_ne]
      exact fun e => h1 (UInt16.toNat_inj.1 (by have : (1 : UInt16).toNat = 1 := rfl; omega))
  have HL4 := Lib.hid hl4
  have HLT := Lib.hid (numOf_lt n.v)
  generalize valO n = r at *
  unfold ndV
  have b0 : Below w.heap.size w (w.alloc (.cells #[hv n.t, .slice A n.v.length c, .slice K n.ks.length k] 28)) := (Below.refl _ _).alloc (Nat.le_refl _) _
  have x0 : NdBox (w.alloc (.cells #[hv n.t, .slice A n.v.length c, .slice K n.ks.length k] 28)) w.heap.size n A c K k := Whole.new w 28 #[hv n.t, .slice A n.v.length c, .slice K n.ks.length k]
  have hN0 := hN.on b0
  have HF := Lib.hid hf
  have HO : Hid (rightO numT n = some n) := by unfold Hid rightO; rw [if_pos hyes]
  have HB := Lib.hid b0
  clear hN hf hyes hl4
  go_enter Try.func13, Try.ntmps13
  go_upto_region 1 with fail
  generalize w.alloc (.cells #[hv n.t, .slice A n.v.length c, .slice K n.ks.length k] 28) = w0 at *
  clear b0
  have KS : Hid (∀ V, Below w0.heap.size w0 V → NdAt V w.heap.size n A c K k) := fun V hV => ndAt_of x0 hV
  have hlt := Whole.lt x0
  have hne : w.heap.size ≠ w0.heap.size := by omega
  obtain ⟨s0, s1, s2⟩ := KS.out w0 (Below.refl _ _)
  have HN := Lib.hid hN0
  have HW : Hid (∀ V, Below w0.heap.size w0 V → Calls Try.prog 29 #[.slice A n.v.length c] V fun e w' => ∃ g A2 c2, e = .returned (.pointer (some ⟨g, 0, none⟩)) ∧ Rdr w' V.heap.size g A2 c2 n.v 0 ∧ Below V.heap.size V w') :=
    fun V hV => new_any A c n.v V (HN.out.on hV).data HN.out.dc HN.out.dm (by have := HL4.out; omega)
  clear hN0 x0
  unfold NdAt at KS
  go_region_held3 (fun V => V.cell? ⟨w.heap.size, 0, none⟩ = some (hv n.t) ∧ V.cell? ⟨w.heap.size, 1, none⟩ = some (.slice A n.v.length c) ∧ V.cell? ⟨w.heap.size, 2, none⟩ = some (.slice K n.ks.length k))
    (first | exact KS.out _ (below_drew (Below.refl _ _)) | exact KS.out _ (below_drew ((Below.refl _ _).alloc (Nat.le_refl _) _)) | exact KS.out _ R1 | exact KS.out _ (R1.alloc R1.size _) | exact KS.out _ R2 | exact KS.out _ (R2.alloc R2.size _) | exact KS.out _ (((R2.setCell (by first | exact Nat.le_refl _ | exact R1.size) _).setCell (by first | exact Nat.le_refl _ | exact R1.size) _).setCell (by first | exact Nat.le_refl _ | exact R1.size) _) | fail)
    (first
    | (go_at_call 26; (with_reducible refine (ofNumber_at _).mono ?_); rintro e w1 ⟨g1, rfl, b1, hg1, hL1, lt1⟩; have R1 : Below w0.heap.size w0 w1 := (by first | exact below_undrew b1 | exact ((below_drew ((Below.refl _ _).alloc (Nat.le_refl _) _)).trans (b1.mono (by simp)))); have hne1 : w.heap.size ≠ w1.heap.size := (by have := R1.size; omega); (try have q1 : Whole w1 w0.heap.size 28 #[.int .u16 0, .slice none 0 0, .slice none 0 0] := (Whole.drew (Whole.new w0 _ _)).below b1 (by simp)))
    | (go_at_call 43; (with_reducible refine (rightN_at n A c K k _ _ w1 _ (by first | exact Below.refl _ _ | exact (Below.refl _ _).alloc (Nat.le_refl _) _ | fail) hg1 hL1 (HN.out.on R1) HF.out).mono ?_); rintro e w2 ⟨b2, A3, c3, K3, k3, rfl, hN3⟩; rw [HO.out]; have R2 : Below w0.heap.size w0 w2 := (by first | exact R1.trans (b2.mono R1.size) | exact (R1.alloc R1.size _).trans (b2.mono (by have := R1.size; simp; omega))); have hne2 : w.heap.size ≠ w2.heap.size := (by have := R2.size; omega); (first | (have q2 := q1.below b2 q1.lt; obtain ⟨z10, z11, z12, z13, z14, z15⟩ := q2.three) | (have q2 := (Whole.new w1 28 #[.int .u16 0, .slice none 0 0, .slice none 0 0]).below b2 (by simp); obtain ⟨z10, z11, z12, z13, z14, z15⟩ := q2.three) | skip))
    | fail)
  all_goals
    go_wp2_with fail
    refine (HW.out _ (by first | exact R2.alloc R2.size _ | exact ((R2.setCell (by first | exact Nat.le_refl _ | exact R1.size) _).setCell (by first | exact Nat.le_refl _ | exact R1.size) _).setCell (by first | exact Nat.le_refl _ | exact R1.size) _)).mono ?_
    rintro e w3 ⟨g3, A4, c4, rfl, hr, b3⟩
    have R3 : Below w0.heap.size w0 w3 := by
      first
      | exact (R2.alloc R2.size _).trans (b3.mono (by have := R2.size; simp; omega))
      | exact (((R2.setCell (by first | exact Nat.le_refl _ | exact R1.size) _).setCell (by first | exact Nat.le_refl _ | exact R1.size) _).setCell (by first | exact Nat.le_refl _ | exact R1.size) _).trans (b3.mono (by simpa [World.setCell] using R2.size))
    have hbase : w0.heap.size ≤ g3 := Nat.le_trans (by first | (have := R2.size; simp; omega) | (simpa [World.setCell] using R2.size)) hr.base_le
    go_wp2_with fail
    refine (cnumber_yes hr 4 rfl (by have := HL4.out; omega)).mono ?_
    rintro e w4 ⟨rfl, hr4, hg4⟩
    rw [HX.out]
    have R4 : Below w0.heap.size w0 w4 := R3.grown hg4 R3.size (fun q e => by cases e; exact hbase)
    obtain ⟨t0, t1, t2⟩ := KS.out w4 R4
    have HB4 := Lib.hid (HB.out.trans (R4.mono HB.out.size))
    have hX := HLT.out
    have HQ' := HQ.out
    generalize numOf n.v = x at *
    have hand : bits BinOp.and IntKind.u32 (x : Int) 65535 = ((x % 65536 : Nat) : Int) := by
      rw [show (65535 : Int) = ((65535 : Nat) : Int) from rfl, u32_and_nat x 65535 hX (by omega), show (65535 : Nat) = 2 ^ 16 - 1 from rfl, Nat.and_two_pow_sub_one_eq_mod]
    (try clear z10 z11 z12 z13 z14 z15)
    (try clear q2)
    clear s0 s1 s2 hr hr4 hg4 R1 R2 R3 R4 b1 b2 b3 hN3 hg1 hL1
    rcases HQ' with ⟨hT, hr⟩ | ⟨hT, hm, hr⟩ | ⟨hT, hm, hr⟩
    · subst hr
      go_wp2_with fail
      go_ret2
      exact ⟨rfl, HB4.out⟩
    · subst hr
      have hm' : ((x % 65536 : Nat) : Int) = 0 := by omega
      rw [hm'] at hand
      clear hm' hm
      go_wp2_with fail
      go_ret2
      exact ⟨ret2_int (by show (x : Int) / 65536 = ((x / 65536 : Nat) : Int); omega), HB4.out⟩
    · subst hr
      have hm' : ((x % 65536 : Nat) : Int) ≠ 0 := by omega
      generalize ((x % 65536 : Nat) : Int) = y at *
      clear hm
      go_wp2_with fail
      go_ret2
      exact ⟨rfl, HB4.out⟩
end Go.Proofs.Ytdnilbebdgohnaa




namespace Go.Proofs.Ytdnilbebdgohnaa
open Go.RowKit

theorem eq16_any (A A' : Option Addr) (c c' B : Nat) (a b : List UInt16) (w : World) (ha : Lies w B A (a.map hv)) (hb : Lies w B A' (b.map hv)) (hn : a.length ≤ 1000000) :
    Calls Try.prog 18 #[.slice A a.length c, .slice A' b.length c'] w fun e w' => e = .returned (.bool (decide (a = b))) ∧ ∃ q, w' = w.drewN q := by
  by_cases hl : a.length = b.length
  · have hneq : ((a.length : Int) != (b.length : Int)) = false := by rw [bne_eq_false_iff_eq]; omega
    have hlb : b.length ≤ a.length := by omega
    have hlb' : a.length ≤ b.length := by omega
    clear hl
    go_enter Try.func18, Try.ntmps18
    go_wp2_with fail
    go_loopw [13] (fun i wr => ∃ k q : Nat, k ≤ a.length ∧ i = .int .i64 k ∧ Hid (a.take k = b.take k) ∧ wr = w.drewN q) (fun i _ => a.length - (intOf i).toNat)
    case atStart => exact ⟨0, 0, Nat.zero_le _, rfl, rfl, rfl⟩
    case round =>
      obtain ⟨k, q, hk, rfl, htk, rfl⟩ := hrel
      by_cases hlt : k < a.length
      · obtain ⟨ad, x, rfl, _, hx, hc⟩ := ha.half hlt
        obtain ⟨ad', y, rfl, _, hy, hc'⟩ := hb.half (k := k) (by omega)
        have hi1 : (k : Int) < (a.length : Int) := by omega
        have hi2 : (k : Int) < (b.length : Int) := by omega
        have hi3 : (k : Int) ≤ 1000000 := by omega
        by_cases hxy : x = y
        · have HT := Lib.hid (take_eq_snoc hx.out hy.out htk.out hxy)
          have hne : ((x.toNat : Int) != (y.toNat : Int)) = false := by rw [hxy]; simp
          clear hxy
          go_wp2_with fail
          go_quiet (fail)
          go_wp2_with fail
          go_roundw
          case rel => exact ⟨k + 1, q + nq, by omega, by go_num, HT, by simp⟩
          case measure => simp [intOf]; omega
        · have HN := Lib.hid (ne_of_at hx.out hy.out hxy)
          have hne : ((x.toNat : Int) != (y.toNat : Int)) = true := by
            rw [bne_iff_ne]
            intro h
            exact hxy (UInt16.toNat_inj.1 (by omega))
          clear hxy
          go_wp2_with fail
          go_quiet (fail)
          go_wp2_with fail
          go_ret
          exact ⟨ret_bool (by rw [decide_eq_false HN.out]), q + nq, by simp⟩
      · have HE : Hid (a = b) := by
          have := htk.out
          rw [List.take_of_length_le (by omega), List.take_of_length_le (by omega)] at this
          exact this
        go_wp2_with fail
        go_ret
        exact ⟨ret_bool (by rw [decide_eq_true HE.out]), q, rfl⟩
  · have hneq : ((a.length : Int) != (b.length : Int)) = true := by rw [bne_iff_ne]; omega
    have HN : Hid (¬ a = b) := fun e => hl (by rw [e])
    clear hl
    go_enter Try.func18, Try.ntmps18
    go_wp2_with fail
    go_ret
    exact ⟨ret_bool (by rw [decide_eq_false HN.out]), 0, rfl⟩

/-! ### the check's closure, made in a region that draws its order -/
structure RgtAt (w0 w1 : World) (g gs : Nat) (L : List UInt16) (n : Nat) : Prop where
  low : Below w0.heap.size w0 w1
  hg : Whole w1 g 37 #[.slice (some ⟨gs, 0, none⟩) L.length n]
  hL : Lies w1 w1.heap.size (some ⟨gs, 0, none⟩) (L.map hv)
abbrev zC : Array Value := #[.int .u16 0, .slice none 0 0, .slice none 0 0]
section
variable (L : List UInt16) (n : Nat) (hn : L.length = n) (cs : Array Value) (hcs : cs = (L.map hv).toArray) (w0 : World)
include hn hcs
theorem right_f1 : Calls Try.prog 32 #[.slice (some ⟨w0.heap.size, 0, none⟩) n n] (w0.alloc (.cells cs 22)).drew fun e w1 =>
    ∃ g, e = .returned (.func (.func 43) #[] #[.pointer (some ⟨g, 0, none⟩)]) ∧ RgtAt w0 w1 g w0.heap.size L n := by
  subst hcs
  subst hn
  refine (cright_any L (some ⟨w0.heap.size, 0, none⟩) L.length (w0.alloc (.cells (L.map hv).toArray 22)).drew).mono ?_
  rintro e w1 ⟨rfl, rfl⟩
  refine ⟨_, rfl, (below_drew ((Below.refl _ _).alloc (Nat.le_refl _) _)).alloc (by simp) _, Whole.new _ _ _, ?_⟩
  exact (((Lies.newN w0 (L.map hv) 22).more (B' := w0.heap.size + 1) (Nat.le_refl _) : Lies (w0.alloc (.cells (L.map hv).toArray 22)).drew (w0.heap.size + 1) _ _).alloc (by simp) _).more (by simp)
theorem right_f2 (t : TypeId) : Calls Try.prog 32 #[.slice (some ⟨w0.heap.size, 0, none⟩) n n] ((w0.alloc (.cells cs 22)).alloc (.cells zC t)).drew fun e w1 =>
    (∃ g, e = .returned (.func (.func 43) #[] #[.pointer (some ⟨g, 0, none⟩)]) ∧ RgtAt w0 w1 g w0.heap.size L n) ∧ Whole w1 (w0.heap.size + 1) t zC := by
  subst hcs
  subst hn
  refine (cright_any L (some ⟨w0.heap.size, 0, none⟩) L.length ((w0.alloc (.cells (L.map hv).toArray 22)).alloc (.cells zC t)).drew).mono ?_
  rintro e w1 ⟨rfl, rfl⟩
  refine ⟨⟨_, rfl, (below_drew (((Below.refl _ _).alloc (Nat.le_refl _) _).alloc (by simp) _)).alloc (by simp; omega) _, Whole.new _ _ _, ?_⟩, Whole.alloc (Whole.drew (wnew1 _ _ _ _)) _⟩
  exact ((((Lies.newN w0 (L.map hv) 22).alloc (by simp) (.cells zC t)) : Lies ((w0.alloc (.cells (L.map hv).toArray 22)).alloc (.cells zC t)).drew (w0.heap.size + 1) _ _).alloc (by simp) _).more (by simp)
theorem right_f3 (t : TypeId) : Calls Try.prog 32 #[.slice (some ⟨w0.heap.size + 1, 0, none⟩) n n] ((w0.alloc (.cells zC t)).alloc (.cells cs 22)).drew fun e w1 =>
    (∃ g, e = .returned (.func (.func 43) #[] #[.pointer (some ⟨g, 0, none⟩)]) ∧ RgtAt w0 w1 g (w0.heap.size + 1) L n) ∧ Whole w1 w0.heap.size t zC := by
  subst hcs
  subst hn
  refine (cright_any L (some ⟨w0.heap.size + 1, 0, none⟩) L.length ((w0.alloc (.cells zC t)).alloc (.cells (L.map hv).toArray 22)).drew).mono ?_
  rintro e w1 ⟨rfl, rfl⟩
  refine ⟨⟨_, rfl, (below_drew (((Below.refl _ _).alloc (Nat.le_refl _) _).alloc (by simp) _)).alloc (by simp; omega) _, Whole.new _ _ _, ?_⟩, Whole.alloc (Whole.drew ((Whole.new _ _ _).alloc _)) _⟩
  have h := Lies.newN (w0.alloc (.cells zC t)) (L.map hv) 22
  rw [World.size_alloc] at h
  exact ((h : Lies ((w0.alloc (.cells zC t)).alloc (.cells (L.map hv).toArray 22)).drew _ _ _).alloc (by simp) _).more (by simp)
end
theorem RgtAt.at_ {w0 w1 : World} {g gs : Nat} {L : List UInt16} {m : Nat} (h : RgtAt w0 w1 g gs L m) (hLn : L.length ≤ 1000) (n : Nd) (A : Option Addr) (c : Nat) (K : Option Addr) (k : Nat) (V : World) (hV : Below w1.heap.size w1 V)
    (hN : Node w0 w0.heap.size A c K k n) (hf : Fine n) : Calls Try.prog 43 #[.agg #[hv n.t, .slice A n.v.length c, .slice K n.ks.length k], .pointer (some ⟨g, 0, none⟩)] V (RetN V (rightO L n)) :=
  right1_any L (some ⟨gs, 0, none⟩) m g n A c K k V (h.hg.below hV h.hg.lt) ((h.hL.below hV).more hV.size) hLn ((hN.on h.low).on hV) hf

/-! ### Types -/
def TypR (w : World) (o : Option (List UInt16)) (e : Ending) (w' : World) : Prop := Below w.heap.size w w' ∧ ∃ A c, e = .returned (.tuple #[.slice A (o.getD []).length c, .bool o.isSome]) ∧ Lies w' w'.heap.size A ((o.getD []).map hv) ∧ (o.getD []).length ≤ c
theorem u16_conv (x : UInt32) : IntKind.u16.wrap (x.toNat : Int) = ((UInt16.ofNat x.toNat).toNat : Int) := by
  rw [UInt16.toNat_ofNat', IntKind.wrap_u16]
  omega
set_option maxRecDepth 100000 in
set_option maxHeartbeats 4000000 in
theorem types10_any (n : Nd) (A : Option Addr) (c : Nat) (K : Option Addr) (k : Nat) (w : World) (hN : Node w w.heap.size A c K k n) (hf : Fine n) :
    Calls Try.prog 16 #[ndV n A c K k] w (TypR w (typO n)) := by
  unfold ndV
  have b0 : Below w.heap.size w (w.alloc (.cells #[hv n.t, .slice A n.v.length c, .slice K n.ks.length k] 28)) := (Below.refl _ _).alloc (Nat.le_refl _) _
  have x0 : NdBox (w.alloc (.cells #[hv n.t, .slice A n.v.length c, .slice K n.ks.length k] 28)) w.heap.size n A c K k := Whole.new w 28 #[hv n.t, .slice A n.v.length c, .slice K n.ks.length k]
  have hN0 := hN.on b0
  have HF := Lib.hid hf
  have HB := Lib.hid b0
  have HO : Hid ((okC [2] n = false ∧ typO n = none ∧ rightO [2] n = none) ∨ (okC [2] n = true ∧ typO n = some (prs (n.v.drop 4)) ∧ rightO [2] n = some n)) := by
    unfold Hid typO rightO
    cases h : okC [2] n with
    | false => exact .inl ⟨rfl, by simp, by simp⟩
    | true => exact .inr ⟨rfl, by simp, by simp⟩
  clear hN hf
  generalize typO n = o at *
  go_enter Try.func16, Try.ntmps16
  go_upto_region 1 with fail
  generalize w.alloc (.cells #[hv n.t, .slice A n.v.length c, .slice K n.ks.length k] 28) = w0 at *
  clear b0
  have KS : Hid (∀ V, Below w0.heap.size w0 V → NdAt V w.heap.size n A c K k) := fun V hV => ndAt_of x0 hV
  have hlt := Whole.lt x0
  have hne : w.heap.size ≠ w0.heap.size := by omega
  have hne0 : w.heap.size ≠ w0.heap.size + 1 := by omega
  obtain ⟨s0, s1, s2⟩ := KS.out w0 (Below.refl _ _)
  have HN := Lib.hid hN0
  clear hN0 x0
  unfold NdAt at KS
  rcases HO.out with ⟨hok, ho, hr⟩ | ⟨hok, ho, hr⟩
  · subst ho
    go_region_held3 (fun V => V.cell? ⟨w.heap.size, 0, none⟩ = some (hv n.t) ∧ V.cell? ⟨w.heap.size, 1, none⟩ = some (.slice A n.v.length c) ∧ V.cell? ⟨w.heap.size, 2, none⟩ = some (.slice K n.ks.length k))
      (first | exact KS.out _ (below_drew (Below.refl _ _)) | exact KS.out _ (below_drew ((Below.refl _ _).alloc (Nat.le_refl _) _)) | exact KS.out _ (below_drew (((Below.refl _ _).alloc (Nat.le_refl _) _).alloc (by simp) _)) | exact KS.out _ R1.low | exact KS.out _ (R1.low.alloc R1.low.size _) | exact KS.out _ R2 | exact KS.out _ (R2.alloc R2.size _) | exact KS.out _ (((R2.setCell lo1 _).setCell lo1 _).setCell lo1 _) | fail)
      (first
      | (go_at_call 32; (with_reducible refine (right_f1 [2] 1 rfl #[.int .u16 2] rfl w0).mono ?_); rintro e w1 ⟨g1, rfl, R1⟩; have hne1 : w.heap.size ≠ w1.heap.size := (by have := R1.low.size; omega))
      | (go_at_call 32; (with_reducible refine (right_f2 [2] 1 rfl #[.int .u16 2] rfl w0 28).mono ?_); rintro e w1 ⟨⟨g1, rfl, R1⟩, q1⟩; have lo1 : w0.heap.size ≤ w0.heap.size + 1 := Nat.le_add_right _ _)
      | (go_at_call 32; (with_reducible refine (right_f3 [2] 1 rfl #[.int .u16 2] rfl w0 28).mono ?_); rintro e w1 ⟨⟨g1, rfl, R1⟩, q1⟩; have lo1 : w0.heap.size ≤ w0.heap.size := Nat.le_refl _)
      | (go_at_call 43; (with_reducible refine (R1.at_ (by decide) n A c K k _ (by first | exact Below.refl _ _ | exact (Below.refl _ _).alloc (Nat.le_refl _) _ | fail) HN.out HF.out).mono ?_); rintro e w2 ⟨b2, A3, c3, K3, k3, rfl, hN3⟩; rw [hr]; have R2 : Below w0.heap.size w0 w2 := (by first | exact R1.low.trans (b2.mono R1.low.size) | exact (R1.low.alloc R1.low.size _).trans (b2.mono (by have := R1.low.size; simp; omega))); have hne2 : w.heap.size ≠ w2.heap.size := (by have := R2.size; omega); (first | (have q2 := q1.below b2 q1.lt; obtain ⟨z10, z11, z12, z13, z14, z15⟩ := q2.three) | (have q2 := (Whole.new w1 28 #[.int .u16 0, .slice none 0 0, .slice none 0 0]).below b2 (by simp); have lo1 := R1.low.size; obtain ⟨z10, z11, z12, z13, z14, z15⟩ := q2.three) | skip))
      | fail)
    all_goals
      go_wp2_with fail
      go_ret2
      refine ⟨HB.out.trans ((?_ : Below w0.heap.size w0 _).mono HB.out.size), none, 0, rfl, Lies.nil, Nat.le_refl _⟩
      first | exact R2.alloc R2.size _ | exact ((R2.setCell lo1 _).setCell lo1 _).setCell lo1 _
  · subst ho
    obtain ⟨ht2, hl6, hev, hle⟩ := typ_even hok
    obtain ⟨A5, c5, hs5, l5, m5, m6⟩ := slice_from (w := w0) A c n.v 4 HN.out.data HN.out.dc HN.out.dm (by omega)
    have hD : (n.v.drop 4).length = n.v.length - 4 := List.length_drop ..
    have hDm : (n.v.drop 4).length % 2 = 0 := by omega
    have hDl : (n.v.drop 4).length ≤ 65527 := by omega
    have HP : Hid (prs (n.v.drop 4) = (nums 2 (n.v.drop 4)).map fun x => UInt16.ofNat x.toNat) := rfl
    have HPL := Lib.hid (prs_len (n.v.drop 4))
    have HNL := Lib.hid (nums_len 2 (n.v.drop 4))
    clear ht2 hl6 hev hle hD
    generalize n.v.drop 4 = D at *
    have HW : Hid (∀ V, Below w0.heap.size w0 V → Calls Try.prog 33 #[.int .i64 2, .slice A5 D.length c5] V fun e w' => ∃ A' c', e = .returned (.slice A' (D.length / 2) c') ∧
        w'.ownsRow V.heap.size 23 1 (.slice A' (D.length / 2) c') (D.length / 2) ((nums 2 D).map uv) ∧ Below V.heap.size V w') :=
      fun V hV => numbersF_any 2 rfl A5 c5 D V ((l5.below hV).more hV.size) hDm (by omega) m5
    obtain ⟨m, hm⟩ : ∃ m, D.length / 2 = m := ⟨_, rfl⟩
    have hm2 : m ≤ 32763 := by omega
    rw [hm] at HW HPL HNL
    clear hm hDm
    generalize nums 2 D = U at *
    generalize prs D = Z at *
    go_region_held3 (fun V => V.cell? ⟨w.heap.size, 0, none⟩ = some (hv n.t) ∧ V.cell? ⟨w.heap.size, 1, none⟩ = some (.slice A n.v.length c) ∧ V.cell? ⟨w.heap.size, 2, none⟩ = some (.slice K n.ks.length k))
      (first | exact KS.out _ (below_drew (Below.refl _ _)) | exact KS.out _ (below_drew ((Below.refl _ _).alloc (Nat.le_refl _) _)) | exact KS.out _ (below_drew (((Below.refl _ _).alloc (Nat.le_refl _) _).alloc (by simp) _)) | exact KS.out _ R1.low | exact KS.out _ (R1.low.alloc R1.low.size _) | exact KS.out _ R2 | exact KS.out _ (R2.alloc R2.size _) | exact KS.out _ (((R2.setCell lo1 _).setCell lo1 _).setCell lo1 _) | fail)
      (first
      | (go_at_call 32; (with_reducible refine (right_f1 [2] 1 rfl #[.int .u16 2] rfl w0).mono ?_); rintro e w1 ⟨g1, rfl, R1⟩; have hne1 : w.heap.size ≠ w1.heap.size := (by have := R1.low.size; omega))
      | (go_at_call 32; (with_reducible refine (right_f2 [2] 1 rfl #[.int .u16 2] rfl w0 28).mono ?_); rintro e w1 ⟨⟨g1, rfl, R1⟩, q1⟩; have lo1 : w0.heap.size ≤ w0.heap.size + 1 := Nat.le_add_right _ _)
      | (go_at_call 32; (with_reducible refine (right_f3 [2] 1 rfl #[.int .u16 2] rfl w0 28).mono ?_); rintro e w1 ⟨⟨g1, rfl, R1⟩, q1⟩; have lo1 : w0.heap.size ≤ w0.heap.size := Nat.le_refl _)
      | (go_at_call 43; (with_reducible refine (R1.at_ (by decide) n A c K k _ (by first | exact Below.refl _ _ | exact (Below.refl _ _).alloc (Nat.le_refl _) _ | fail) HN.out HF.out).mono ?_); rintro e w2 ⟨b2, A3, c3, K3, k3, rfl, hN3⟩; rw [hr]; have R2 : Below w0.heap.size w0 w2 := (by first | exact R1.low.trans (b2.mono R1.low.size) | exact (R1.low.alloc R1.low.size _).trans (b2.mono (by have := R1.low.size; simp; omega))); have hne2 : w.heap.size ≠ w2.heap.size := (by have := R2.size; omega); (first | (have q2 := q1.below b2 q1.lt; obtain ⟨z10, z11, z12, z13, z14, z15⟩ := q2.three) | (have q2 := (Whole.new w1 28 #[.int .u16 0, .slice none 0 0, .slice none 0 0]).below b2 (by simp); have lo1 := R1.low.size; obtain ⟨z10, z11, z12, z13, z14, z15⟩ := q2.three) | skip))
      | fail)
    all_goals
      go_wp2_with (refine wpList_slice_is rfl 25 _ _ _ _ rfl (by rw [elem_u8]; exact Try.underlying25) _ (hs5 _) ?_)
      refine (HW.out _ (by first | exact R2.alloc R2.size _ | exact ((R2.setCell lo1 _).setCell lo1 _).setCell lo1 _)).mono ?_
      rintro e w5 ⟨A6, c6, rfl, own6, b5⟩
      have R5 : Below w0.heap.size w0 w5 := by
        first
        | exact (R2.alloc R2.size _).trans (b5.mono (by have := R2.size; simp; omega))
        | exact (((R2.setCell lo1 _).setCell lo1 _).setCell lo1 _).trans (b5.mono (by simpa [World.setCell] using R2.size))
      have l6 := Lies.own own6
      have c6m := (own_cap own6).2
      (try clear z10 z11 z12 z13 z14 z15)
      (try clear q2)
      clear s0 s1 s2 own6 b5 b2 R2 R1 hN3
      go_wp2_with fail
      go_loopw [6, 23] (fun v i wr => ∃ (k : Nat) (A' : Option Addr) (c' : Nat), k ≤ m ∧ i = .int .i64 k ∧ v = .slice A' k c' ∧ Hid (wr.ownsRow w5.heap.size 22 1 (.slice A' k c') k ((Z.take k).map hv)) ∧ Below w5.heap.size w5 wr) (fun _ i _ => m - (intOf i).toNat)
      case atStart => exact ⟨0, none, 0, Nat.zero_le _, rfl, rfl, World.ownsRow_nil _ _ _ _, Below.refl _ _⟩
      case round =>
        obtain ⟨k, A2, c2, hk, rfl, rfl, hown, hbel⟩ := hrel
        have hsz := hbel.size
        by_cases hlt : k < m
        · obtain ⟨ad, x, rfl, hb, hx, hc⟩ := (l6.below hbel).word (k := k) (by have := HNL.out; omega)
          have HZ : Hid (Z.take (k + 1) = Z.take k ++ [UInt16.ofNat x.toNat]) := by
            apply take_some
            rw [HP.out, List.getElem?_map, hx.out]
            rfl
          have hcv := u16_conv x
          have HL1 := Lib.hid (Lies.new1 wr (hv (UInt16.ofNat x.toNat)) 22)
          have HO2 := Lib.hid (hown.out.alloc (.cells #[hv (UInt16.ofNat x.toNat)] 22))
          generalize UInt16.ofNat x.toNat = y at *
          go_wp2_with (at_builtin; refine wpList_append_lies _ rfl (.tmp 27) (.tmp 30) 37 rfl w5.heap.size 22 _ 2 Try.underlying37 u16info rfl _ _ _ rfl HO2.out _ _ 1 1 [hv y] rfl rfl HL1.out (by intro u hu; rw [List.mem_singleton.1 hu]; rfl) (by omega) (by unfold maxLen; omega) (by simp; omega) ?_; intro A4 c4 w4 hown4 hgrow4 _)
          have H2 : Hid (w4.ownsRow w5.heap.size 22 1 (.slice A4 (k + 1) c4) (k + 1) ((Z.take (k + 1)).map hv)) := by
            unfold Hid
            rw [HZ.out, List.map_append]
            exact hown4
          have hb4 : Below w5.heap.size w5 w4 := (hbel.alloc hsz _).grown hgrow4 (by simp; omega) (fun q e => (hown.out.lt q e).1)
          clear hown4 hgrow4
          go_wp2_with fail
          go_roundw
          case rel => exact ⟨k + 1, A4, c4, by omega, by go_num, rfl, H2, hb4⟩
          case measure => simp [intOf]; omega
        · obtain rfl : k = m := by omega
          have HE : Hid (Lies wr wr.heap.size A2 (Z.map hv) ∧ k ≤ c2) := by
            have h1 := hown.out
            rw [List.take_of_length_le (by have := HPL.out; omega)] at h1
            exact ⟨Lies.own h1, (own_cap h1).2.1⟩
          clear hown
          go_wp2_with fail
          go_ret2
          have hZl := HPL.out
          refine ⟨HB.out.trans ((R5.trans (hbel.mono R5.size)).mono HB.out.size), A2, c2, ?_, HE.out.1, by show Z.length ≤ c2; rw [hZl]; exact HE.out.2⟩
          show Ending.returned (.tuple #[.slice A2 k c2, .bool true]) = .returned (.tuple #[.slice A2 Z.length c2, .bool true])
          rw [hZl]
end Go.Proofs.Ytdnilbebdgohnaa

