/- Layer 6: what the statements check first (awake), and how they compare an error with a code and an offset (told). -/
import Derived.Test.YtomplajecekhiaaDoorTlvM
namespace Go.Proofs.YtomplajecekhiaaDoor
open Go.RowKit

theorem all_any (A : Option Addr) (c : Nat) (b : List UInt8) (w : World) (h : Lies w w.heap.size A (b.map bv)) (hc : b.length ≤ c) (hm : c ≤ maxLen) (hn : b.length ≤ 10000000) :
    Calls Tryd.prog 21 #[.slice A b.length c] w fun e w' => (∃ g, e = .returned (.func (.func 34) #[] #[.pointer (some ⟨g, 0, none⟩)])) ∧ Below w.heap.size w w' := by
  have hJ := copy_join A c b (w.alloc (.cells #[.slice A b.length c] 22)) ((h.alloc (Nat.le_refl _) _).more (by simp)) hc hm hn
  simp only [World.size_alloc] at hJ
  have hW := Whole.new w 22 #[.slice A b.length c]
  have hb0 : Below w.heap.size w (w.alloc (.cells #[.slice A b.length c] 22)) := (Below.refl _ w).alloc (Nat.le_refl _) _
  go_enter Tryd.func21, Tryd.ntmps21
  go_wp2_with fail
  refine hJ.mono ?_
  rintro e w2 ⟨A2, c2, rfl, _, b2⟩
  have hW2 := hW.below b2 (by omega)
  have d0 := hW2.cell 0
  have d1 := hW2.frozen 0
  simp only [List.getElem?_toArray, List.getElem?_cons_zero] at d0
  go_wp2_with fail
  go_ret
  exact ⟨⟨_, rfl⟩, (hb0.trans (b2.mono (by omega))).setCell (Nat.le_refl _) _⟩

theorem neq_func (g : Nat) (w : World) : (binOp .neq 55 (.func (.func 34) #[] #[.pointer (some ⟨g, 0, none⟩)]) .nilFunc).run Tryd.prog w = .ok (.bool true) w := by kernel_rfl
theorem told_zero (a : Int) (w : World) :
    Calls Tryd.prog 9 #[.nilIface, .int .i64 0, .int .i64 a] w fun e w' => e = .returned (.bool true) ∧ w = w' := by
  go_enter Tryd.func9, Tryd.ntmps9
  go_wp2_with fail
  go_ret
  exact ⟨rfl, rfl⟩
theorem told_same (c a : Nat) (hc : c ≠ 0) (w : World) (hh : Handle w) :
    Calls Tryd.prog 9 #[faultV c a, .int .i64 (c : Int), .int .i64 (a : Int)] w fun e w' => e = .returned (.bool true) ∧ Below w.heap.size w w' := by
  have hz : ((c : Int) == 0) = false := by rw [beq_eq_false_iff_ne]; omega
  have hC := Code_any true c a w hh
  have hA := fun W hW => At_fault c a W hW
  simp only [baseV, if_true] at hC hA
  go_enter Tryd.func9, Tryd.ntmps9
  go_wp2_with fail
  refine hC.mono ?_
  rintro e w2 ⟨rfl, b2⟩
  go_wp2_with fail
  refine (hA _ (hh.below b2 hh.lt)).mono ?_
  rintro e w3 ⟨rfl, b3⟩
  go_wp2_with fail
  go_ret
  exact ⟨rfl, b2.trans (b3.mono b2.size)⟩

def fsA : List Fr := [⟨5, [9]⟩, ⟨6, []⟩]
theorem jn_fsA : jn fsA = [0, 5, 0, 5, 9, 0, 0, 0, 0, 6, 0, 4] := by decide
theorem spl_bad : spl [0, 5, 0, 3] = .bad 4 0 := by
  have h : yla [0, 5, 0, 3] 0 = [] := yla_none (by decide)
  unfold spl
  rw [h]
  have h2 : nx [0, 5, 0, 3] (kend []) = some 0 := by decide
  rw [h2]
  rfl
theorem sizes_fsA : sizes (fsA.map frL) = 12 := by decide
/-- a slice of two frames, each in two cells -/
theorem frames2 {w : World} (t1 t2 : UInt16) (v1 v2 : Value) (l1 l2 : List UInt8) (h1 : IsB w w.heap.size v1 l1) (h2 : IsB w w.heap.size v2 l2) :
    Frames (w.alloc (.cells #[hv t1, v1, hv t2, v2] 48)) (w.alloc (.cells #[hv t1, v1, hv t2, v2] 48)).heap.size (some ⟨w.heap.size, 0, none⟩) [hv t1, v1, hv t2, v2] [⟨t1, l1⟩, ⟨t2, l2⟩] := by
  have hb : Below w.heap.size w (w.alloc (.cells #[hv t1, v1, hv t2, v2] 48)) := (Below.refl _ w).alloc (Nat.le_refl _) _
  refine ⟨(Lies.newN w [hv t1, v1, hv t2, v2] _).more (by simp), rfl, fun i f hf => ?_⟩
  match i, hf with
  | 0, hf => simp only [List.getElem?_cons_zero, Option.some.injEq] at hf; subst hf; exact ⟨v1, rfl, rfl, h1.on hb⟩
  | 1, hf => simp only [List.getElem?_cons_succ, List.getElem?_cons_zero, Option.some.injEq] at hf; subst hf; exact ⟨v2, rfl, rfl, h2.on hb⟩
  | i + 2, hf => simp at hf
theorem isB_new (w : World) (l : List UInt8) (hl : l.length ≤ maxLen) : IsB (w.alloc (.cells (l.map bv).toArray 5)) (w.alloc (.cells (l.map bv).toArray 5)).heap.size (.slice (some ⟨w.heap.size, 0, none⟩) l.length l.length) l :=
  ⟨_, _, rfl, (Lies.newN w (l.map bv) _).more (by simp), Nat.le_refl _, hl⟩
theorem isB_nil (w : World) (B : Nat) : IsB w B (.slice none 0 0) [] := ⟨none, 0, rfl, Lies.nil, Nat.le_refl _, Nat.zero_le _⟩

theorem awake_join (w : World) : Calls Tryd.prog 10 #[.slice (some ⟨w.heap.size + 1, 0, none⟩) 2 2]
    ((w.alloc (.cells #[.int .u8 9] 5)).alloc (.cells #[.int .u16 5, .slice (some ⟨w.heap.size, 0, none⟩) 1 1, .int .u16 6, .slice none 0 0] 48)) fun e w' => Below w.heap.size w w' ∧
      ∃ A' c', e = .returned (.tuple #[.slice A' 12 c', .bool true]) ∧ (∃ base, w'.ownsRow base 5 1 (.slice A' 12 c') 12 ((jn fsA).map bv)) := by
  have HFit : ∀ f ∈ fsA, Fit f := by decide
  have i1 := isB_new w [9] (by simp [maxLen])
  have F1 := frames2 5 6 _ _ [9] [] i1 (isB_nil _ _)
  have h := tjoin_any _ 2 _ fsA _ F1 (by decide)
  have hb : Below w.heap.size w ((w.alloc (.cells #[.int .u8 9] 5)).alloc (.cells #[.int .u16 5, .slice (some ⟨w.heap.size, 0, none⟩) 1 1, .int .u16 6, .slice none 0 0] 48)) :=
    ((Below.refl _ w).alloc (Nat.le_refl _) _).alloc (by simp) _
  have hsz := World.size_alloc w (.cells ([9].map bv).toArray 5)
  rw [hsz] at h
  have hlen : (jn fsA).length = 12 := by rw [jn_fsA]; rfl
  refine Calls.mono (R := JoinR ((w.alloc (.cells #[.int .u8 9] 5)).alloc (.cells #[.int .u16 5, .slice (some ⟨w.heap.size, 0, none⟩) 1 1, .int .u16 6, .slice none 0 0] 48)) fsA) h ?_
  rintro e w1 ⟨b1, ⟨_, A1, c1, rfl, own1⟩ | ⟨⟨q, hq, hbad⟩, _⟩⟩
  · rw [hlen] at own1 ⊢
    exact ⟨hb.trans (b1.mono hb.size), A1, c1, rfl, _, own1⟩
  · exact absurd (HFit q hq) hbad

theorem awake_bad (w : World) : Calls Tryd.prog 7 #[.slice (some ⟨w.heap.size, 0, none⟩) 4 4] (w.alloc (.cells #[.int .u8 0, .int .u8 5, .int .u8 0, .int .u8 3] 5)) fun e w' =>
    e = .returned (.tuple #[.slice none 0 0, faultV 4 0]) ∧ Below w.heap.size w w' := by
  obtain ⟨A, c, h1, h2, h3, h4⟩ := isB_new w [0, 5, 0, 3] (by simp [maxLen])
  have h := split_any _ 4 [0, 5, 0, 3] _ ((Lies.newN w ([0, 5, 0, 3].map bv) 5).more (B' := (w.alloc (.cells ([(0 : UInt8), 5, 0, 3].map bv).toArray 5)).heap.size) (by simp)) (by simp) (by simp [maxLen]) (by simp)
  rw [spl_bad] at h
  refine Calls.mono (R := Gives (w.alloc (.cells ([(0 : UInt8), 5, 0, 3].map bv).toArray 5)) (.bad 4 0)) h ?_
  rintro e w1 ⟨b1, rfl⟩
  exact ⟨rfl, ((Below.refl _ w).alloc (Nat.le_refl _) _).trans (b1.mono (by simp))⟩
theorem awake_same (A : Option Addr) (c : Nat) (w : World) (h : Lies w w.heap.size A ((jn fsA).map bv)) :
    Calls Tryd.prog 13 #[.slice A 12 c, .slice (some ⟨w.heap.size, 0, none⟩) 12 12] (w.alloc (.cells #[.int .u8 0, .int .u8 5, .int .u8 0, .int .u8 5, .int .u8 9, .int .u8 0, .int .u8 0, .int .u8 0, .int .u8 0, .int .u8 6, .int .u8 0, .int .u8 4] 5)) fun e w' =>
    e = .returned (.bool true) ∧ Below w.heap.size w w' := by
  rw [jn_fsA] at h
  have hb : Below w.heap.size w (w.alloc (.cells ([(0 : UInt8), 5, 0, 5, 9, 0, 0, 0, 0, 6, 0, 4].map bv).toArray 5)) := (Below.refl _ w).alloc (Nat.le_refl _) _
  have h1 := same_any A (some ⟨w.heap.size, 0, none⟩) c 12 (w.heap.size + 1) [0, 5, 0, 5, 9, 0, 0, 0, 0, 6, 0, 4] [0, 5, 0, 5, 9, 0, 0, 0, 0, 6, 0, 4] _ ((h.below hb).more (by omega)) (Lies.newN w ([0, 5, 0, 5, 9, 0, 0, 0, 0, 6, 0, 4].map bv) 5) (by simp [maxLen])
  refine Calls.mono (R := fun e w' => e = .returned (.bool (decide ([(0 : UInt8), 5, 0, 5, 9, 0, 0, 0, 0, 6, 0, 4] = [0, 5, 0, 5, 9, 0, 0, 0, 0, 6, 0, 4]))) ∧ ∃ q, w' = (w.alloc (.cells ([(0 : UInt8), 5, 0, 5, 9, 0, 0, 0, 0, 6, 0, 4].map bv).toArray 5)).drewN q) h1 ?_
  rintro e w1 ⟨rfl, q, rfl⟩
  exact ⟨rfl, below_drewN hb q⟩
theorem awake_told (w : World) (hh : Handle w) : Calls Tryd.prog 9 #[faultV 4 0, .int .i64 4, .int .i64 0] w fun e w' => e = .returned (.bool true) ∧ Below w.heap.size w w' :=
  told_same 4 0 (by omega) w hh
theorem awake_tsame (A : Option Addr) (c : Nat) (w : World) (h : Lies w w.heap.size A ([(9 : UInt8)].map bv)) :
    Calls Tryd.prog 20 #[.agg #[.int .u16 5, .slice A 1 c], .agg #[.int .u16 5, .slice (some ⟨w.heap.size, 0, none⟩) 1 1]] (w.alloc (.cells #[.int .u8 9] 5)) fun e w' => e = .returned (.bool true) ∧ Below w.heap.size w w' := by
  have hb : Below w.heap.size w (w.alloc (.cells ([(9 : UInt8)].map bv).toArray 5)) := (Below.refl _ w).alloc (Nat.le_refl _) _
  have h1 := tsame_any 5 5 A (some ⟨w.heap.size, 0, none⟩) c 1 w.heap.size (w.heap.size + 1) [9] [9] _ (h.below hb) (Lies.newN w ([(9 : UInt8)].map bv) 5) (by simp) (by simp)
  refine h1.mono ?_
  rintro e w1 ⟨rfl, b1⟩
  exact ⟨rfl, hb.trans (b1.mono (by simp))⟩

set_option maxRecDepth 100000 in
set_option maxHeartbeats 4000000 in
theorem awake_any (w : World) (hh : Handle w) : Calls Tryd.prog 6 #[] w fun e w' => e = .returned (.bool true) ∧ Below w.heap.size w w' := by
  have HFit : ∀ f ∈ fsA, Fit f := by decide
  go_enter Tryd.func6, Tryd.ntmps6
  have hlen : (jn fsA).length = 12 := by rw [jn_fsA]; rfl
  have hS := spl_jn fsA HFit
  go_wp2_with fail
  refine (awake_join w).mono ?_
  rintro e w1 ⟨hB1, A1, c1, rfl, base, own1⟩
  have cap1 := own_cap own1
  have k1 : 12 ≤ c1 := cap1.2.1
  have k2 := cap1.2.2
  have L1 := Lies.own own1
  have hSp := split_any A1 c1 (jn fsA) w1 L1 (by rw [hlen]; exact cap1.2.1) cap1.2.2 (by rw [hlen]; omega)
  rw [hS, hlen] at hSp
  clear own1 cap1 hlen hS
  go_wp2_with fail
  refine hSp.mono ?_
  rintro e w2 ⟨b2, A2, c2, vs, rfl, F2, hc2, hm2⟩
  clear hSp
  obtain ⟨ad, A3, c3, f, rfl, hb3, hf, e0, e1, l1, l2, l3⟩ := F2.at_ (k := 0) (by decide)
  obtain ⟨ad', A4, c4, f', had, _, hf', e2, e3, _⟩ := F2.at_ (k := 1) (by decide)
  obtain rfl : ad = ad' := by simpa using had
  have hf := hf.out
  have hf' := hf'.out
  simp only [fsA, List.getElem?_cons_zero, List.getElem?_cons_succ, Option.some.injEq] at hf hf'
  subst hf hf'
  simp only [show fsA.length = 2 from rfl] at hc2 ⊢
  have hB2 := hB1.trans (b2.mono hB1.size)
  have L2 := (L1.below b2).more b2.size
  go_wp2_with fail
  refine (awake_bad w2).mono ?_
  rintro e w3 ⟨rfl, b3⟩
  have hB3 := hB2.trans (b3.mono hB2.size)
  have L3 := (L2.below b3).more b3.size
  have F3 := (F2.below b3).more b3.size
  have e0' : w3.cell? (ad.add 0) = some (.int .u16 5) := (b3.cell (p := ad.add 0) (by rw [blk_add]; exact hb3)).trans e0
  have e1' : w3.cell? ⟨(ad.add 0).block, (ad.add 0).off + 1, none⟩ = some (.slice A3 1 c3) := (b3.cell (p := ⟨(ad.add 0).block, (ad.add 0).off + 1, none⟩) (by show (ad.add 0).block < _; rw [blk_add]; exact hb3)).trans e1
  have e2' : w3.cell? (ad.add 2) = some (.int .u16 6) := (b3.cell (p := ad.add 2) (by rw [blk_add]; exact hb3)).trans e2
  have l1' : Lies w3 w3.heap.size A3 ([(9 : UInt8)].map bv) := (l1.below b3).more b3.size
  have hbd : ad.block < w3.heap.size := Nat.lt_of_lt_of_le hb3 b3.size
  clear e0 e1 e2 e3 F2 L1 L2 hf hf' l1
  go_wp2_with fail
  refine (awake_same A1 c1 w3 L3).mono ?_
  rintro e w4 ⟨rfl, b4⟩
  have g2 : w4.cell? ⟨ad.block, ad.off + 2, none⟩ = some (.int .u16 6) := (b4.cell (p := ad.add 2) (by rw [blk_add]; exact hbd)).trans e2'
  have hB4 := hB3.trans (b4.mono hB3.size)
  have hh4 := hh.below hB4 hh.lt
  go_wp2_with fail
  refine (awake_told w4 hh4).mono ?_
  rintro e w5 ⟨rfl, b5⟩
  have b35 := b4.trans (b5.mono b4.size)
  have F5 := (F3.below b35).more b35.size
  have hS5 := tsize_any (some ad) c2 vs fsA w5 F5 (by decide) (by
    intro i f hf
    have hm := List.mem_of_getElem? hf
    have := HFit f hm
    unfold Fit at this
    omega)
  rw [sizes_fsA] at hS5
  go_wp2_with fail
  refine hS5.mono ?_
  rintro e w6 ⟨rfl, b6⟩
  have b36 := b35.trans (b6.mono b35.size)
  have g0 : w6.cell? ad = some (.int .u16 5) := (b36.cell (p := ad.add 0) (by rw [blk_add]; exact hbd)).trans e0'
  have g1 : w6.cell? ⟨ad.block, ad.off + 1, none⟩ = some (.slice A3 1 c3) := (b36.cell (p := ⟨(ad.add 0).block, (ad.add 0).off + 1, none⟩) (by show (ad.add 0).block < _; rw [blk_add]; exact hbd)).trans e1'
  clear hS5 F3 F5
  go_wp2_with fail
  refine (awake_tsame A3 c3 w6 ((l1'.below b36).more b36.size)).mono ?_
  rintro e w7 ⟨rfl, b7⟩
  have b37 := b36.trans (b7.mono b36.size)
  have hA := all_any A1 c1 (jn fsA) w7 ((L3.below b37).more b37.size) (by rw [jn_fsA]; exact k1) k2 (by rw [jn_fsA]; simp)
  rw [show (jn fsA).length = 12 by rw [jn_fsA]; rfl] at hA
  go_wp2_with fail
  refine hA.mono ?_
  rintro e w8 ⟨⟨g, rfl⟩, b8⟩
  have hB8 := (hB3.trans (b37.mono hB3.size)).trans (b8.mono (Nat.le_trans hB3.size b37.size))
  have hq := neq_func g w8
  go_wp2_with fail
  go_ret
  exact ⟨rfl, hB8⟩
end Go.Proofs.YtomplajecekhiaaDoor
