/- Layer 17: Reset, More; made of the laws. They write nothing that was there. -/
/- Layer 17: what the statements check first (awake). It writes nothing that was there. -/
import Derived.Test.YtmohbkniekeafaaGreatDoorQSTD
import Derived.Test.YtmohbkniekeafaaGreatDoorQSTH
import Derived.BigGuard
import Derived.Test.YtmohbkniekeafaaGreatDoorQA



namespace Go.Proofs.YtmohbkniekeafaaGreatDoor
open Go.RowKit

set_option linter.unusedSimpArgs false
set_option maxRecDepth 100000 in
set_option maxHeartbeats 8000000 in
theorem reset17 (a : UInt32) (w : World) : Calls Tryz.prog 47 #[uv a] w fun e w' => Below w.heap.size w w' ∧ ∃ A' c', e = .returned (.agg #[.int .u16 15, .slice A' 4 c', .slice none 0 0]) ∧ w'.ownsRow w.heap.size 5 1 (.slice A' 4 c') 4 ((puts 4 [a]).map bv) := by
  have b0 : Below w.heap.size w (w.alloc (.cells #[.int .u16 0, .slice none 0 0, .slice none 0 0] 76)) := (Below.refl _ w).alloc (Nat.le_refl _) _
  have r0 := Whole.new w 76 #[.int .u16 0, .slice none 0 0, .slice none 0 0]
  have hs0 : (w.alloc (.cells #[.int .u16 0, .slice none 0 0, .slice none 0 0] 76)).heap.size = w.heap.size + 1 := by simp
  have hC := collecting_any 15 (w.alloc (.cells #[.int .u16 0, .slice none 0 0, .slice none 0 0] 76))
  go_enter Tryz.func47, Tryz.ntmps47
  go_upto_region 1 with fail
  generalize w.alloc (.cells #[.int .u16 0, .slice none 0 0, .slice none 0 0] 76) = wa at *
  simp only [hs0] at hC
  go_wp2_with fail
  refine hC.mono ?_
  rintro e w1 ⟨rfl, x1, b1⟩
  have B1 := b0.trans (b1.mono (by omega))
  have r1 := r0.below b1 (by omega)
  have hs1 := x1.lt
  have v2 : Below w1.heap.size w1 (w1.alloc (.cells #[uv a] 22)) := (Below.refl _ _).alloc (Nat.le_refl _) _
  have L2 := lies_nums w1 [a]
  have x2 := x1.below v2 x1.lt
  have r2 := r1.below v2 r1.lt
  have B2 := B1.trans (v2.mono (by omega))
  have HK := Lib.hid <| coll17 4 (.inr (.inr rfl)) (some ⟨w1.heap.size, 0, none⟩) 1 [a] 15 (w.heap.size + 1) none 0 [] (w.heap.size + 1) (w1.alloc (.cells #[uv a] 22)) 0 1 4 rfl rfl rfl x2 (Nat.le_refl _) (World.ownsRow_nil _ _ _ _) L2 (by omega)
  clear hC r0 b0 B1 b1 x1 r1 v2 L2
  go_wp2_with fail
  generalize w1.alloc (.cells #[uv a] 22) = w2 at *
  generalize w1.heap.size = g1 at *
  refine HK.out.mono ?_
  rintro e w3 ⟨A3, c3, rfl, x3, o3, b3⟩
  have hz2 := x2.lt
  have B3 := B2.trans (b3.mono (by omega))
  have r3 := r2.below b3 (by omega)
  have O3 := Lib.hid (own_base o3 (show w.heap.size ≤ w.heap.size + 1 by omega))
  clear HK x2 r2 B2 x3 o3 b3
  have f0 := r3.frozen 0
  have f1 := r3.frozen 1
  have f2 := r3.frozen 2
  obtain ⟨u0, u1, u2⟩ := wh317 r3
  go_wp2_with fail
  refine bodyPost_ret (results_row13 rfl _ _ w.heap.size 76 _ _ rfl (((r3.set_ 0 _).set_ 1 _).set_ 2 _) Tryz.underlying76 rfl (by kernel_rfl)) rfl ?_
  refine ⟨((B3.setCell (p := ⟨w.heap.size, 0, none⟩) (Nat.le_refl _) _).setCell (p := ⟨w.heap.size, 1, none⟩) (Nat.le_refl _) _).setCell (p := ⟨w.heap.size, 2, none⟩) (Nat.le_refl _) _, A3, c3, rfl, ?_⟩
  exact own_set13 (own_set13 (own_set13 O3.out r3 (by decide)) (r3.set_ 0 _) (by decide)) ((r3.set_ 0 _).set_ 1 _) (by decide)
set_option maxRecDepth 100000 in
set_option maxHeartbeats 8000000 in
theorem more17_no (t : UInt16) (a : UInt32) (n : UInt16) (h1 : ¬ t = 17) (h2 : ¬ t = 18) (w : World) : Calls Tryz.prog 57 #[hv t, uv a, hv n] w fun e w' => Below w.heap.size w w' ∧ e = .returned (.tuple #[.agg #[.int .u16 0, .slice none 0 0, .slice none 0 0], .bool false]) := by
  have b0 : Below w.heap.size w (w.alloc (.cells #[.int .u16 0, .slice none 0 0, .slice none 0 0] 76)) := (Below.refl _ w).alloc (Nat.le_refl _) _
  have r0 := Whole.new w 76 #[.int .u16 0, .slice none 0 0, .slice none 0 0]
  have e1 : ((t.toNat : Int) != 17) = true := u16_ne h1
  have e2 : ((t.toNat : Int) != 18) = true := u16_ne h2
  clear h1 h2
  go_enter Tryz.func57, Tryz.ntmps57
  go_upto_region 1 with fail
  generalize w.alloc (.cells #[.int .u16 0, .slice none 0 0, .slice none 0 0] 76) = wa at *
  have f0 := r0.frozen 0
  have f1 := r0.frozen 1
  have f2 := r0.frozen 2
  obtain ⟨u0, u1, u2⟩ := wh317 r0
  go_wp2_with fail
  refine bodyPost_ret (results_row_tmp rfl _ _ w.heap.size 76 _ _ rfl (((r0.set_ 0 _).set_ 1 _).set_ 2 _) Tryz.underlying76 rfl (by kernel_rfl)) rfl ?_
  exact ⟨((b0.setCell (p := ⟨w.heap.size, 0, none⟩) (Nat.le_refl _) _).setCell (p := ⟨w.heap.size, 1, none⟩) (Nat.le_refl _) _).setCell (p := ⟨w.heap.size, 2, none⟩) (Nat.le_refl _) _, rfl⟩
set_option maxRecDepth 100000 in
set_option maxHeartbeats 8000000 in
theorem more17_yes (t : UInt16) (a : UInt32) (n : UInt16) (ht : t = 17 ∨ t = 18) (w : World) : Calls Tryz.prog 57 #[hv t, uv a, hv n] w fun e w' => Below w.heap.size w w' ∧ ∃ A' c', e = .returned (.tuple #[.agg #[hv t, .slice A' 8 c', .slice none 0 0], .bool true]) ∧ w'.ownsRow w.heap.size 5 1 (.slice A' 8 c') 8 ((puts 4 [a] ++ puts 2 [u32of n.toNat, 0]).map bv) := by
  have b0 : Below w.heap.size w (w.alloc (.cells #[.int .u16 0, .slice none 0 0, .slice none 0 0] 76)) := (Below.refl _ w).alloc (Nat.le_refl _) _
  have r0 := Whole.new w 76 #[.int .u16 0, .slice none 0 0, .slice none 0 0]
  have hs0 : (w.alloc (.cells #[.int .u16 0, .slice none 0 0, .slice none 0 0] 76)).heap.size = w.heap.size + 1 := by simp
  have hC := collecting_any t (w.alloc (.cells #[.int .u16 0, .slice none 0 0, .slice none 0 0] 76))
  have hD : ((t.toNat : Int) != 17) = false ∨ (((t.toNat : Int) != 17) = true ∧ ((t.toNat : Int) != 18) = false) := by
    rcases ht with rfl | rfl
    · exact .inl rfl
    · exact .inr ⟨rfl, rfl⟩
  have hn := n.toNat_lt
  have hmd : (n.toNat : Int) % 4294967296 = (n.toNat : Int) := by omega
  have HE := Lib.hid (wid1 n)
  have hcv : IntKind.u32.wrap (n.toNat : Int) = ((u32of n.toNat).toNat : Int) := by
    rw [u32of_toNat (by omega)]
    unfold IntKind.wrap IntKind.bits
    simp [IntKind.signed]
    omega
  have hun : (u32of n.toNat).toNat = n.toNat := u32of_toNat (by omega)
  clear ht hmd hun
  rcases hD with hD | ⟨hD, hD'⟩
  all_goals
    go_enter Tryz.func57, Tryz.ntmps57
    go_upto_region 1 with fail
    generalize w.alloc (.cells #[.int .u16 0, .slice none 0 0, .slice none 0 0] 76) = wa at *
    simp only [hs0] at hC
    go_wp2_with fail
    refine hC.mono ?_
    rintro e w1 ⟨rfl, x1, b1⟩
    have B1 := b0.trans (b1.mono (by omega))
    have r1 := r0.below b1 (by omega)
    have hs1 := x1.lt
    clear hC r0 b0 b1 hD
    (try clear hD')
    go_upto_region 4 with fail
    have v2 : Below w1.heap.size w1 (w1.alloc (.cells #[uv a] 22)) := (Below.refl _ _).alloc (Nat.le_refl _) _
    have L2 := lies_nums w1 [a]
    have x2 := x1.below v2 x1.lt
    have r2 := r1.below v2 r1.lt
    have B2 := B1.trans (v2.mono (by omega))
    have HK := Lib.hid <| coll17 4 (.inr (.inr rfl)) (some ⟨w1.heap.size, 0, none⟩) 1 [a] t (w.heap.size + 1) none 0 [] (w.heap.size + 1) (w1.alloc (.cells #[uv a] 22)) 0 1 4 rfl rfl rfl x2 (Nat.le_refl _) (World.ownsRow_nil _ _ _ _) L2 (by omega)
    clear B1 x1 r1 v2 L2
    go_wp2_with fail
    generalize w1.alloc (.cells #[uv a] 22) = w2 at *
    generalize w1.heap.size = g1 at *
    refine HK.out.mono ?_
    rintro e w3 ⟨A3, c3, rfl, x3, o3, b3⟩
    have hz2 := x2.lt
    have B3 := B2.trans (b3.mono (by omega))
    have r3 := r2.below b3 (by omega)
    have hz3 := x3.lt
    clear HK x2 r2 B2 b3
    go_upto_region 5 with fail
    have v4 : Below w3.heap.size w3 (w3.alloc (.cells #[uv (u32of n.toNat), uv 0] 22)) := (Below.refl _ _).alloc (Nat.le_refl _) _
    have L4 := lies_nums w3 [u32of n.toNat, 0]
    have x4 := x3.below v4 x3.lt
    have r4 := r3.below v4 r3.lt
    have B4 := B3.trans (v4.mono (by omega))
    have o4 := own_below' o3 v4
    have HK := Lib.hid <| coll17 2 (.inr (.inl rfl)) (some ⟨w3.heap.size, 0, none⟩) 2 [u32of n.toNat, 0] t (w.heap.size + 1) A3 c3 (puts 4 [a]) (w.heap.size + 1) (w3.alloc (.cells #[uv (u32of n.toNat), uv 0] 22)) 4 2 8 rfl rfl rfl x4 (Nat.le_refl _) (by simpa using o4) L4 (by omega)
    clear B3 x3 r3 v4 L4 o3 o4
    go_wp2_with fail
    refine HK.out.mono ?_
    rintro e w5 ⟨A5, c5, rfl, x5, o5, b5⟩
    have hz4 := r4.lt
    have hz5 := x4.lt
    have B5 := B4.trans (b5.mono (by omega))
    have r5 := r4.below b5 (by omega)
    have O5 := Lib.hid (own_base o5 (show w.heap.size ≤ w.heap.size + 1 by omega))
    clear HK x4 r4 B4 x5 o5 b5 hz4 hz5 hcv HE hn
    have f0 := r5.frozen 0
    have f1 := r5.frozen 1
    have f2 := r5.frozen 2
    obtain ⟨u0, u1, u2⟩ := wh317 r5
    go_wp2_with fail
    refine bodyPost_ret (results_row_tmp rfl _ _ w.heap.size 76 _ _ rfl (((r5.set_ 0 _).set_ 1 _).set_ 2 _) Tryz.underlying76 rfl (by kernel_rfl)) rfl ?_
    refine ⟨((B5.setCell (p := ⟨w.heap.size, 0, none⟩) (Nat.le_refl _) _).setCell (p := ⟨w.heap.size, 1, none⟩) (Nat.le_refl _) _).setCell (p := ⟨w.heap.size, 2, none⟩) (Nat.le_refl _) _, A5, c5, rfl, ?_⟩
    exact own_set13 (own_set13 (own_set13 O5.out r5 (by decide)) (r5.set_ 0 _) (by decide)) ((r5.set_ 0 _).set_ 1 _) (by decide)
theorem zN17 (w : World) : Node w w.heap.size none 0 none 0 (.mk 0 [] []) := ⟨Lies.nil, Nat.le_refl _, Nat.zero_le _, Nodes.nil _ _ _, Nat.le_refl _, Nat.zero_le _⟩
theorem beq_self17 (l : List Nd) : beqL l l = true := beqL_true rfl
set_option maxRecDepth 100000 in
set_option maxHeartbeats 4000000 in
theorem made17_yes (n : Nd) (hf : Fine n) (hc : chk 4 1 n = 0) (A : Option Addr) (c : Nat) (K : Option Addr) (k : Nat) (A' : Option Addr) (c' : Nat) (K' : Option Addr) (k' : Nat) (w : World) (ha : Node w w.heap.size A c K k n) (hb : Node w w.heap.size A' c' K' k' n) :
    Calls Tryz.prog 44 #[ndV n A c K k, .bool true, ndV n A' c' K' k'] w fun e w' => e = .returned (.bool true) ∧ Below w.heap.size w w' := by
  have b0 : Below w.heap.size w ((w.alloc (.cells #[hv n.t, .slice A n.v.length c, .slice K n.ks.length k] 76)).alloc (.cells #[hv n.t, .slice A' n.v.length c', .slice K' n.ks.length k'] 76)) := ((Below.refl _ w).alloc (Nat.le_refl _) _).alloc (by simp) _
  have x0 := (Whole.new w 76 #[hv n.t, .slice A n.v.length c, .slice K n.ks.length k]).alloc (.cells #[hv n.t, .slice A' n.v.length c', .slice K' n.ks.length k'] 76)
  have y0 := Whole.new (w.alloc (.cells #[hv n.t, .slice A n.v.length c, .slice K n.ks.length k] 76)) 76 #[hv n.t, .slice A' n.v.length c', .slice K' n.ks.length k']
  rw [World.size_alloc] at y0
  have hC := rcheck1_any 1 (.inl rfl) n A' c' K' k' _ (hb.on b0) hf
  rw [hc] at hC
  have HS : Hid (∀ V, Below w.heap.size w V → Calls Tryz.prog 46 #[ndV n A c K k, ndV n A' c' K' k'] V fun e w' => e = .returned (.bool true) ∧ Below V.heap.size V w') := Lib.hid (fun V hV => by
    have h9 := same17_any n n A c K k A' c' K' k' V (ha.on hV) (hb.on hV)
    rw [beq_self17] at h9
    exact h9)
  unfold ndV at hC HS ⊢
  clear ha hb hf hc
  generalize n.v.length = lv at *
  generalize n.ks.length = lk at *
  generalize n.t = t at *
  have hs0 : w.heap.size + 2 = ((w.alloc (.cells #[hv t, .slice A lv c, .slice K lk k] 76)).alloc (.cells #[hv t, .slice A' lv c', .slice K' lk k'] 76)).heap.size := by simp
  have HS0 := Lib.hid hs0
  clear hs0
  go_enter Tryz.func44, Tryz.ntmps44
  go_upto_region 1 with fail
  generalize (w.alloc (.cells #[hv t, .slice A lv c, .slice K lk k] 76)).alloc (.cells #[hv t, .slice A' lv c', .slice K' lk k'] 76) = wa at *
  obtain ⟨q0, q1, q2⟩ := wh317 y0
  go_wp2_with fail
  refine hC.mono ?_
  rintro e w1 ⟨rfl, b1⟩
  have hsz := HS0.out
  have B1 := b0.trans (b1.mono (by omega))
  have x1 := x0.below b1 (by omega)
  have y1 := y0.below b1 (by omega)
  clear hC q0 q1 q2 x0 y0 b0 b1 hsz HS0
  obtain ⟨q0, q1, q2⟩ := wh317 y1
  obtain ⟨u0, u1, u2⟩ := wh317 x1
  have hS := HS.out w1 B1
  go_wp2_with fail
  refine hS.mono ?_
  rintro e w2 ⟨rfl, b2⟩
  go_wp2_with fail
  go_ret
  exact ⟨rfl, B1.trans (b2.mono B1.size)⟩
set_option maxRecDepth 100000 in
set_option maxHeartbeats 4000000 in
theorem made17_no (n : Nd) (hf : Fine n) (hc : chk 4 1 n ≠ 0) (A' : Option Addr) (c' : Nat) (K' : Option Addr) (k' : Nat) (w : World) (hb : Node w w.heap.size A' c' K' k' n) :
    Calls Tryz.prog 44 #[.agg #[.int .u16 0, .slice none 0 0, .slice none 0 0], .bool false, ndV n A' c' K' k'] w fun e w' => e = .returned (.bool true) ∧ Below w.heap.size w w' := by
  have b0 : Below w.heap.size w ((w.alloc (.cells #[.int .u16 0, .slice none 0 0, .slice none 0 0] 76)).alloc (.cells #[hv n.t, .slice A' n.v.length c', .slice K' n.ks.length k'] 76)) := ((Below.refl _ w).alloc (Nat.le_refl _) _).alloc (by simp) _
  have x0 := (Whole.new w 76 #[.int .u16 0, .slice none 0 0, .slice none 0 0]).alloc (.cells #[hv n.t, .slice A' n.v.length c', .slice K' n.ks.length k'] 76)
  have y0 := Whole.new (w.alloc (.cells #[.int .u16 0, .slice none 0 0, .slice none 0 0] 76)) 76 #[hv n.t, .slice A' n.v.length c', .slice K' n.ks.length k']
  rw [World.size_alloc] at y0
  have hC := rcheck1_any 1 (.inl rfl) n A' c' K' k' _ (hb.on b0) hf
  have hcc : (((chk 4 1 n : Nat) : Int) != 0) = true := by rw [bne_iff_ne]; omega
  have HS : Hid (∀ V : World, Calls Tryz.prog 46 #[.agg #[.int .u16 0, .slice none 0 0, .slice none 0 0], .agg #[.int .u16 0, .slice none 0 0, .slice none 0 0]] V fun e w' => e = .returned (.bool true) ∧ Below V.heap.size V w') := Lib.hid (fun V => by
    have h9 := same17_any (.mk 0 [] []) (.mk 0 [] []) none 0 none 0 none 0 none 0 V (zN17 V) (zN17 V)
    rw [beq_self17] at h9
    exact h9)
  unfold ndV at hC ⊢
  clear hb hf hc
  generalize chk 4 1 n = cc at *
  generalize n.v.length = lv at *
  generalize n.ks.length = lk at *
  generalize n.t = t at *
  have hs0 : w.heap.size + 2 = ((w.alloc (.cells #[.int .u16 0, .slice none 0 0, .slice none 0 0] 76)).alloc (.cells #[hv t, .slice A' lv c', .slice K' lk k'] 76)).heap.size := by simp
  have HS0 := Lib.hid hs0
  clear hs0
  go_enter Tryz.func44, Tryz.ntmps44
  go_upto_region 1 with fail
  generalize (w.alloc (.cells #[.int .u16 0, .slice none 0 0, .slice none 0 0] 76)).alloc (.cells #[hv t, .slice A' lv c', .slice K' lk k'] 76) = wa at *
  obtain ⟨q0, q1, q2⟩ := wh317 y0
  go_wp2_with fail
  refine hC.mono ?_
  rintro e w1 ⟨rfl, b1⟩
  have hsz := HS0.out
  have B1 := b0.trans (b1.mono (by omega))
  have x1 := x0.below b1 (by omega)
  clear hC q0 q1 q2 x0 y0 b0 b1 hsz HS0
  obtain ⟨u0, u1, u2⟩ := wh317 x1
  have hS := HS.out w1
  go_wp2_with fail
  refine hS.mono ?_
  rintro e w2 ⟨rfl, b2⟩
  go_wp2_with fail
  go_ret
  exact ⟨rfl, B1.trans (b2.mono B1.size)⟩
end Go.Proofs.YtmohbkniekeafaaGreatDoor






namespace Go.Proofs.YtmohbkniekeafaaGreatDoor
open Go.RowKit

set_option linter.unusedSimpArgs false
theorem outN_ok (a b c : UInt32) (s : List UInt16) (h : s.length ≤ 32759) : chk 4 1 (outN a b c s) = 0 := by
  rw [chk13 _ rfl, outN_len]
  exact ⟨⟨by omega, by omega, by omega⟩, rfl⟩
theorem rspN_ok (a b : UInt32) (l : List UInt32) (h : l.length = 0 ∨ l.length = 2) : chk 4 1 (rspN a b l) = 0 := by
  rw [chk16 _ rfl, rspN_len]
  refine ⟨⟨by omega, by omega, ?_⟩, rfl⟩
  rcases h with h | h <;> rw [h]
def awV : List UInt8 := (outN 7 8 9 [1, 2]).v
def awW : List UInt8 := (rspN 7 0 []).v
def awA : Nd := .mk 13 awV []
def awB : Nd := .mk 16 awW []
theorem awV_len : awV.length = 16 := outN_len 7 8 9 [1, 2]
theorem awW_len : awW.length = 8 := rspN_len 7 0 []
theorem awA_chk : chk 4 1 awA = 0 := outN_ok 7 8 9 [1, 2] (by decide)
theorem awB_chk : chk 4 1 awB = 0 := rspN_ok 7 0 [] (.inl rfl)
theorem awA_seq : seqB awA = true := by unfold seqB; rw [awA_chk]; rfl
theorem awB_seq : seqB awB = true := by unfold seqB; rw [awB_chk]; rfl
theorem awA_sv : seqV awA = 7 := by unfold seqV; rw [if_pos awA_seq]; exact seqN_out 7 8 9 [1, 2]
theorem awB_sv : seqV awB = 7 := by unfold seqV; rw [if_pos awB_seq]; exact seqN_rsp 7 0 []
theorem awA_str : strOf awA = [1, 2] := by
  rw [strOf_13 awA_seq rfl]
  decide +kernel
theorem aw_ans1 : ansB awA awB = true := by unfold ansB; rw [awA_seq, awB_seq, awA_sv, awB_sv]; rfl
theorem aw_ans2 : ansB awB awA = false := by unfold ansB; rfl
theorem awC_chk : chkC (rcfC [awA]) = 0 := by decide +kernel
theorem awC_b : rcfB [awA] = true := by unfold rcfB; rw [awC_chk]; rfl
theorem awA_fine : Fine awA := fine17 13 awV (by rw [awV_len]; omega)
theorem awB_fine : Fine awB := fine17 16 awW (by rw [awW_len]; omega)
theorem awA_node {w : World} {B c : Nat} {A : Option Addr} (h : w.ownsRow B 5 1 (.slice A 16 c) 16 (awV.map bv)) : Node w w.heap.size A c none 0 awA := node17 h
theorem awB_node {w : World} {B c : Nat} {A : Option Addr} (h : w.ownsRow B 5 1 (.slice A 8 c) 8 (awW.map bv)) : Node w w.heap.size A c none 0 awB := node17 h
theorem lies_hs (w : World) (l : List UInt16) : Lies (w.alloc (.cells (l.map hv).toArray 37)) (w.alloc (.cells (l.map hv).toArray 37)).heap.size (some ⟨w.heap.size, 0, none⟩) (l.map hv) := (Lies.newN w (l.map hv) 37).more (by simp)
theorem ak_out (w : World) : Calls Tryz.prog 41 #[.int .u32 7, .int .u32 8, .int .u32 9, .slice (some ⟨w.heap.size, 0, none⟩) 2 2] (w.alloc (.cells #[.int .u16 1, .int .u16 2] 37)) fun e w' => Below w.heap.size w w' ∧ ∃ A' c', e = .returned (.tuple #[.agg #[.int .u16 13, .slice A' 16 c', .slice none 0 0], .bool true]) ∧ w'.ownsRow w.heap.size 5 1 (.slice A' 16 c') 16 (awV.map bv) :=
  Calls.mono (outgoing17 7 8 9 (some ⟨w.heap.size, 0, none⟩) 2 [1, 2] (w.alloc (.cells #[.int .u16 1, .int .u16 2] 37)) (lies_hs w [1, 2]) (by decide)) fun e w' h => by
    obtain ⟨hb, ⟨_, A', c', he, ho⟩ | ⟨h1, _⟩⟩ := h
    · refine ⟨((Below.refl _ w).alloc (Nat.le_refl _) _).trans (hb.mono (by simp)), A', c', ?_, own_base ho (by simp)⟩
      rw [he]
      rfl
    · exact absurd awA_chk h1
theorem ak_rsp (w : World) : Calls Tryz.prog 43 #[.int .u32 7, .int .u32 0, .slice none 0 0] w fun e w' => Below w.heap.size w w' ∧ ∃ A' c', e = .returned (.tuple #[.agg #[.int .u16 16, .slice A' 8 c', .slice none 0 0], .bool true]) ∧ w'.ownsRow w.heap.size 5 1 (.slice A' 8 c') 8 (awW.map bv) :=
  Calls.mono (response17 7 0 none 0 [] w Lies.nil (by decide)) fun e w' h => by
    obtain ⟨hb, ⟨_, A', c', he, ho⟩ | ⟨h1, _⟩⟩ := h
    · refine ⟨hb, A', c', ?_, ho⟩
      rw [he]
      rfl
    · exact absurd awB_chk h1
theorem ak_more (w : World) : Calls Tryz.prog 57 #[.int .u16 16, .int .u32 1, .int .u16 1] w fun e w' => Below w.heap.size w w' ∧ e = .returned (.tuple #[.agg #[.int .u16 0, .slice none 0 0, .slice none 0 0], .bool false]) := more17_no 16 1 1 (by decide) (by decide) w
theorem ak_reset (w : World) : Calls Tryz.prog 47 #[.int .u32 258] w fun e w' => Below w.heap.size w w' ∧ ∃ A' c', e = .returned (.agg #[.int .u16 15, .slice A' 4 c', .slice none 0 0]) ∧ w'.ownsRow w.heap.size 5 1 (.slice A' 4 c') 4 [bv 0, bv 0, bv 1, bv 2] := by
  have h := reset17 258 w
  have e : puts 4 [258] = [0, 0, 1, 2] := by decide +kernel
  rw [e] at h
  exact h
theorem ak_seq (A : Option Addr) (c B : Nat) (w : World) (h : w.ownsRow B 5 1 (.slice A 16 c) 16 (awV.map bv)) : Calls Tryz.prog 49 #[.agg #[.int .u16 13, .slice A 16 c, .slice none 0 0]] w fun e w' => e = .returned (.tuple #[.int .u32 7, .bool true]) ∧ Below w.heap.size w w' := by
  have h9 := seq17_any awA awA_fine A c none 0 w (awA_node h)
  rw [awA_sv, awA_seq] at h9
  exact h9
theorem ak_str (A : Option Addr) (c B : Nat) (w : World) (h : w.ownsRow B 5 1 (.slice A 16 c) 16 (awV.map bv)) : Calls Tryz.prog 52 #[.agg #[.int .u16 13, .slice A 16 c, .slice none 0 0]] w fun e w' => ∃ A' c', e = .returned (.slice A' 2 c') ∧ Lies w' w'.heap.size A' [hv 1, hv 2] ∧ Below w.heap.size w w' := by
  have h9 := streams17_any awA awA_fine A c none 0 w (awA_node h)
  rw [awA_str] at h9
  exact h9
theorem ak_eq (A : Option Addr) (c : Nat) (w : World) (h : Lies w w.heap.size A [hv 1, hv 2]) : Calls Tryz.prog 51 #[.slice A 2 c, .slice (some ⟨w.heap.size, 0, none⟩) 2 2] (w.alloc (.cells #[.int .u16 1, .int .u16 2] 37)) fun e w' => e = .returned (.bool true) ∧ Below w.heap.size w w' :=
  Calls.mono (requal17_self [1, 2] A (some ⟨w.heap.size, 0, none⟩) c 2 (w.alloc (.cells #[.int .u16 1, .int .u16 2] 37)) ((h.below ((Below.refl _ w).alloc (Nat.le_refl _) _)).more (by simp)) (lies_hs w [1, 2]) (by decide)) fun e w' h => ⟨h.1, ((Below.refl _ w).alloc (Nat.le_refl _) _).trans (h.2.mono (by simp))⟩
theorem ak_an1 (A : Option Addr) (c B : Nat) (A' : Option Addr) (c' B' : Nat) (w : World) (h : w.ownsRow B 5 1 (.slice A 16 c) 16 (awV.map bv)) (h' : w.ownsRow B' 5 1 (.slice A' 8 c') 8 (awW.map bv)) : Calls Tryz.prog 56 #[.agg #[.int .u16 13, .slice A 16 c, .slice none 0 0], .agg #[.int .u16 16, .slice A' 8 c', .slice none 0 0]] w fun e w' => e = .returned (.bool true) ∧ Below w.heap.size w w' := by
  have h9 := answers17_any awA awB awA_fine awB_fine A c none 0 A' c' none 0 w (awA_node h) (awB_node h')
  rw [aw_ans1] at h9
  exact h9
theorem ak_an2 (A : Option Addr) (c B : Nat) (A' : Option Addr) (c' B' : Nat) (w : World) (h : w.ownsRow B 5 1 (.slice A 16 c) 16 (awV.map bv)) (h' : w.ownsRow B' 5 1 (.slice A' 8 c') 8 (awW.map bv)) : Calls Tryz.prog 56 #[.agg #[.int .u16 16, .slice A' 8 c', .slice none 0 0], .agg #[.int .u16 13, .slice A 16 c, .slice none 0 0]] w fun e w' => e = .returned (.bool false) ∧ Below w.heap.size w w' := by
  have h9 := answers17_any awB awA awB_fine awA_fine A' c' none 0 A c none 0 w (awB_node h') (awA_node h)
  rw [aw_ans2] at h9
  exact h9
theorem ak_mk (A : Option Addr) (c B g : Nat) (w : World) (hx : Whole w g 76 #[.int .u16 13, .slice A 16 c, .slice none 0 0]) (h : w.ownsRow B 5 1 (.slice A 16 c) 16 (awV.map bv)) (hh : Handle w) : Calls Tryz.prog 54 #[.slice (some ⟨g, 0, none⟩) 1 1] w fun e w' => Below w.heap.size w w' ∧ ∃ A' c' K' k', e = .returned (.tuple #[.agg #[.int .u8 130, .int .u8 0, .slice A' 0 c', .slice K' 1 k'], .bool true]) :=
  Calls.mono (make17_any [awA] (by simp) (fun n hn => by rw [List.mem_singleton.1 hn]; exact awA_fine) (some ⟨g, 0, none⟩) 1 w (node_one17 (n := awA) hx (awA_node h)) (Nat.le_refl _) (by unfold maxLen; omega) hh) fun e w' h => by
    obtain ⟨hb, ⟨_, A', c', K', k', he, _⟩ | ⟨h1, _⟩⟩ := h
    · exact ⟨hb, A', c', K', k', he⟩
    · rw [awC_b] at h1; cases h1
theorem ak_same (A : Option Addr) (c B : Nat) (w : World) (h : w.ownsRow B 5 1 (.slice A 4 c) 4 [bv 0, bv 0, bv 1, bv 2]) : Calls Tryz.prog 75 #[.slice A 4 c, .slice (some ⟨w.heap.size, 0, none⟩) 4 4] (w.alloc (.cells #[.int .u8 0, .int .u8 0, .int .u8 1, .int .u8 2] 5)) fun e w' => e = .returned (.bool true) ∧ Below w.heap.size w w' :=
  Calls.mono (same_any A _ c 4 _ [0, 0, 1, 2] [0, 0, 1, 2] _ (((Lies.own h).alloc (Nat.le_refl _) _).more (Nat.le_succ _)) (Lies.newN w ([0, 0, 1, 2].map bv) 5) (by decide)) fun e w' h => by
    obtain ⟨he, q, rfl⟩ := h
    exact ⟨he, below_drewN ((Below.refl _ _).alloc (Nat.le_refl _) _) q⟩
theorem field_data17 (a : Value) (A : Option Addr) (n c : Nat) (b : Value) (W : World) : (Instr.field 76 (.agg #[a, .slice A n c, b]) 1).run Tryz.prog W = .ok (.slice A n c) W := by kernel_rfl
set_option maxRecDepth 100000 in
set_option maxHeartbeats 8000000 in
theorem awake17_any (w : World) (hh : Handle w) : Calls Tryz.prog 40 #[] w fun e w' => e = .returned (.bool true) ∧ Below w.heap.size w w' := by
  have HH := Lib.hid (fun (V : World) (hb : Below w.heap.size w V) => hh.below hb hh.lt)
  have hO := ak_out w
  clear hh
  go_enter Tryz.func40, Tryz.ntmps40
  go_wp2_with fail
  refine hO.mono ?_
  rintro e w1 ⟨b1, A1, c1, rfl, o1⟩
  clear hO
  go_upto_region 2 with fail
  have B2 := b1.alloc b1.size (.cells #[.int .u16 13, .slice A1 16 c1, .slice none 0 0] 76)
  have x2 := Whole.new w1 76 #[.int .u16 13, .slice A1 16 c1, .slice none 0 0]
  have o2 := o1.alloc (.cells #[.int .u16 13, .slice A1 16 c1, .slice none 0 0] 76)
  generalize w1.alloc (.cells #[.int .u16 13, .slice A1 16 c1, .slice none 0 0] 76) = w2 at *
  generalize w1.heap.size = g1 at *
  clear b1 o1
  have HS2 := Lib.hid (ak_seq A1 c1 _ w2 o2)
  obtain ⟨q0, q1, q2⟩ := wh317 x2
  go_wp2_with fail
  refine HS2.out.mono ?_
  rintro e w3 ⟨rfl, b3⟩
  have B3 := B2.trans (b3.mono B2.size)
  have x3 := x2.below b3 x2.lt
  have o3 := own_below' o2 b3
  clear HS2 q0 q1 q2 x2 o2 B2 b3
  go_upto_region 3 with fail
  have HM3 := Lib.hid (ak_more w3)
  go_wp2_with fail
  refine HM3.out.mono ?_
  rintro e w4 ⟨b4, rfl⟩
  have B4 := B3.trans (b4.mono B3.size)
  have x4 := x3.below b4 x3.lt
  have o4 := own_below' o3 b4
  clear HM3 x3 o3 B3 b4
  go_upto_region 4 with fail
  have B5 := B4.alloc B4.size (.cells #[.int .u16 0, .slice none 0 0, .slice none 0 0] 76)
  have x5 := x4.alloc (.cells #[.int .u16 0, .slice none 0 0, .slice none 0 0] 76)
  have o5 := o4.alloc (.cells #[.int .u16 0, .slice none 0 0, .slice none 0 0] 76)
  generalize w4.alloc (.cells #[.int .u16 0, .slice none 0 0, .slice none 0 0] 76) = w5 at *
  generalize w4.heap.size = g4 at *
  clear x4 o4 B4
  have HR5 := Lib.hid (ak_rsp w5)
  go_wp2_with fail
  refine HR5.out.mono ?_
  rintro e w6 ⟨b6, A6, c6, rfl, p6⟩
  have B6 := B5.trans (b6.mono B5.size)
  have x6 := x5.below b6 x5.lt
  have o6 := own_below' o5 b6
  clear HR5 x5 o5 B5 b6
  go_upto_region 5 with fail
  have B7 := B6.alloc B6.size (.cells #[.int .u16 16, .slice A6 8 c6, .slice none 0 0] 76)
  have x7 := x6.alloc (.cells #[.int .u16 16, .slice A6 8 c6, .slice none 0 0] 76)
  have o7 := o6.alloc (.cells #[.int .u16 16, .slice A6 8 c6, .slice none 0 0] 76)
  have p7 := p6.alloc (.cells #[.int .u16 16, .slice A6 8 c6, .slice none 0 0] 76)
  have y7 := Whole.new w6 76 #[.int .u16 16, .slice A6 8 c6, .slice none 0 0]
  generalize w6.alloc (.cells #[.int .u16 16, .slice A6 8 c6, .slice none 0 0] 76) = w7 at *
  generalize w6.heap.size = g6 at *
  clear x6 o6 p6 B6
  obtain ⟨q0, q1, q2⟩ := wh317 x7
  have B8 := B7.alloc B7.size (.cells #[.int .u16 13, .slice A1 16 c1, .slice none 0 0] 76)
  have x8 := x7.alloc (.cells #[.int .u16 13, .slice A1 16 c1, .slice none 0 0] 76)
  have y8 := y7.alloc (.cells #[.int .u16 13, .slice A1 16 c1, .slice none 0 0] 76)
  have o8 := o7.alloc (.cells #[.int .u16 13, .slice A1 16 c1, .slice none 0 0] 76)
  have p8 := p7.alloc (.cells #[.int .u16 13, .slice A1 16 c1, .slice none 0 0] 76)
  have HK8 := Lib.hid (ak_mk A1 c1 _ w7.heap.size _ (Whole.new w7 76 #[.int .u16 13, .slice A1 16 c1, .slice none 0 0]) o8 (HH.out _ B8))
  go_wp2_with fail
  generalize w7.alloc (.cells #[.int .u16 13, .slice A1 16 c1, .slice none 0 0] 76) = w8 at *
  generalize w7.heap.size = g7 at *
  refine HK8.out.mono ?_
  rintro e w9 ⟨b9, A9, c9, K9, k9, rfl⟩
  have B9 := B8.trans (b9.mono B8.size)
  have x9 := x8.below b9 x8.lt
  have y9 := y8.below b9 y8.lt
  have o9 := own_below' o8 b9
  have p9 := own_below' p8 b9
  clear HK8 q0 q1 q2 x7 y7 o7 p7 x8 y8 o8 p8 B7 B8 b9 HH
  go_upto_region 6 with fail
  have B10 := B9.alloc B9.size (.cells #[.int .u8 130, .int .u8 0, .slice A9 0 c9, .slice K9 1 k9] 44)
  have x10 := x9.alloc (.cells #[.int .u8 130, .int .u8 0, .slice A9 0 c9, .slice K9 1 k9] 44)
  have y10 := y9.alloc (.cells #[.int .u8 130, .int .u8 0, .slice A9 0 c9, .slice K9 1 k9] 44)
  have z10 := Whole.new w9 44 #[.int .u8 130, .int .u8 0, .slice A9 0 c9, .slice K9 1 k9]
  have o10 := o9.alloc (.cells #[.int .u8 130, .int .u8 0, .slice A9 0 c9, .slice K9 1 k9] 44)
  have p10 := p9.alloc (.cells #[.int .u8 130, .int .u8 0, .slice A9 0 c9, .slice K9 1 k9] 44)
  generalize w9.alloc (.cells #[.int .u8 130, .int .u8 0, .slice A9 0 c9, .slice K9 1 k9] 44) = w10 at *
  generalize w9.heap.size = g9 at *
  clear B9 x9 y9 o9 p9
  have HR10 := Lib.hid (ak_reset w10)
  go_wp2_with fail
  refine HR10.out.mono ?_
  rintro e w11 ⟨b11, A11, c11, rfl, r11⟩
  have B11 := B10.trans (b11.mono B10.size)
  have x11 := x10.below b11 x10.lt
  have y11 := y10.below b11 y10.lt
  have z11 := z10.below b11 z10.lt
  have o11 := own_below' o10 b11
  have p11 := own_below' p10 b11
  have HS11 := Lib.hid (ak_same A11 c11 _ w11 r11)
  have hfd := field_data17 (.int .u16 15) A11 4 c11 (.slice none 0 0) w11
  clear HR10 x10 y10 z10 o10 p10 B10 b11 r11
  go_wp2_with fail
  refine HS11.out.mono ?_
  rintro e w13 ⟨rfl, b13⟩
  have B13 := B11.trans (b13.mono B11.size)
  have x13 := x11.below b13 x11.lt
  have y13 := y11.below b13 y11.lt
  have z13 := z11.below b13 z11.lt
  have o13 := own_below' o11 b13
  have p13 := own_below' p11 b13
  have HT13 := Lib.hid (ak_str A1 c1 _ w13 o13)
  clear hfd HS11 x11 y11 z11 o11 p11 B11 b13
  obtain ⟨q0, q1, q2⟩ := wh317 x13
  go_wp2_with fail
  refine HT13.out.mono ?_
  rintro e w14 ⟨A14, c14, rfl, l14, b14⟩
  have B14 := B13.trans (b14.mono B13.size)
  have x14 := x13.below b14 x13.lt
  have y14 := y13.below b14 y13.lt
  have z14 := z13.below b14 z13.lt
  have o14 := own_below' o13 b14
  have p14 := own_below' p13 b14
  have HE14 := Lib.hid (ak_eq A14 c14 w14 l14)
  clear HT13 q0 q1 q2 x13 y13 z13 o13 p13 B13 b14 l14
  go_wp2_with fail
  refine HE14.out.mono ?_
  rintro e w16 ⟨rfl, b16⟩
  have B16 := B14.trans (b16.mono B14.size)
  have x16 := x14.below b16 x14.lt
  have y16 := y14.below b16 y14.lt
  have z16 := z14.below b16 z14.lt
  have o16 := own_below' o14 b16
  have p16 := own_below' p14 b16
  have HA16 := Lib.hid (ak_an1 A1 c1 _ A6 c6 _ w16 o16 p16)
  clear HE14 x14 y14 z14 o14 p14 B14 b16
  obtain ⟨q0, q1, q2⟩ := wh317 x16
  obtain ⟨u0, u1, u2⟩ := wh317 y16
  go_wp2_with fail
  refine HA16.out.mono ?_
  rintro e w17 ⟨rfl, b17⟩
  have B17 := B16.trans (b17.mono B16.size)
  have x17 := x16.below b17 x16.lt
  have y17 := y16.below b17 y16.lt
  have z17 := z16.below b17 z16.lt
  have HA17 := Lib.hid (ak_an2 A1 c1 _ A6 c6 _ w17 (own_below' o16 b17) (own_below' p16 b17))
  clear HA16 q0 q1 q2 u0 u1 u2 x16 y16 z16 o16 p16 B16 b17
  obtain ⟨q0, q1, q2⟩ := wh317 x17
  obtain ⟨u0, u1, u2⟩ := wh317 y17
  go_wp2_with fail
  refine HA17.out.mono ?_
  rintro e w18 ⟨rfl, b18⟩
  have B18 := B17.trans (b18.mono B17.size)
  have z18 := z17.below b18 z17.lt
  clear HA17 q0 q1 q2 u0 u1 u2 x17 y17 z17 B17 b18
  obtain ⟨m0, m1, m2, m3⟩ := wh4 z18
  go_wp2_with fail
  go_ret
  exact ⟨rfl, B18⟩
end Go.Proofs.YtmohbkniekeafaaGreatDoor


