/- Layer 13: what the statements check first (awake). It writes nothing that was there. -/
/- Layer 13: the reference's Of. It writes nothing that was there. -/
import Derived.Test.YtdcppcoldaaldaaGreatDoorQDataS
import Derived.Test.YtdcppcoldaaldaaGreatDoorQDataM
import Derived.BigGuard
import Derived.Deep.Cut
import Derived.Test.YtdcppcoldaaldaaGreatDoorQRefNS
import Derived.Test.YtdcppcoldaaldaaGreatDoorQDataD




namespace Go.Proofs.YtdcppcoldaaldaaGreatDoor
open Go.RowKit

set_option linter.unusedSimpArgs false
def awP : Pt := ⟨false, 7, 0, 0, 0, true, true, false, false, [1, 2, 3, 4, 5]⟩
def awQ : Pt := ⟨false, 0, 0, 65536, 0, false, false, false, false, [1]⟩
def awL : List Pt := [⟨false, 7, 0, 0, 0, true, false, false, false, [1, 2]⟩, ⟨false, 8, 0, 0, 0, false, false, false, false, [3, 4]⟩, ⟨false, 9, 0, 0, 0, false, true, false, false, [5]⟩]
theorem aw_split : splL awP 2 = awL := by kernel_rfl
theorem aw_des : desB awP = true := by decide +kernel
theorem aw_des2 : desB awQ = false := by decide +kernel
theorem aw_join : jnB awL = true := by decide +kernel
theorem aw_joinQ : jnP awL = awP := by kernel_rfl
theorem sameB_self (p : Pt) : sameB p p = true := by unfold sameB hdEq; simp
theorem aw_most : mostD false 17 = 1 := by decide +kernel
/-- what Make hands back, a chunk as Of wants it -/
theorem ckD_fine {p : Pt} (hd : desB p = true) : CkFine (ckD p) := by
  have h := des_parts hd
  have hl := datB_len p
  refine ⟨?_, by simp [ckD], by simp [ckD]⟩
  show (datB p).length ≤ _
  rw [hl]
  have h2 := h.2.1
  unfold frontD at h2
  split <;> omega
theorem mkR_ck {p : Pt} {w w' : World} {e : Ending} (hd : desB p = true) (h : MkR p w e w') : Below w.heap.size w w' ∧ ∃ A' c', e = .returned (.tuple #[ckV (ckD p) A' c' none 0, .bool true]) ∧ Chunk w' w'.heap.size A' c' none 0 (ckD p) := by
  obtain ⟨hb, ⟨_, A', c', rfl, ho⟩ | ⟨hn, _⟩⟩ := h
  · have hc := own_cap ho
    exact ⟨hb, A', c', rfl, Lies.own ho, hc.2.1, hc.2.2, Nodes.nil _ _ _, by simp [ckD], by decide⟩
  · rw [hd] at hn; exact absurd hn (by simp)
theorem mkR_no {p : Pt} {w w' : World} {e : Ending} (hd : desB p = false) (h : MkR p w e w') : Below w.heap.size w w' ∧ e = .returned (.tuple #[zck13, .bool false]) := by
  obtain ⟨hb, ⟨hn, _⟩ | ⟨_, he⟩⟩ := h
  · rw [hd] at hn; exact absurd hn (by simp)
  · exact ⟨hb, he⟩
theorem ofR_ckD {p : Pt} {w w' : World} {e : Ending} (hd : desB p = true) (h : OfR (ckD p) w e w') : Below w.heap.size w w' ∧ ∃ A' c', e = .returned (.tuple #[ptV p A' c', .bool true]) ∧ PtL w' w'.heap.size A' c' p := by
  unfold OfR at h
  have e1 : ofP (ckD p) = p := by unfold ofP; rw [ckD_is hd, if_pos rfl, ptOf_ckD hd]
  rw [e1, ckD_is hd] at h
  exact h
theorem aw_sp (A : Option Addr) (c : Nat) (w : World) (h : PtL w w.heap.size A c awP) : Calls Tryz.prog 60 #[(.agg #[.bool false, .int .u32 7, .int .u16 0, .int .u32 0, .int .u32 0, .bool true, .bool true, .bool false, .bool false, .slice A 5 c]), .int .i64 2] w fun e w' => Below w.heap.size w w' ∧ ∃ A' c' ms, e = .returned (.slice A' 3 c') ∧ ms.map Pm.p = awL ∧ Pts w' w'.heap.size A' c' ms := by
  have h2 := dsplit_any awP A c 2 (by decide) w h
  rw [aw_split] at h2
  exact h2
theorem aw_jn (ms : List Pm) (hm : ms.map Pm.p = awL) (A : Option Addr) (c : Nat) (w : World) (h : Pts w w.heap.size A c ms) : Calls Tryz.prog 24 #[.slice A 3 c] w fun e w' => Below w.heap.size w w' ∧ ∃ A' c', e = .returned (.tuple #[(.agg #[.bool false, .int .u32 7, .int .u16 0, .int .u32 0, .int .u32 0, .bool true, .bool true, .bool false, .bool false, .slice A' 5 c']), .bool true]) ∧ PtL w' w'.heap.size A' c' awP := by
  have hl : ms.length = 3 := by rw [← List.length_map (f := Pm.p), hm]; rfl
  have ht : (ms.map fun m => m.p.us) = [[1, 2], [3, 4], [5]] := by
    have : (ms.map fun m => m.p.us) = (ms.map Pm.p).map Pt.us := by rw [List.map_map]; rfl
    rw [this, hm]; rfl
  have h2 := djoin13_any ms A c w h (by rw [hl]; decide) (by rw [ht]; decide)
  rw [hl, hm] at h2
  unfold JnR13 at h2
  rw [aw_joinQ, aw_join] at h2
  exact h2
theorem aw_mk (A : Option Addr) (c : Nat) (w : World) (h : PtL w w.heap.size A c awP) : Calls Tryz.prog 17 #[(.agg #[.bool false, .int .u32 7, .int .u16 0, .int .u32 0, .int .u32 0, .bool true, .bool true, .bool false, .bool false, .slice A 5 c])] w fun e w' => Below w.heap.size w w' ∧ ∃ A' c', e = .returned (.tuple #[(.agg #[.int .u8 0, .int .u8 3, .slice A' 17 c', .slice none 0 0]), .bool true]) ∧ Chunk w' w'.heap.size A' c' none 0 (ckD awP) :=
  Calls.mono (R := MkR awP w) (dmake_any awP A c w h) fun _ _ h => mkR_ck aw_des h
theorem aw_mkq (A : Option Addr) (c : Nat) (w : World) (h : PtL w w.heap.size A c awQ) : Calls Tryz.prog 17 #[(.agg #[.bool false, .int .u32 0, .int .u16 0, .int .u32 65536, .int .u32 0, .bool false, .bool false, .bool false, .bool false, .slice A 1 c])] w fun e w' => Below w.heap.size w w' ∧ e = .returned (.tuple #[(.agg #[.int .u8 0, .int .u8 0, .slice none 0 0, .slice none 0 0]), .bool false]) :=
  Calls.mono (R := MkR awQ w) (dmake_any awQ A c w h) fun _ _ h => mkR_no aw_des2 h
theorem aw_of (A : Option Addr) (c : Nat) (w : World) (h : Chunk w w.heap.size A c none 0 (ckD awP)) (hh : Handle w) : Calls Tryz.prog 19 #[(.agg #[.int .u8 0, .int .u8 3, .slice A 17 c, .slice none 0 0])] w fun e w' => Below w.heap.size w w' ∧ ∃ A' c', e = .returned (.tuple #[(.agg #[.bool false, .int .u32 7, .int .u16 0, .int .u32 0, .int .u32 0, .bool true, .bool true, .bool false, .bool false, .slice A' 5 c']), .bool true]) ∧ PtL w' w'.heap.size A' c' awP :=
  Calls.mono (R := OfR (ckD awP) w) (dof_any (ckD awP) (ckD_fine aw_des) A c none 0 w h hh) fun _ _ h => ofR_ckD aw_des h
theorem aw_same13 (A : Option Addr) (c : Nat) (A' : Option Addr) (c' : Nat) (w : World) (hp : PtL w w.heap.size A c awP) (hq : PtL w w.heap.size A' c' awP) : Calls Tryz.prog 61 #[(.agg #[.bool false, .int .u32 7, .int .u16 0, .int .u32 0, .int .u32 0, .bool true, .bool true, .bool false, .bool false, .slice A 5 c]), (.agg #[.bool false, .int .u32 7, .int .u16 0, .int .u32 0, .int .u32 0, .bool true, .bool true, .bool false, .bool false, .slice A' 5 c'])] w fun e w' => e = .returned (.bool true) ∧ Below w.heap.size w w' := by
  have h := psame13_any awP awP A c A' c' w hp hq
  rw [sameB_self] at h
  exact h
theorem aw_mo (w : World) : Calls Tryz.prog 62 #[.bool false, .int .i64 17] w fun e w' => e = .returned (.int .i64 1) ∧ w = w' := by
  have h := most_any false 17 (by decide) (by decide) w
  rw [aw_most] at h
  exact h
set_option maxRecDepth 100000 in
set_option maxHeartbeats 8000000 in
theorem awake13_any (w : World) (hh : Handle w) : Calls Tryz.prog 15 #[] w fun e w' => e = .returned (.bool true) ∧ Below w.heap.size w w' := by
  have bA : Below w.heap.size w ((w.alloc (.cells #[.int .u8 1, .int .u8 2, .int .u8 3, .int .u8 4, .int .u8 5] 5)).alloc (.cells #[.bool false, .int .u32 7, .int .u16 0, .int .u32 0, .int .u32 0, .bool true, .bool true, .bool false, .bool false, .slice (some ⟨w.heap.size, 0, none⟩) 5 5] 34)) := ((Below.refl _ w).alloc (Nat.le_refl _) _).alloc (by simp) _
  have xA := Whole.new (w.alloc (.cells #[.int .u8 1, .int .u8 2, .int .u8 3, .int .u8 4, .int .u8 5] 5)) 34 #[.bool false, .int .u32 7, .int .u16 0, .int .u32 0, .int .u32 0, .bool true, .bool true, .bool false, .bool false, .slice (some ⟨w.heap.size, 0, none⟩) 5 5]
  rw [World.size_alloc] at xA
  have hsA : w.heap.size + 2 ≤ ((w.alloc (.cells #[.int .u8 1, .int .u8 2, .int .u8 3, .int .u8 4, .int .u8 5] 5)).alloc (.cells #[.bool false, .int .u32 7, .int .u16 0, .int .u32 0, .int .u32 0, .bool true, .bool true, .bool false, .bool false, .slice (some ⟨w.heap.size, 0, none⟩) 5 5] 34)).heap.size := by simp
  have hPA : PtL ((w.alloc (.cells #[.int .u8 1, .int .u8 2, .int .u8 3, .int .u8 4, .int .u8 5] 5)).alloc (.cells #[.bool false, .int .u32 7, .int .u16 0, .int .u32 0, .int .u32 0, .bool true, .bool true, .bool false, .bool false, .slice (some ⟨w.heap.size, 0, none⟩) 5 5] 34)) ((w.alloc (.cells #[.int .u8 1, .int .u8 2, .int .u8 3, .int .u8 4, .int .u8 5] 5)).alloc (.cells #[.bool false, .int .u32 7, .int .u16 0, .int .u32 0, .int .u32 0, .bool true, .bool true, .bool false, .bool false, .slice (some ⟨w.heap.size, 0, none⟩) 5 5] 34)).heap.size (some ⟨w.heap.size, 0, none⟩) 5 awP :=
    ⟨((Lies.newN w ([1, 2, 3, 4, 5].map bv) 5).alloc (by simp) _).more (by simp), by decide, by simp [maxLen]⟩
  have HH := Lib.hid hh
  clear hh
  go_enter Tryz.func15, Tryz.ntmps15
  go_upto_region 2 with fail
  generalize (w.alloc (.cells #[.int .u8 1, .int .u8 2, .int .u8 3, .int .u8 4, .int .u8 5] 5)).alloc (.cells #[.bool false, .int .u32 7, .int .u16 0, .int .u32 0, .int .u32 0, .bool true, .bool true, .bool false, .bool false, .slice (some ⟨w.heap.size, 0, none⟩) 5 5] 34) = w1 at *
  go_wp2_with (first | (refine wpList_load_row rfl 34 _ rfl (w.heap.size + 1) rfl 34 #[.bool false, .int .u32 7, .int .u16 0, .int .u32 0, .int .u32 0, .bool true, .bool true, .bool false, .bool false, .slice (some ⟨w.heap.size, 0, none⟩) 5 5] (0, 0) _ xA Tryz.underlying34 rfl (by kernel_rfl) ?_) | fail)
  refine (aw_sp (some ⟨w.heap.size, 0, none⟩) 5 w1 hPA).mono ?_
  rintro e w2 ⟨b2, A2, c2, ms, rfl, hms, hP2⟩
  have B2 := bA.trans (b2.mono (by omega))
  have xA2 := xA.below b2 (by omega)
  have hPA2 := hPA.on b2
  have hs2 : w.heap.size + 2 ≤ w2.heap.size := by have := b2.size; omega
  clear xA hPA bA hsA b2
  go_upto_region 5 with fail
  go_wp2_with fail
  refine (aw_jn ms hms A2 c2 w2 hP2).mono ?_
  rintro e w3 ⟨b3, A3, c3, rfl, hPB⟩
  have B3 := B2.trans (b3.mono (by omega))
  have xA3 := xA2.below b3 (by omega)
  have hPA3 := hPA2.on b3
  have hP3 := hP2.on b3
  have hs3 : w.heap.size + 2 ≤ w3.heap.size := by have := b3.size; omega
  clear B2 xA2 hPA2 hP2 hs2 b3
  go_upto_region 6 with fail
  have v4 : Below w3.heap.size w3 (w3.alloc (.cells #[.bool false, .int .u32 7, .int .u16 0, .int .u32 0, .int .u32 0, .bool true, .bool true, .bool false, .bool false, .slice A3 5 c3] 34)) := (Below.refl _ _).alloc (Nat.le_refl _) _
  have xB := Whole.new w3 34 #[.bool false, .int .u32 7, .int .u16 0, .int .u32 0, .int .u32 0, .bool true, .bool true, .bool false, .bool false, .slice A3 5 c3]
  have hPA4 := hPA3.on v4
  have hPB4 := hPB.on v4
  have hP4 := hP3.on v4
  have xA4 := xA3.below v4 (by omega)
  have B4 := B3.trans (v4.mono (by omega))
  generalize w3.alloc (.cells #[.bool false, .int .u32 7, .int .u16 0, .int .u32 0, .int .u32 0, .bool true, .bool true, .bool false, .bool false, .slice A3 5 c3] 34) = w4 at *
  generalize w3.heap.size = g3 at *
  have hs4 : w.heap.size + 2 ≤ w4.heap.size := by have := xB.lt; omega
  clear hPA3 hPB hP3 xA3 B3 v4
  go_wp2_with (first | (refine wpList_load_row rfl 34 _ rfl (w.heap.size + 1) rfl 34 #[.bool false, .int .u32 7, .int .u16 0, .int .u32 0, .int .u32 0, .bool true, .bool true, .bool false, .bool false, .slice (some ⟨w.heap.size, 0, none⟩) 5 5] (0, 0) _ xA4 Tryz.underlying34 rfl (by kernel_rfl) ?_) | fail)
  refine (aw_mk (some ⟨w.heap.size, 0, none⟩) 5 w4 hPA4).mono ?_
  rintro e w5 ⟨b5, A5, c5, rfl, hC⟩
  have B5 := B4.trans (b5.mono (by omega))
  have xA5 := xA4.below b5 (by omega)
  have xB5 := xB.below b5 xB.lt
  have hPA5 := hPA4.on b5
  have hPB5 := hPB4.on b5
  have hP5 := hP4.on b5
  have hs5 : w.heap.size + 2 ≤ w5.heap.size := by have := b5.size; omega
  clear B4 xA4 xB hPA4 hPB4 hP4 hs4 b5
  go_upto_region 7 with fail
  have v6 : Below w5.heap.size w5 (w5.alloc (.cells #[.int .u8 0, .int .u8 3, .slice A5 17 c5, .slice none 0 0] 31)) := (Below.refl _ _).alloc (Nat.le_refl _) _
  have xC := Whole.new w5 31 #[.int .u8 0, .int .u8 3, .slice A5 17 c5, .slice none 0 0]
  have hPA6 := hPA5.on v6
  have hPB6 := hPB5.on v6
  have hP6 := hP5.on v6
  have hC6 := hC.on v6
  have xA6 := xA5.below v6 (by omega)
  have xB6 := xB5.below v6 xB5.lt
  have B6 := B5.trans (v6.mono (by omega))
  generalize w5.alloc (.cells #[.int .u8 0, .int .u8 3, .slice A5 17 c5, .slice none 0 0] 31) = w6 at *
  generalize w5.heap.size = g5 at *
  have hs6 : w.heap.size + 2 ≤ w6.heap.size := by have := xC.lt; omega
  clear hPA5 hPB5 hP5 xA5 xB5 B5 v6 hC
  go_wp2_with (first | (refine wpList_load_row rfl 31 _ rfl g5 rfl 31 #[.int .u8 0, .int .u8 3, .slice A5 17 c5, .slice none 0 0] (0, 0) _ xC Tryz.underlying31 rfl (by kernel_rfl) ?_) | fail)
  refine (aw_of A5 c5 w6 hC6 (HH.out.below B6 HH.out.lt)).mono ?_
  rintro e w7 ⟨b7, A7, c7, rfl, hPC⟩
  have B7 := B6.trans (b7.mono (by omega))
  have xA7 := xA6.below b7 (by omega)
  have xB7 := xB6.below b7 xB6.lt
  have hPA7 := hPA6.on b7
  have hPB7 := hPB6.on b7
  have hP7 := hP6.on b7
  have hs7 : w.heap.size + 2 ≤ w7.heap.size := by have := b7.size; omega
  clear B6 xA6 xB6 xC hPA6 hPB6 hP6 hC6 hs6 b7
  go_upto_region 8 with fail
  have v8 : Below w7.heap.size w7 (w7.alloc (.cells #[.bool false, .int .u32 7, .int .u16 0, .int .u32 0, .int .u32 0, .bool true, .bool true, .bool false, .bool false, .slice A7 5 c7] 34)) := (Below.refl _ _).alloc (Nat.le_refl _) _
  have xC := Whole.new w7 34 #[.bool false, .int .u32 7, .int .u16 0, .int .u32 0, .int .u32 0, .bool true, .bool true, .bool false, .bool false, .slice A7 5 c7]
  have hPA8 := hPA7.on v8
  have hPB8 := hPB7.on v8
  have hPC8 := hPC.on v8
  have hP8 := hP7.on v8
  have xA8 := xA7.below v8 (by omega)
  have xB8 := xB7.below v8 xB7.lt
  have B8 := B7.trans (v8.mono (by omega))
  generalize w7.alloc (.cells #[.bool false, .int .u32 7, .int .u16 0, .int .u32 0, .int .u32 0, .bool true, .bool true, .bool false, .bool false, .slice A7 5 c7] 34) = w8 at *
  generalize w7.heap.size = g7 at *
  have hs8 : w.heap.size + 2 ≤ w8.heap.size := by have := xC.lt; omega
  have v9 : Below w8.heap.size w8 (w8.alloc (.cells #[.int .u8 1] 5)) := (Below.refl _ _).alloc (Nat.le_refl _) _
  have hQ9 : PtL (w8.alloc (.cells #[.int .u8 1] 5)) (w8.alloc (.cells #[.int .u8 1] 5)).heap.size (some ⟨w8.heap.size, 0, none⟩) 1 awQ :=
    ⟨(Lies.newN w8 ([1].map bv) 5).more (by simp), by decide, by simp [maxLen]⟩
  have hPA9 := hPA8.on v9
  have hPB9 := hPB8.on v9
  have hPC9 := hPC8.on v9
  have hP9 := hP8.on v9
  have xA9 := xA8.below v9 (by omega)
  have xB9 := xB8.below v9 xB8.lt
  have xC9 := xC.below v9 xC.lt
  have B9 := B8.trans (v9.mono (by omega))
  clear hPA7 hPB7 hP7 xA7 xB7 B7 v8 hPC hPA8 hPB8 hPC8 hP8 xA8 xB8 xC B8
  go_wp2_with fail
  refine (aw_mkq (some ⟨w8.heap.size, 0, none⟩) 1 _ hQ9).mono ?_
  rintro e w10 ⟨b10, rfl⟩
  have B10 := B9.trans (b10.mono (by simp; omega))
  have xA10 := xA9.below b10 (by simp; omega)
  have xB10 := xB9.below b10 xB9.lt
  have xC10 := xC9.below b10 xC9.lt
  have hPA10 := hPA9.on b10
  have hPB10 := hPB9.on b10
  have hPC10 := hPC9.on b10
  have hP10 := hP9.on b10
  have hs10 : w.heap.size + 2 ≤ w10.heap.size := by have := b10.size; simp at this; omega
  clear v9 hQ9 hPA9 hPB9 hPC9 hP9 xA9 xB9 xC9 B9 b10 hs8
  go_upto_region 9 with fail
  have v11 : Below w10.heap.size w10 (w10.alloc (.cells #[.int .u8 0, .int .u8 0, .slice none 0 0, .slice none 0 0] 31)) := (Below.refl _ _).alloc (Nat.le_refl _) _
  have hPA11 := hPA10.on v11
  have hPB11 := hPB10.on v11
  have hPC11 := hPC10.on v11
  have hP11 := hP10.on v11
  have xA11 := xA10.below v11 (by omega)
  have xB11 := xB10.below v11 xB10.lt
  have xC11 := xC10.below v11 xC10.lt
  have B11 := B10.trans (v11.mono (by omega))
  generalize w10.alloc (.cells #[.int .u8 0, .int .u8 0, .slice none 0 0, .slice none 0 0] 31) = w11 at *
  generalize w10.heap.size = g10 at *
  clear hPA10 hPB10 hPC10 hP10 xA10 xB10 xC10 B10
  obtain ⟨m2, hm2, hp2⟩ : ∃ m2, ms[2]? = some m2 ∧ m2.p = ⟨false, 9, 0, 0, 0, false, true, false, false, [5]⟩ := by
    have hg : (ms.map Pm.p)[2]? = some ⟨false, 9, 0, 0, 0, false, true, false, false, [5]⟩ := by rw [hms]; rfl
    rw [List.getElem?_map] at hg
    cases hm : ms[2]? with
    | none => rw [hm] at hg; cases hg
    | some m2 => rw [hm] at hg; exact ⟨m2, rfl, by simpa using hg⟩
  obtain ⟨ad, rfl, hadb, a0, a1, a2, a3, a4, a5, a6, a7, a8, a9⟩ := hP11.cells hm2
  rw [hp2] at a0 a1 a2 a3 a4 a5 a6 a7 a8 a9
  have a1' : w11.cell? ⟨ad.block, ad.off + 20 + 1, none⟩ = some (.int .u32 9) := a1
  have a9' : w11.cell? ⟨ad.block, ad.off + 20 + 9, none⟩ = some (.slice m2.A 1 m2.c) := a9
  have a5' : w11.cell? ⟨ad.block, ad.off + 20 + 5, none⟩ = some (.bool false) := a5
  have a6' : w11.cell? ⟨ad.block, ad.off + 20 + 6, none⟩ = some (.bool true) := a6
  clear a1 a9 a0 a2 a3 a4 a7 a8 a5 a6 hP11 hms hm2 hp2
  have hs11 : w.heap.size + 1 < w11.heap.size := xA11.lt
  have hqA := xA11.cs10
  have hqB := xB11.cs10
  obtain ⟨p0, p1, p2, p3, p4, p5, p6, p7, p8, p9⟩ := hqA
  obtain ⟨q0, q1, q2, q3, q4, q5, q6, q7, q8, q9⟩ := hqB
  go_wp2_with fail
  clear a1' a9' a5' a6' p0 p1 p2 p3 p4 p5 p6 p7 p8 p9 q0 q1 q2 q3 q4 q5 q6 q7 q8 q9
  refine (aw_same13 A3 c3 (some ⟨w.heap.size, 0, none⟩) 5 w11 hPB11 hPA11).mono ?_
  rintro e w12 ⟨rfl, b12⟩
  have B12 := B11.trans (b12.mono (by omega))
  have xA12 := xA11.below b12 (by omega)
  have xC12 := xC11.below b12 xC11.lt
  have hPA12 := hPA11.on b12
  have hPC12 := hPC11.on b12
  clear xA11 xB11 xC11 B11 hPA11 hPB11 hPC11
  have hqA := xA12.cs10
  have hqC := xC12.cs10
  obtain ⟨p0, p1, p2, p3, p4, p5, p6, p7, p8, p9⟩ := hqA
  obtain ⟨q0, q1, q2, q3, q4, q5, q6, q7, q8, q9⟩ := hqC
  go_wp2_with fail
  clear p0 p1 p2 p3 p4 p5 p6 p7 p8 p9 q0 q1 q2 q3 q4 q5 q6 q7 q8 q9
  refine (aw_same13 A7 c7 (some ⟨w.heap.size, 0, none⟩) 5 w12 hPC12 hPA12).mono ?_
  rintro e w13 ⟨rfl, b13⟩
  have B13 := B12.trans (b13.mono (by have := b12.size; omega))
  go_wp2_with fail
  refine (aw_mo w13).mono ?_
  rintro e w14 ⟨rfl, rfl⟩
  go_wp2_with fail
  go_ret
  exact ⟨rfl, B13⟩
end Go.Proofs.YtdcppcoldaaldaaGreatDoor








namespace Go.Proofs.YtdcppcoldaaldaaGreatDoor
open Go.RowKit

set_option linter.unusedSimpArgs false
theorem results_row13 {P : Program} {fn : Func} {p : Tmp} {ty : TypeId} (h : fn.results = #[.cell p ty]) (tmps : Array Value) (w : World) (g : Nat) (t : TypeId) (cs : Array Value) (d : TypeDesc)
    (hp : tmps.getD p undef = .pointer (some ⟨g, 0, none⟩)) (hg : Whole w g t cs)
    (hu : P.underlying ty = some d) (hd : (match d with | .struct _ | .array _ _ => true | _ => false) = true) (hi : (P.info? ty).map (·.size) = some cs.size) :
    (results fn tmps).run P w = .ok (.agg cs) w := by
  have hp' : tmps[p]?.getD undef = .pointer (some ⟨g, 0, none⟩) := by simpa using hp
  simp only [results, h]
  simp [hp', asAddr, run_loadVar_row w g t ty cs (0, 0) d hg hu hd hi]
end Go.Proofs.YtdcppcoldaaldaaGreatDoor


