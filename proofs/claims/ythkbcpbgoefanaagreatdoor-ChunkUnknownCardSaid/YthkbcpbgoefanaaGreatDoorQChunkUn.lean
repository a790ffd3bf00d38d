/- Layer 12: the law ChunkUnknown. -/
import Derived.Test.YthkbcpbgoefanaaGreatDoorQChunkFl
import Derived.Test.YthkbcpbgoefanaaGreatDoorQCT
import Derived.Test.YthkbcpbgoefanaaGreatDoorQK
import Derived.Deep.Cut
namespace Go.Proofs.YthkbcpbgoefanaaGreatDoor
open Go.ChangeShapes Go.WideShapes Go.ChangeAt Go.RowKit

set_option linter.unusedSimpArgs false
theorem unk_chk (x : Ck) (hk : kn x.t = false) : chkC x = if 0 < x.ks.length then 7 else if 65535 < csz x then 4 else 0 := by
  have h1 : flB x = false := by unfold flB; rw [hk]; rfl
  have h2 : daB x = false := by unfold daB; rw [hk]; rfl
  have h3 : cntC x = false := by unfold cntC; rw [decide_eq_false (fun e => by rw [e] at hk; exact absurd hk (by decide)), Bool.false_and]
  have h4 : cvalO x = none := by
    unfold cvalO
    rw [if_neg (fun e => by rw [e] at hk; exact absurd hk (by decide)), if_neg (fun e => by rw [e] at hk; exact absurd hk (by decide))]
  have h5 : kidB x = decide (0 < x.ks.length) := by
    unfold kidB
    rw [kdOf_zero hk]
    cases hks : x.ks with
    | nil => rfl
    | cons a b => simp [kidP, kins, zK]
  unfold chkC
  rw [h1, h2, h3, h4, h5]
  simp only [Bool.false_eq_true, if_false, decide_eq_true_eq]
  by_cases h : 0 < x.ks.length
  · rw [if_pos h, if_pos h]
  · rw [if_neg h, if_neg h, List.eq_nil_of_length_eq_zero (show x.ks.length = 0 by omega), chkL_nil12, if_neg (by simp)]
theorem made_u12 : ∃ i0, Tryz.prog.info? 5 = some i0 ∧ i0.zero = some (.int .u8 0) ∧ i0.size = 1 ∧ i0.bytes = 1 := by
  obtain ⟨i0, hi, h⟩ := Option.map_eq_some_iff.1 (show (Tryz.prog.info? 5).map (fun i => (i.zero, i.size, i.bytes)) = some (some (.int .u8 0), 1, 1) by kernel_rfl)
  simp only [Prod.mk.injEq] at h
  exact ⟨i0, hi, h.1, h.2.1, h.2.2⟩
theorem bytes_new12 {w w2 : World} {k : Nat} {t : TypeId} (h : w2.ownsRow w.heap.size t 1 (.slice (some ⟨w.heap.size, 0, none⟩) k k) k (madeCells #[.int .u8 0] (k * 1)).toList) : Lies w2 w2.heap.size (some ⟨w.heap.size, 0, none⟩) ((List.replicate k (0 : UInt8)).map bv) := by
  rw [Nat.mul_one, made_zero] at h
  exact Lies.own h
def ckU (t fl : UInt8) (k : Nat) (ks : List Nd) : Ck := ⟨t, fl, List.replicate k 0, ks⟩
theorem ckU_len (t fl : UInt8) (k : Nat) (ks : List Nd) : (ckU t fl k ks).d.length = k := by simp [ckU]
def nd1 : Nd := .mk 1 [] []
theorem nd1_node (W : World) (B : Nat) : Node W B none 0 none 0 nd1 := ⟨Lies.nil, Nat.le_refl _, Nat.zero_le _, Nodes.nil _ _ _, Nat.le_refl _, Nat.zero_le _⟩
theorem nd1_fine : Fine nd1 := .mk (by simp [nd1, Nd.vlen, lens, sizes]) (by simp [nd1, Nd.ks]) (by simp [nd1, Nd.ks])
theorem ckU_fine (t fl : UInt8) (k : Nat) (hk : k ≤ 1000000) (ks : List Nd) (h : ks = [] ∨ ks = [nd1]) : CkFine (ckU t fl k ks) := by
  refine ⟨by rw [ckU_len]; exact hk, ?_, ?_⟩
  · rcases h with rfl | rfl <;> simp [ckU]
  · intro n hn
    rcases h with rfl | rfl
    · cases hn
    · rw [List.mem_singleton.1 hn]; exact nd1_fine
theorem ckU_chunk {W : World} {g k : Nat} (t fl : UInt8) (h : Lies W W.heap.size (some ⟨g, 0, none⟩) ((List.replicate k (0 : UInt8)).map bv)) (hm : k ≤ maxLen) {K : Option Addr} {c : Nat} {ks : List Nd} (hn : Nodes W W.heap.size K ks) (hc : ks.length ≤ c) (hc2 : c ≤ maxLen) : Chunk W W.heap.size (some ⟨g, 0, none⟩) k K c (ckU t fl k ks) :=
  ⟨h, by rw [ckU_len]; exact Nat.le_refl _, hm, hn, hc, hc2⟩
theorem nodes1 {W : World} {q : Nat} (hq : Whole W q 50 #[.int .u16 1, .slice none 0 0, .slice none 0 0]) : Nodes W W.heap.size (some ⟨q, 0, none⟩) [nd1] := by
  refine .mk [hv 1, .slice none 0 0, .slice none 0 0] (fun _ => none) (fun _ => 0) (fun _ => ⟨_, rfl, hq.lt, fun j x hx => ?_⟩) rfl (fun i m hm => ?_) (fun i m hm => ?_)
  · rw [add_row, hq.cell, List.getElem?_toArray]
    exact hx
  · match i, hm with
    | 0, hm =>
      simp only [List.getElem?_cons_zero, Option.some.injEq] at hm
      subst hm
      exact ⟨rfl, ⟨_, rfl, none, 0, rfl, Lies.nil, Nat.le_refl _, Nat.zero_le _⟩, rfl, Nat.le_refl _, Nat.zero_le _⟩
    | i + 1, hm => simp at hm
  · match i, hm with
    | 0, hm => simp only [List.getElem?_cons_zero, Option.some.injEq] at hm; subst hm; exact Nodes.nil _ _ _
    | i + 1, hm => simp at hm
set_option maxRecDepth 100000 in
set_option maxHeartbeats 8000000 in
theorem unk_law (t fl : UInt8) (d : List UInt8) (A : Option Addr) (c : Nat) (sz : UInt8) (w : World) (h : Lies w w.heap.size A (d.map bv)) (hc : d.length ≤ c) (hm : c ≤ maxLen) (hh : Handle w) :
    Calls Tryz.prog 5 #[bv t, bv fl, .slice A d.length c, bv sz] w fun e w' => e = .returned (.bool true) ∧ Below w.heap.size w w' := by
  have HH := Lib.hid hh
  have HD := Lib.hid h
  have hO := rkof_any t
  rw [kV_of] at hO
  have HU := Lib.hid (fun (x : Ck) (hx : x.t = t) (hk : kn t = false) => unk_chk x (by rw [hx]; exact hk))
  generalize hkb : kn t = kb at *
  generalize kdOf t = f at *
  obtain ⟨ty, nm, mk, lo, hi, un, ki⟩ := f
  unfold Kd.val at hO
  simp only [] at hO
  clear h hh
  go_enter Tryz.func5, Tryz.ntmps5
  go_wp2_with fail
  refine (hO _).mono ?_
  rintro e w1 ⟨rfl, b1⟩
  have B2 := b1.alloc b1.size (.cells #[bv ty, .string nm, bv mk, .int .i64 lo, .int .i64 hi, .int .i64 un, .int .i64 ki] 45)
  go_wp2_with fail
  generalize w1.alloc (.cells #[bv ty, .string nm, bv mk, .int .i64 lo, .int .i64 hi, .int .i64 un, .int .i64 ki] 45) = w2 at *
  refine (cawake_any w2 (HH.out.below B2 HH.out.lt)).mono ?_
  rintro e w3 ⟨rfl, b3⟩
  have B3 := B2.trans (b3.mono B2.size)
  clear hO b1 b3 B2
  cases kb with
  | true =>
    go_wp2_with fail
    refine (cawake_any w3 (HH.out.below B3 HH.out.lt)).mono ?_
    rintro e w4 ⟨rfl, b4⟩
    go_wp2_with fail
    go_ret
    exact ⟨rfl, B3.trans (b4.mono B3.size)⟩
  | false =>
    by_cases hl : 1000 < d.length
    · have hl2 : (1000 : Int) < (d.length : Int) := by omega
      clear hl
      go_wp2_with fail
      refine (cawake_any w3 (HH.out.below B3 HH.out.lt)).mono ?_
      rintro e w4 ⟨rfl, b4⟩
      go_wp2_with fail
      go_ret
      exact ⟨rfl, B3.trans (b4.mono B3.size)⟩
    · have hl2 : ¬ (1000 : Int) < (d.length : Int) := by omega
      have hx : chkC ⟨t, fl, d, []⟩ = 0 := by rw [HU.out _ rfl rfl, if_neg (by simp), if_neg (by unfold csz; simp [lens, sizes]; omega)]
      have hsz : csz ⟨t, fl, d, []⟩ = 4 + d.length := by unfold csz; simp [lens, sizes]
      have hfine : CkFine ⟨t, fl, d, []⟩ := ⟨by simp only []; omega, by simp, by intro n hn; cases hn⟩
      have hC4 : Chunk (w3.alloc (.cells (ckCells ⟨t, fl, d, []⟩ A c none 0) 25)) (w3.alloc (.cells (ckCells ⟨t, fl, d, []⟩ A c none 0) 25)).heap.size A c none 0 ⟨t, fl, d, []⟩ :=
        Chunk.on (w := w3) ⟨(HD.out.below B3).more B3.size, hc, hm, Nodes.nil _ _ _, Nat.le_refl _, Nat.zero_le _⟩ ((Below.refl _ w3).alloc (Nat.le_refl _) _)
      have B4 := B3.alloc B3.size (.cells (ckCells ⟨t, fl, d, []⟩ A c none 0) 25)
      have y4 := CkBox.new w3 ⟨t, fl, d, []⟩ A c none 0
      have hEn : Calls Tryz.prog 16 #[ckV ⟨t, fl, d, []⟩ A c none 0] (w3.alloc (.cells (ckCells ⟨t, fl, d, []⟩ A c none 0) 25)) fun e w' => Below (w3.alloc (.cells (ckCells ⟨t, fl, d, []⟩ A c none 0) 25)).heap.size (w3.alloc (.cells (ckCells ⟨t, fl, d, []⟩ A c none 0) 25)) w' ∧ ∃ A' c', e = .returned (.tuple #[.slice A' (4 + d.length) c', .nilIface]) ∧ Lies w' w'.heap.size A' ((ckB ⟨t, fl, d, []⟩).map bv) ∧ 4 + d.length ≤ c' ∧ c' ≤ maxLen := by
        have h9 := cencode_any ⟨t, fl, d, []⟩ hfine A c none 0 _ hC4 (HH.out.below B4 HH.out.lt)
        refine Calls.mono (R := CEncR _ ⟨t, fl, d, []⟩) h9 ?_
        rintro e w' ⟨h1, ⟨h2, _⟩ | ⟨_, A', c', h3, h4, h5, h6⟩⟩
        · exact absurd hx h2
        · rw [hsz, hx] at h3
          rw [hsz] at h5
          exact ⟨h1, A', c', h3, h4, h5, h6⟩
      have HP : Hid (∀ W A5 c5, Handle W → Lies W W.heap.size A5 ((ckB ⟨t, fl, d, []⟩).map bv) → 4 + d.length ≤ c5 → c5 ≤ maxLen → Calls Tryz.prog 21 #[.slice A5 (4 + d.length) c5] W fun e w' => Below W.heap.size W w' ∧ ∃ A' c' K' k', e = .returned (.tuple #[ckV ⟨t, fl, d, []⟩ A' c' K' k', .nilIface]) ∧ Chunk w' w'.heap.size A' c' K' k' ⟨t, fl, d, []⟩) := fun W A5 c5 hW hL q1 q2 => by
        have h9 := cparse_any A5 c5 (ckB ⟨t, fl, d, []⟩) W hW hL (by rw [ckB_len, hsz]; exact q1) q2 (by rw [ckB_len, hsz]; omega)
        rw [ckB_len, hsz, cpa_ckB _ hx] at h9
        refine Calls.mono (R := CPaR W (.ok ⟨t, fl, d, []⟩)) h9 ?_
        rintro e w' ⟨h1, A', c', K', k', rfl, h3⟩
        exact ⟨h1, A', c', K', k', rfl, h3.chunk fun b hb => hb.2⟩
      have HRS : Hid (∀ W A1 c1 K1 k1, Chunk W W.heap.size A1 c1 K1 k1 ⟨t, fl, d, []⟩ → Chunk W W.heap.size A c none 0 ⟨t, fl, d, []⟩ → Calls Tryz.prog 24 #[ckV ⟨t, fl, d, []⟩ A1 c1 K1 k1, ckV ⟨t, fl, d, []⟩ A c none 0] W fun e w' => e = .returned (.bool true) ∧ Below W.heap.size W w') := fun W A1 c1 K1 k1 g1 g2 => by
        have h9 := rcsame12 ⟨t, fl, d, []⟩ ⟨t, fl, d, []⟩ (by unfold maxLen; simp only []; omega) (by simp) (by simp) A1 c1 K1 k1 A c none 0 W g1 g2
        rwa [ckEq_self] at h9
      obtain ⟨m, hm20⟩ : ∃ m : Nat, sz.toNat % 20 = m := ⟨_, rfl⟩
      have hm2 : m < 20 := by omega
      have HW : Hid (wrap64 (65520 + (wrap64 (sz.toNat : Int)).tmod 20) = ((65520 + m : Nat) : Int)) := by
        have hs9 := sz.toNat_lt
        have e1 : wrap64 (sz.toNat : Int) = (sz.toNat : Int) := by unfold wrap64; omega
        unfold Hid
        rw [e1, Int.tmod_eq_emod_of_nonneg (by omega)]
        unfold wrap64
        omega
      have HK : Hid (65520 + m < 65540) := by unfold Hid; omega
      generalize 65520 + m = k at *
      clear hx hsz hfine hl hm20
      have hd1 : d.length ≤ 1000 := by omega
      have HSZ : Hid (∀ (W : World) (g : Nat), Lies W W.heap.size (some ⟨g, 0, none⟩) ((List.replicate k (0 : UInt8)).map bv) → Calls Tryz.prog 19 #[.agg #[bv t, bv fl, .slice (some ⟨g, 0, none⟩) k k, .slice none 0 0]] W fun e w' => e = .returned (.int .i64 ((4 + k : Nat) : Int)) ∧ Below W.heap.size W w') := fun W g hL => by
        have hk9 := HK.out
        have h9 := csize_any (ckU t fl k []) (ckU_fine t fl k (by omega) [] (.inl rfl)) (some ⟨g, 0, none⟩) k none 0 W (ckU_chunk t fl hL (by unfold maxLen; omega) (Nodes.nil _ _ _) (Nat.le_refl _) (Nat.zero_le _))
        unfold ckV at h9
        rw [ckU_len, show csz (ckU t fl k []) = 4 + k by unfold csz; rw [ckU_len]; simp [ckU, lens, sizes]] at h9
        exact h9
      have HCH : Hid (∀ (W : World) (g : Nat), Handle W → Lies W W.heap.size (some ⟨g, 0, none⟩) ((List.replicate k (0 : UInt8)).map bv) → Calls Tryz.prog 18 #[.agg #[bv t, bv fl, .slice (some ⟨g, 0, none⟩) k k, .slice none 0 0]] W fun e w' => e = .returned (codeE (if 65531 < k then 4 else 0)) ∧ Below W.heap.size W w') := fun W g hW hL => by
        have hk9 := HK.out
        have h9 := ccheck_any (ckU t fl k []) (ckU_fine t fl k (by omega) [] (.inl rfl)) (some ⟨g, 0, none⟩) k none 0 W (ckU_chunk t fl hL (by unfold maxLen; omega) (Nodes.nil _ _ _) (Nat.le_refl _) (Nat.zero_le _)) hW
        unfold ckV at h9
        rw [ckU_len, HU.out (ckU t fl k []) rfl rfl, if_neg (by simp [ckU]), show csz (ckU t fl k []) = 4 + k by unfold csz; rw [ckU_len]; simp [ckU, lens, sizes]] at h9
        have e9 : (if 65535 < 4 + k then 4 else 0) = (if 65531 < k then 4 else 0) := by split <;> split <;> omega
        rw [e9] at h9
        exact h9
      have HC7 : Hid (∀ (W : World) (g : Nat) (K : Option Addr) (kc : Nat), Handle W → Lies W W.heap.size (some ⟨g, 0, none⟩) ((List.replicate k (0 : UInt8)).map bv) → Nodes W W.heap.size K [nd1] → 1 ≤ kc → kc ≤ maxLen → Calls Tryz.prog 18 #[.agg #[bv t, bv fl, .slice (some ⟨g, 0, none⟩) k k, .slice K 1 kc]] W fun e w' => e = .returned (codeE 7) ∧ Below W.heap.size W w') := fun W g K kc hW hL hN h1 h2 => by
        have hk9 := HK.out
        have h9 := ccheck_any (ckU t fl k [nd1]) (ckU_fine t fl k (by omega) [nd1] (.inr rfl)) (some ⟨g, 0, none⟩) k K kc W (ckU_chunk t fl hL (by unfold maxLen; omega) hN h1 h2) hW
        unfold ckV at h9
        rw [ckU_len, HU.out (ckU t fl k [nd1]) rfl rfl, if_pos (by simp [ckU])] at h9
        exact h9
      have hlenB : (((4 + d.length : Nat) : Int) != 4 + (d.length : Int)) = false := by rw [bne_eq_false_iff_eq]; omega
      obtain ⟨n5, hn5⟩ : ∃ n5, 4 + d.length = n5 := ⟨_, rfl⟩
      rw [hn5] at hEn hlenB
      simp only [hn5] at HP
      have hn5b : n5 ≤ 1004 := by omega
      clear hn5
      generalize ckB ⟨t, fl, d, []⟩ = bs at *
      have hsz4 : w3.heap.size < (w3.alloc (.cells (ckCells ⟨t, fl, d, []⟩ A c none 0) 25)).heap.size := by simp
      go_upto_region 5 with fail
      generalize w3.alloc (.cells (ckCells ⟨t, fl, d, []⟩ A c none 0) 25) = w4 at *
      have hg4 : w.heap.size ≤ w3.heap.size := B3.size
      generalize w3.heap.size = g4 at *
      obtain ⟨q0, q1, q2, q3⟩ := y4.cs
      go_wp2_with fail
      refine hEn.mono ?_
      rintro e w5 ⟨b5, A5, c5, rfl, L5, hc5, hm5⟩
      have B5 := B4.trans (b5.mono B4.size)
      have y5 := y4.below b5
      have hP5 := HP.out w5 A5 c5 (HH.out.below B5 HH.out.lt) L5 hc5 hm5
      clear q0 q1 q2 q3 hEn
      obtain ⟨q0, q1, q2, q3⟩ := y5.cs
      go_wp2_with fail
      refine hP5.mono ?_
      rintro e w6 ⟨b6, A6, c6, K6, k6, rfl, hC6⟩
      have b7 : Below w6.heap.size w6 (w6.alloc (.cells (ckCells ⟨t, fl, d, []⟩ A6 c6 K6 k6) 25)) := (Below.refl _ _).alloc (Nat.le_refl _) _
      have b67 := b6.trans (b7.mono b6.size)
      have b57 := b5.trans (b67.mono b5.size)
      have B7 := B4.trans (b57.mono B4.size)
      have v7 := CkBox.new w6 ⟨t, fl, d, []⟩ A6 c6 K6 k6
      have y7 := y5.below b67
      have hC7 := hC6.on b7
      have hC47 := hC4.on b57
      go_upto_region 7 with fail
      generalize w6.alloc (.cells (ckCells ⟨t, fl, d, []⟩ A6 c6 K6 k6) 25) = w7 at *
      have hS7 := HRS.out w7 A6 c6 K6 k6 hC7 hC47
      clear q0 q1 q2 q3 hP5
      obtain ⟨q0, q1, q2, q3⟩ := y7.cs
      obtain ⟨p0, p1, p2, p3⟩ := v7.cs
      clear hC6 b7 b67 b57
      go_wp2_with fail
      refine hS7.mono ?_
      rintro e w8 ⟨rfl, b8⟩
      have B8 := B7.trans (b8.mono B7.size)
      have y8 := y7.below b8
      clear q0 q1 q2 q3 p0 p1 p2 p3 hS7 v7 y7
      obtain ⟨i0, hi, hz0, hz1, hz2⟩ := made_u12
      go_upto_region 10 with fail
      rw [HW.out]
      have hk1 := HK.out
      have r2 := Whole.frozen y8 2
      have r3 := Whole.frozen y8 3
      go_upto_region 11 with (at_make; refine wpList_make_full _ rfl (.tmp 72) (.tmp 72) 22 rfl w8.heap.size 5 i0 _ 1 Tryz.underlying22 hi hz0 hz1 .i64 .i64 _ _ k rfl rfl rfl rfl (by rw [hz2]; omega) (by unfold maxLen; omega) (Nat.le_refl _) ?_; intro w9 hown hgrow; have hL9 := bytes_new12 hown; have b9 : Below w8.heap.size w8 w9 := (Below.refl _ w8).grown hgrow (Nat.le_refl _) (by simp); have y9 := Whole.below y8 b9 (Whole.lt y8); have r29 := Whole.frozen y9 2; obtain ⟨q0, q1, q2, q3⟩ := CkBox.cs (show CkBox w9 g4 ⟨t, fl, d, []⟩ A c none 0 from y9); clear hown hgrow r2 r3)
      have B9 := B8.trans (b9.mono B8.size)
      have hg48 : g4 < w8.heap.size := Whole.lt y8
      have y10 : Whole (w9.setCell ⟨g4, 2, none⟩ (.slice (some ⟨w8.heap.size, 0, none⟩) k k)) g4 25 #[bv t, bv fl, .slice (some ⟨w8.heap.size, 0, none⟩) k k, .slice none 0 0] := Whole.set_ y9 2 _
      have hL10 : Lies (w9.setCell ⟨g4, 2, none⟩ (.slice (some ⟨w8.heap.size, 0, none⟩) k k)) (w9.setCell ⟨g4, 2, none⟩ (.slice (some ⟨w8.heap.size, 0, none⟩) k k)).heap.size (some ⟨w8.heap.size, 0, none⟩) ((List.replicate k (0 : UInt8)).map bv) := by
        intro hne
        obtain ⟨ad, e1, e2, e3⟩ := hL9 hne
        cases e1
        refine ⟨_, rfl, by simpa [World.setCell] using e2, fun j u hu => ?_⟩
        rw [World.cell?_setCell_other _ _ _ _ (fun e => by have := congrArg Addr.block e; rw [blk_add] at this; simp only at this; omega)]
        exact e3 j u hu
      have B10 : Below w.heap.size w (w9.setCell ⟨g4, 2, none⟩ (.slice (some ⟨w8.heap.size, 0, none⟩) k k)) := B9.setCell hg4 _
      generalize w9.setCell ⟨g4, 2, none⟩ (.slice (some ⟨w8.heap.size, 0, none⟩) k k) = w10 at *
      generalize w8.heap.size = gd at *
      have hCH := HCH.out w10 gd (HH.out.below B10 HH.out.lt) hL10
      clear r29 y9 hL9 y8 b9 hi hz0 hz1 hz2 q0 q1 q2 q3
      obtain ⟨q0, q1, q2, q3⟩ := wh4 y10
      have hsk : (((4 + k : Nat) : Int) != (k : Int) + 4) = false := by rw [bne_eq_false_iff_eq]; omega
      have hk2 := HK.out
      generalize hk4 : 4 + k = k4 at *
      by_cases hbig : 65531 < k
      · have hbI : (65531 : Int) < (k : Int) := by omega
        rw [if_pos hbig] at hCH
        have hCo := coded12 4 4
        clear hbig
        simp only [decide_true] at hCo
        generalize hve : codeE _ = ve at hCH hCo
        clear hve
        go_wp2_with fail
        refine hCH.mono ?_
        rintro e w11 ⟨rfl, b11⟩
        have B11 := B10.trans (b11.mono B10.size)
        have y11 := Whole.below y10 b11 (Whole.lt y10)
        have hL11 := (hL10.below b11).more b11.size
        go_wp2_with fail
        refine (hCo w11).mono ?_
        rintro e w12 ⟨rfl, rfl⟩
        clear q0 q1 q2 q3
        obtain ⟨q0, q1, q2, q3⟩ := wh4 y11
        have hSZ := HSZ.out w11 gd hL11
        go_wp2_with fail
        refine hSZ.mono ?_
        rintro e w13 ⟨rfl, b13⟩
        have B13 := B11.trans (b13.mono B11.size)
        have y13 := Whole.below y11 b13 (Whole.lt y11)
        have hL13 := (hL11.below b13).more b13.size
        have y14 := Whole.alloc y13 (.cells #[.int .u16 1, .slice none 0 0, .slice none 0 0] 50)
        have n14 := Whole.new w13 50 #[.int .u16 1, .slice none 0 0, .slice none 0 0]
        have B14 := B13.alloc B13.size (.cells #[.int .u16 1, .slice none 0 0, .slice none 0 0] 50)
        have hL14 := hL13.alloc (Nat.le_refl _) (.cells #[.int .u16 1, .slice none 0 0, .slice none 0 0] 50)
        have r3 := Whole.frozen y14 3
        have hgw : g4 < w13.heap.size := Whole.lt y13
        clear q0 q1 q2 q3
        obtain ⟨q0, q1, q2, q3⟩ := wh4 y14
        go_upto_region 17 with fail
        have y15 : Whole ((w13.setCell ⟨g4, 3, none⟩ (.slice (some ⟨w13.heap.size, 0, none⟩) 1 1)).alloc (.cells #[.int .u16 1, .slice none 0 0, .slice none 0 0] 50)) g4 25 #[bv t, bv fl, .slice (some ⟨gd, 0, none⟩) k k, .slice (some ⟨w13.heap.size, 0, none⟩) 1 1] := Whole.alloc (Whole.set_ y13 3 _) _
        have hss : (w13.setCell ⟨g4, 3, none⟩ (.slice (some ⟨w13.heap.size, 0, none⟩) 1 1)).heap.size = w13.heap.size := by simp [World.setCell]
        have n15 : Whole ((w13.setCell ⟨g4, 3, none⟩ (.slice (some ⟨w13.heap.size, 0, none⟩) 1 1)).alloc (.cells #[.int .u16 1, .slice none 0 0, .slice none 0 0] 50)) w13.heap.size 50 #[.int .u16 1, .slice none 0 0, .slice none 0 0] := by
          have h9 := Whole.new (w13.setCell ⟨g4, 3, none⟩ (.slice (some ⟨w13.heap.size, 0, none⟩) 1 1)) 50 #[.int .u16 1, .slice none 0 0, .slice none 0 0]
          rwa [hss] at h9
        have B15 : Below w.heap.size w ((w13.setCell ⟨g4, 3, none⟩ (.slice (some ⟨w13.heap.size, 0, none⟩) 1 1)).alloc (.cells #[.int .u16 1, .slice none 0 0, .slice none 0 0] 50)) := (B13.setCell hg4 _).alloc (by rw [hss]; exact B13.size) _
        have hL15 : Lies ((w13.setCell ⟨g4, 3, none⟩ (.slice (some ⟨w13.heap.size, 0, none⟩) 1 1)).alloc (.cells #[.int .u16 1, .slice none 0 0, .slice none 0 0] 50)) ((w13.setCell ⟨g4, 3, none⟩ (.slice (some ⟨w13.heap.size, 0, none⟩) 1 1)).alloc (.cells #[.int .u16 1, .slice none 0 0, .slice none 0 0] 50)).heap.size (some ⟨gd, 0, none⟩) ((List.replicate k (0 : UInt8)).map bv) := by
          intro hne
          obtain ⟨ad, e1, e2, e3⟩ := hL13 hne
          cases e1
          have e2' : gd < w13.heap.size := e2
          refine ⟨_, rfl, by rw [World.size_alloc, hss]; exact Nat.lt_succ_of_lt e2, fun j u hu => ?_⟩
          rw [World.cell?_alloc_lt _ _ _ (by rw [hss, blk_add]; exact e2), World.cell?_setCell_other _ _ _ _ (fun e => by have := congrArg Addr.block e; rw [blk_add] at this; simp only at this; omega)]
          exact e3 j u hu
        have hN15 : Nodes ((w13.setCell ⟨g4, 3, none⟩ (.slice (some ⟨w13.heap.size, 0, none⟩) 1 1)).alloc (.cells #[.int .u16 1, .slice none 0 0, .slice none 0 0] 50)) ((w13.setCell ⟨g4, 3, none⟩ (.slice (some ⟨w13.heap.size, 0, none⟩) 1 1)).alloc (.cells #[.int .u16 1, .slice none 0 0, .slice none 0 0] 50)).heap.size (some ⟨w13.heap.size, 0, none⟩) [nd1] := nodes1 n15
        generalize (w13.setCell ⟨g4, 3, none⟩ (.slice (some ⟨w13.heap.size, 0, none⟩) 1 1)).alloc (.cells #[.int .u16 1, .slice none 0 0, .slice none 0 0] 50) = w15 at *
        obtain ⟨u0, u1, u2, u3⟩ := wh4 y15
        have h7 := HC7.out w15 gd _ 1 (HH.out.below B15 HH.out.lt) hL15 hN15 (Nat.le_refl _) (by unfold maxLen; omega)
        have hC7 := coded12 7 7 
        simp only [decide_true] at hC7
        generalize hv7 : codeE 7 = v7 at h7 hC7
        clear hv7 q0 q1 q2 q3 r3 y14 n14 hL14 hss
        go_wp2_with fail
        refine h7.mono ?_
        rintro e w16 ⟨rfl, b16⟩
        go_wp2_with fail
        refine (hC7 w16).mono ?_
        rintro e w17 ⟨rfl, rfl⟩
        go_wp2_with fail
        go_ret
        exact ⟨rfl, B15.trans (b16.mono B15.size)⟩
      · have hbI : ¬ (65531 : Int) < (k : Int) := by omega
        rw [if_neg hbig] at hCH
        have hCo := coded12 0 0
        clear hbig
        simp only [decide_true] at hCo
        generalize hve : codeE _ = ve at hCH hCo
        clear hve
        go_wp2_with fail
        refine hCH.mono ?_
        rintro e w11 ⟨rfl, b11⟩
        have B11 := B10.trans (b11.mono B10.size)
        have y11 := Whole.below y10 b11 (Whole.lt y10)
        have hL11 := (hL10.below b11).more b11.size
        go_wp2_with fail
        refine (hCo w11).mono ?_
        rintro e w12 ⟨rfl, rfl⟩
        clear q0 q1 q2 q3
        obtain ⟨q0, q1, q2, q3⟩ := wh4 y11
        have hSZ := HSZ.out w11 gd hL11
        go_wp2_with fail
        refine hSZ.mono ?_
        rintro e w13 ⟨rfl, b13⟩
        have B13 := B11.trans (b13.mono B11.size)
        have y13 := Whole.below y11 b13 (Whole.lt y11)
        have hL13 := (hL11.below b13).more b13.size
        have y14 := Whole.alloc y13 (.cells #[.int .u16 1, .slice none 0 0, .slice none 0 0] 50)
        have n14 := Whole.new w13 50 #[.int .u16 1, .slice none 0 0, .slice none 0 0]
        have B14 := B13.alloc B13.size (.cells #[.int .u16 1, .slice none 0 0, .slice none 0 0] 50)
        have hL14 := hL13.alloc (Nat.le_refl _) (.cells #[.int .u16 1, .slice none 0 0, .slice none 0 0] 50)
        have r3 := Whole.frozen y14 3
        have hgw : g4 < w13.heap.size := Whole.lt y13
        clear q0 q1 q2 q3
        obtain ⟨q0, q1, q2, q3⟩ := wh4 y14
        go_upto_region 17 with fail
        have y15 : Whole ((w13.setCell ⟨g4, 3, none⟩ (.slice (some ⟨w13.heap.size, 0, none⟩) 1 1)).alloc (.cells #[.int .u16 1, .slice none 0 0, .slice none 0 0] 50)) g4 25 #[bv t, bv fl, .slice (some ⟨gd, 0, none⟩) k k, .slice (some ⟨w13.heap.size, 0, none⟩) 1 1] := Whole.alloc (Whole.set_ y13 3 _) _
        have hss : (w13.setCell ⟨g4, 3, none⟩ (.slice (some ⟨w13.heap.size, 0, none⟩) 1 1)).heap.size = w13.heap.size := by simp [World.setCell]
        have n15 : Whole ((w13.setCell ⟨g4, 3, none⟩ (.slice (some ⟨w13.heap.size, 0, none⟩) 1 1)).alloc (.cells #[.int .u16 1, .slice none 0 0, .slice none 0 0] 50)) w13.heap.size 50 #[.int .u16 1, .slice none 0 0, .slice none 0 0] := by
          have h9 := Whole.new (w13.setCell ⟨g4, 3, none⟩ (.slice (some ⟨w13.heap.size, 0, none⟩) 1 1)) 50 #[.int .u16 1, .slice none 0 0, .slice none 0 0]
          rwa [hss] at h9
        have B15 : Below w.heap.size w ((w13.setCell ⟨g4, 3, none⟩ (.slice (some ⟨w13.heap.size, 0, none⟩) 1 1)).alloc (.cells #[.int .u16 1, .slice none 0 0, .slice none 0 0] 50)) := (B13.setCell hg4 _).alloc (by rw [hss]; exact B13.size) _
        have hL15 : Lies ((w13.setCell ⟨g4, 3, none⟩ (.slice (some ⟨w13.heap.size, 0, none⟩) 1 1)).alloc (.cells #[.int .u16 1, .slice none 0 0, .slice none 0 0] 50)) ((w13.setCell ⟨g4, 3, none⟩ (.slice (some ⟨w13.heap.size, 0, none⟩) 1 1)).alloc (.cells #[.int .u16 1, .slice none 0 0, .slice none 0 0] 50)).heap.size (some ⟨gd, 0, none⟩) ((List.replicate k (0 : UInt8)).map bv) := by
          intro hne
          obtain ⟨ad, e1, e2, e3⟩ := hL13 hne
          cases e1
          have e2' : gd < w13.heap.size := e2
          refine ⟨_, rfl, by rw [World.size_alloc, hss]; exact Nat.lt_succ_of_lt e2, fun j u hu => ?_⟩
          rw [World.cell?_alloc_lt _ _ _ (by rw [hss, blk_add]; exact e2), World.cell?_setCell_other _ _ _ _ (fun e => by have := congrArg Addr.block e; rw [blk_add] at this; simp only at this; omega)]
          exact e3 j u hu
        have hN15 : Nodes ((w13.setCell ⟨g4, 3, none⟩ (.slice (some ⟨w13.heap.size, 0, none⟩) 1 1)).alloc (.cells #[.int .u16 1, .slice none 0 0, .slice none 0 0] 50)) ((w13.setCell ⟨g4, 3, none⟩ (.slice (some ⟨w13.heap.size, 0, none⟩) 1 1)).alloc (.cells #[.int .u16 1, .slice none 0 0, .slice none 0 0] 50)).heap.size (some ⟨w13.heap.size, 0, none⟩) [nd1] := nodes1 n15
        generalize (w13.setCell ⟨g4, 3, none⟩ (.slice (some ⟨w13.heap.size, 0, none⟩) 1 1)).alloc (.cells #[.int .u16 1, .slice none 0 0, .slice none 0 0] 50) = w15 at *
        obtain ⟨u0, u1, u2, u3⟩ := wh4 y15
        have h7 := HC7.out w15 gd _ 1 (HH.out.below B15 HH.out.lt) hL15 hN15 (Nat.le_refl _) (by unfold maxLen; omega)
        have hC7 := coded12 7 7 
        simp only [decide_true] at hC7
        generalize hv7 : codeE 7 = v7 at h7 hC7
        clear hv7 q0 q1 q2 q3 r3 y14 n14 hL14 hss
        go_wp2_with fail
        refine h7.mono ?_
        rintro e w16 ⟨rfl, b16⟩
        go_wp2_with fail
        refine (hC7 w16).mono ?_
        rintro e w17 ⟨rfl, rfl⟩
        go_wp2_with fail
        go_ret
        exact ⟨rfl, B15.trans (b16.mono B15.size)⟩
set_option maxRecDepth 100000 in
theorem law_ChunkUnknown {H : Type} {enc : TypeId × Value → H} {W : World} {base : Nat} {v0 v1 v2 v3 : Value} {d0 d1 d2 d3 : DataW H} {p0 p1 p2 p3 : List MemPlace}
    (o0 : Value.okWide Tryz.prog W .any base 5 v0) (_h0 : DataW.Trod enc Tryz.prog W 0 (fun _ => true) true 5 v0 d0 p0) (_s0 : Small Tryz.prog 5 d0)
    (o1 : Value.okWide Tryz.prog W .any base 5 v1) (_h1 : DataW.Trod enc Tryz.prog W 0 (fun _ => true) true 5 v1 d1 p1) (_s1 : Small Tryz.prog 5 d1)
    (o2 : Value.okWide Tryz.prog W .any base 22 v2) (h2 : DataW.Trod enc Tryz.prog W 0 (fun _ => true) true 22 v2 d2 p2) (_s2 : Small Tryz.prog 22 d2)
    (o3 : Value.okWide Tryz.prog W .any base 5 v3) (_h3 : DataW.Trod enc Tryz.prog W 0 (fun _ => true) true 5 v3 d3 p3) (_s3 : Small Tryz.prog 5 d3) (hL : laidMetH Tryz.prog laidL W) :
    Calls Tryz.prog 5 #[v0, v1, v2, v3] W fun e w' => e = .returned (.bool true) ∧ Below W.heap.size W w' := by
  obtain ⟨n, rfl, _, _, wn⟩ := open_int Tryz.underlying5 o0 _h0
  obtain ⟨m, rfl, _, _, wm⟩ := open_int Tryz.underlying5 o1 _h1
  obtain ⟨z, rfl, _, _, wz⟩ := open_int Tryz.underlying5 o3 _h3
  obtain ⟨A, q, cc, rfl⟩ := okWide_slice Tryz.underlying22 o2
  obtain ⟨fuel, hf⟩ := h2
  obtain ⟨b, rfl, g2, g3, g4⟩ := open_bytes Tryz.underlying22 Tryz.underlying5 (by kernel_rfl) hf
  rw [bv_of12 (wf_u8 wn), bv_of12 (wf_u8 wm), bv_of12 (wf_u8 wz)]
  exact unk_law _ _ b A cc _ W g2 g3 g4 (handle_of_laid hL)
end Go.Proofs.YthkbcpbgoefanaaGreatDoor

