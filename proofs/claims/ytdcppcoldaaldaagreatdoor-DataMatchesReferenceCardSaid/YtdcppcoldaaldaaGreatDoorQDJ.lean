/- Layer 13: bytesOf. -/
/- Layer 13: the chunk of a description, the description of a chunk. Mathematics alone. -/
/- Layer 13: Make (its region by tools/gen_data_k.py). It writes nothing that was there. -/
/- Layer 13: the two closures of Of (a flag; the next number), and what Of holds while it reads. They write nothing that was there but the cursor. -/
import Derived.Test.YtdcppcoldaaldaaGreatDoorQDE
import Derived.Deep.RegionHeld3
import Derived.Deep.Cut
import Derived.Test.YtdcppcoldaaldaaGreatDoorQCG
import Derived.Test.YtdcppcoldaaldaaGreatDoorQW
import Derived.Test.YtdcppcoldaaldaaGreatDoorQS
import Derived.Test.YtdcppcoldaaldaaGreatDoorQHX
import Derived.Test.YtdcppcoldaaldaaGreatDoorQNF
import Derived.Laws.Tables
import Derived.Test.YtdcppcoldaaldaaGreatDoorQTC



namespace Go.Proofs.YtdcppcoldaaldaaGreatDoor
open Go.RowKit

set_option linter.unusedSimpArgs false
theorem dput_drew (k : Nat) (hk : k = 1 ∨ k = 2 ∨ k = 4) (l : List UInt32) (hl : l.length ≤ 1000) (w : World) :
    Calls Tryz.prog 86 #[.int .i64 (k : Int), .slice (some ⟨w.heap.size, 0, none⟩) l.length l.length] (w.alloc (.cells (l.map uv).toArray 22)).drew fun e w' =>
      ∃ A' c', e = .returned (.slice A' (l.length * k) c') ∧ IsB w' w'.heap.size (.slice A' (l.length * k) c') (puts k l) ∧ Below w.heap.size w w' := by
  have h := dput_any k hk l hl w.drew
  refine Calls.mono (show Calls Tryz.prog 86 #[.int .i64 (k : Int), .slice (some ⟨w.heap.size, 0, none⟩) l.length l.length] (w.alloc (.cells (l.map uv).toArray 22)).drew _ from h) ?_
  rintro e w' ⟨A', c', h1, h2, h3⟩
  exact ⟨A', c', h1, h2, below_undrew13 h3⟩
theorem dput_lies (k : Nat) (hk : k = 1 ∨ k = 2 ∨ k = 4) (A : Option Addr) (l : List UInt32) (hl : l.length ≤ 1000) (w : World) (h : Lies w w.heap.size A (l.map uv)) :
    Calls Tryz.prog 86 #[.int .i64 (k : Int), .slice A l.length l.length] w fun e w' =>
      ∃ A' c', e = .returned (.slice A' (l.length * k) c') ∧ IsB w' w'.heap.size (.slice A' (l.length * k) c') (puts k l) ∧ Below w.heap.size w w' := by
  refine (put_any k hk A l.length l _ h (by omega)).mono ?_
  rintro e w' ⟨A', c', rfl, hown, hb⟩
  have hcap := own_cap hown
  exact ⟨A', c', rfl, ⟨A', c', by rw [puts_len], Lies.own hown, by rw [puts_len]; exact hcap.2.1, hcap.2.2⟩, hb⟩
theorem lies_new (w : World) (l : List UInt32) : Lies (w.alloc (.cells (l.map uv).toArray 22)) (w.heap.size + 1) (some ⟨w.heap.size, 0, none⟩) (l.map uv) := Lies.newN w _ _
theorem IsB.up13 {w w' : World} {v : Value} {l : List UInt8} (h : IsB w w.heap.size v l) (hb : Below w.heap.size w w') : IsB w' w'.heap.size v l := by
  obtain ⟨A, c, h1, h2, h3, h4⟩ := h
  exact ⟨A, c, h1, (h2.below hb).more hb.size, h3, h4⟩
/-- two rows of numbers were made ahead of the first Put: the second row first -/
theorem dput_b (k : Nat) (hk : k = 1 ∨ k = 2 ∨ k = 4) (l l' : List UInt32) (hl : l.length ≤ 1000) (w : World) :
    Calls Tryz.prog 86 #[.int .i64 (k : Int), .slice (some ⟨w.heap.size + 1, 0, none⟩) l.length l.length] ((w.alloc (.cells (l'.map uv).toArray 22)).alloc (.cells (l.map uv).toArray 22)).drew fun e w' =>
      ∃ A' c', e = .returned (.slice A' (l.length * k) c') ∧ IsB w' w'.heap.size (.slice A' (l.length * k) c') (puts k l) ∧ Below w.heap.size w w' ∧ Lies w' w'.heap.size (some ⟨w.heap.size, 0, none⟩) (l'.map uv) := by
  have h1 := (lies_new (w.alloc (.cells (l'.map uv).toArray 22)) l)
  rw [World.size_alloc] at h1
  have h2 := ((lies_new w l').alloc (by simp) (.cells (l.map uv).toArray 22)).below (below_drew (Below.refl _ _))
  have h3 := h1.below (below_drew (Below.refl _ _))
  refine (dput_lies k hk _ l hl _ (h3.more (by show _ ≤ ((w.alloc _).alloc _).heap.size; simp))).mono ?_
  rintro e w' ⟨A', c', rfl, i1, b1⟩
  have b1' := below_undrew13 b1
  exact ⟨A', c', rfl, i1, (((Below.refl _ w).alloc (Nat.le_refl _) _).alloc (by simp) _).trans (b1'.mono (by show _ ≤ ((w.alloc _).alloc _).heap.size; simp; omega)), ((h2.more (by show _ ≤ ((w.alloc _).alloc _).heap.size; simp)).below b1).more b1.size⟩
/-- the first row first -/
theorem dput_c (k : Nat) (hk : k = 1 ∨ k = 2 ∨ k = 4) (l l' : List UInt32) (hl : l.length ≤ 1000) (w : World) :
    Calls Tryz.prog 86 #[.int .i64 (k : Int), .slice (some ⟨w.heap.size, 0, none⟩) l.length l.length] ((w.alloc (.cells (l.map uv).toArray 22)).alloc (.cells (l'.map uv).toArray 22)).drew fun e w' =>
      ∃ A' c', e = .returned (.slice A' (l.length * k) c') ∧ IsB w' w'.heap.size (.slice A' (l.length * k) c') (puts k l) ∧ Below w.heap.size w w' ∧ Lies w' w'.heap.size (some ⟨w.heap.size + 1, 0, none⟩) (l'.map uv) := by
  have h1 := (lies_new (w.alloc (.cells (l.map uv).toArray 22)) l').below (below_drew (Below.refl _ _))
  rw [World.size_alloc] at h1
  have h3 := ((lies_new w l).alloc (by simp) (.cells (l'.map uv).toArray 22)).below (below_drew (Below.refl _ _))
  refine (dput_lies k hk _ l hl _ (h3.more (by show _ ≤ ((w.alloc _).alloc _).heap.size; simp))).mono ?_
  rintro e w' ⟨A', c', rfl, i1, b1⟩
  have b1' := below_undrew13 b1
  exact ⟨A', c', rfl, i1, (((Below.refl _ w).alloc (Nat.le_refl _) _).alloc (by simp) _).trans (b1'.mono (by show _ ≤ ((w.alloc _).alloc _).heap.size; simp; omega)), ((h1.more (by show _ ≤ ((w.alloc _).alloc _).heap.size; simp)).below b1).more b1.size⟩
set_option maxRecDepth 100000 in
set_option maxHeartbeats 4000000 in
theorem bytesOf_any (p : Pt) (A : Option Addr) (c : Nat) (w : World) (hp : PtL w w.heap.size A c p) (hc : p.us.length ≤ c) (hm : c ≤ maxLen) (hu : p.us.length ≤ 65535) :
    Calls Tryz.prog 66 #[ptV p A c] w fun e w' => ∃ A' c', e = .returned (.slice A' (datB p).length c') ∧ w'.ownsRow w.heap.size 5 1 (.slice A' (datB p).length c') (datB p).length ((datB p).map bv) ∧ Below w.heap.size w w' := by
  have b0 : Below w.heap.size w (w.alloc (.cells (ptCells p A c) 34)) := (Below.refl _ w).alloc (Nat.le_refl _) _
  have x0 := Whole.new w 34 (ptCells p A c)
  have hs1 : w.heap.size < (w.alloc (.cells (ptCells p A c) 34)).heap.size := by simp
  have hL := Lib.hid hp.data
  clear hp
  obtain ⟨inter, tsn, st, sq, pr, bg, en, un, nw, us⟩ := p
  simp only [ptCells, ptV] at *
  obtain ⟨q0, q1, q2, q3, q4, q5, q6, q7, q8, q9⟩ := x0.cs10
  go_enter Tryz.func66, Tryz.ntmps66
  go_upto_region 1 with fail
  generalize w.alloc (.cells #[.bool inter, uv tsn, hv st, uv sq, uv pr, .bool bg, .bool en, .bool un, .bool nw, .slice A us.length c] 34) = w1 at *
  have KS : Hid (∀ W, Below (w.heap.size + 1) w1 W → W.cell? ⟨w.heap.size, 1, none⟩ = some (uv tsn) ∧ W.cell? ⟨w.heap.size, 2, none⟩ = some (hv st)) := fun W hW => by
    obtain ⟨a0, a1, a2, a3, a4, a5, a6, a7, a8, a9⟩ := (x0.below hW (by omega)).cs10
    exact ⟨a1, a2⟩
  have HU : Hid (Calls Tryz.prog 86 #[.int .i64 4, .slice (some ⟨w1.heap.size, 0, none⟩) 1 1] (w1.alloc (.cells #[uv tsn] 22)).drew fun e w' => ∃ A' c', e = .returned (.slice A' 4 c') ∧ IsB w' w'.heap.size (.slice A' 4 c') (puts 4 [tsn]) ∧ Below w1.heap.size w1 w') := Lib.hid (dput_drew 4 (.inr (.inr rfl)) [tsn] (by simp) w1)
  go_region_held3 (fun W => W.cell? ⟨w.heap.size, 1, none⟩ = some (uv tsn) ∧ W.cell? ⟨w.heap.size, 2, none⟩ = some (hv st))
    (first | (with_reducible exact KS.out _ (below_drew (Below.refl _ _))) | (with_reducible exact KS.out _ (below_drew ((Below.refl _ _).alloc (Nat.succ_le_of_lt hs1) _))) | (with_reducible exact KS.out _ R2) | fail)
    (first | (go_at_call 86; (with_reducible refine HU.out.mono ?_); rintro e w2 ⟨A2, c2, rfl, i2, b2⟩; have R2 : Below (w.heap.size + 1) w1 w2 := b2.mono (by omega)) | fail)
  have est : Value.int .u32 (IntKind.u32.wrap (st.toNat : Int)) = uv (u32of st.toNat) := by
    have := st.toNat_lt
    rw [uv, u32of_toNat (by omega), IntKind.wrap_u32]
    congr 1
    omega
  rw [est]
  have hP2 : IsB w2 w2.heap.size (.slice A us.length c) us := ⟨A, c, rfl, (hL.out.below (b0.trans (R2.mono (Nat.le_succ _)))).more (Nat.le_trans (Nat.le_of_lt hs1) b2.size), hc, hm⟩
  generalize h32 : u32of st.toNat = s32 at *
  have H32 := Lib.hid h32
  clear h32
  have KT : Hid (∀ W, Below (w.heap.size + 1) w2 W → W.cell? ⟨w.heap.size, 3, none⟩ = some (uv sq) ∧ W.cell? ⟨w.heap.size, 4, none⟩ = some (uv pr) ∧ W.cell? ⟨w.heap.size, 9, none⟩ = some (.slice A us.length c)) := fun W hW => by
    obtain ⟨a0, a1, a2, a3, a4, a5, a6, a7, a8, a9⟩ := (x0.below (R2.trans hW) (by omega)).cs10
    exact ⟨a3, a4, a9⟩
  obtain ⟨r0, -, -, r3, r4, -, -, -, -, r9⟩ := (x0.below R2 (by omega)).cs10
  have hs2 : w.heap.size < w2.heap.size := Nat.lt_of_lt_of_le hs1 b2.size
  have hB := b0.trans (R2.mono (Nat.le_succ _))
  clear q0 q1 q2 q3 q4 q5 q6 q7 q8 q9 est HU KS b0 x0 hL
  cases inter
  · go_upto_region 4 with fail
    have HPa : Hid (Calls Tryz.prog 86 #[.int .i64 2, .slice (some ⟨w2.heap.size, 0, none⟩) 2 2] (w2.alloc (.cells #[uv s32, uv sq] 22)).drew fun e w' => ∃ A' c', e = .returned (.slice A' 4 c') ∧ IsB w' w'.heap.size (.slice A' 4 c') (puts 2 [s32, sq]) ∧ Below w2.heap.size w2 w') := Lib.hid (dput_drew 2 (.inr (.inl rfl)) [s32, sq] (by simp) w2)
    have HPb : Hid (Calls Tryz.prog 86 #[.int .i64 2, .slice (some ⟨w2.heap.size + 1, 0, none⟩) 2 2] ((w2.alloc (.cells #[uv pr] 22)).alloc (.cells #[uv s32, uv sq] 22)).drew fun e w' => ∃ A' c', e = .returned (.slice A' 4 c') ∧ IsB w' w'.heap.size (.slice A' 4 c') (puts 2 [s32, sq]) ∧ Below w2.heap.size w2 w' ∧ Lies w' w'.heap.size (some ⟨w2.heap.size, 0, none⟩) [uv pr]) := Lib.hid (dput_b 2 (.inr (.inl rfl)) [s32, sq] [pr] (by simp) w2)
    have HPc : Hid (Calls Tryz.prog 86 #[.int .i64 2, .slice (some ⟨w2.heap.size, 0, none⟩) 2 2] ((w2.alloc (.cells #[uv s32, uv sq] 22)).alloc (.cells #[uv pr] 22)).drew fun e w' => ∃ A' c', e = .returned (.slice A' 4 c') ∧ IsB w' w'.heap.size (.slice A' 4 c') (puts 2 [s32, sq]) ∧ Below w2.heap.size w2 w' ∧ Lies w' w'.heap.size (some ⟨w2.heap.size + 1, 0, none⟩) [uv pr]) := Lib.hid (dput_c 2 (.inr (.inl rfl)) [s32, sq] [pr] (by simp) w2)
    have HQa : Hid (∀ W : World, Calls Tryz.prog 86 #[.int .i64 4, .slice (some ⟨W.heap.size, 0, none⟩) 1 1] (W.alloc (.cells #[uv pr] 22)) fun e w' => ∃ A' c', e = .returned (.slice A' 4 c') ∧ IsB w' w'.heap.size (.slice A' 4 c') (puts 4 [pr]) ∧ Below W.heap.size W w') := Lib.hid (fun W => dput_any 4 (.inr (.inr rfl)) [pr] (by simp) W)
    have HQb : Hid (∀ (W : World) (A : Option Addr), Lies W W.heap.size A [uv pr] → Calls Tryz.prog 86 #[.int .i64 4, .slice A 1 1] W fun e w' => ∃ A' c', e = .returned (.slice A' 4 c') ∧ IsB w' w'.heap.size (.slice A' 4 c') (puts 4 [pr]) ∧ Below W.heap.size W w') := Lib.hid (fun W A h => dput_lies 4 (.inr (.inr rfl)) A [pr] (by simp) W h)
    have HJ : Hid (∀ (W : World) v1 v2 v3 v4, IsB W W.heap.size v1 (puts 4 [tsn]) → IsB W W.heap.size v2 (puts 2 [s32, sq]) → IsB W W.heap.size v3 (puts 4 [pr]) → IsB W W.heap.size v4 us → Calls Tryz.prog 83 #[.slice (some ⟨W.heap.size, 0, none⟩) 4 4] (W.alloc (.cells #[v1, v2, v3, v4] 24)) fun e w' => ∃ A' c', e = .returned (.slice A' (12 + us.length) c') ∧ w'.ownsRow W.heap.size 5 1 (.slice A' (12 + us.length) c') (12 + us.length) ((puts 4 [tsn] ++ puts 2 [s32, sq] ++ puts 4 [pr] ++ us).map bv) ∧ Below W.heap.size W w') := Lib.hid (fun W v1 v2 v3 v4 h1 h2 h3 h4 => djoin_any v1 v2 v3 v4 _ _ _ _ W h1 h2 h3 h4 _ (by simp [puts_len]) (by omega))
    go_region_held3 (fun W => W.cell? ⟨w.heap.size, 3, none⟩ = some (uv sq) ∧ W.cell? ⟨w.heap.size, 4, none⟩ = some (uv pr) ∧ W.cell? ⟨w.heap.size, 9, none⟩ = some (.slice A us.length c))
      (first | (with_reducible exact KT.out _ (below_drew (Below.refl _ _))) | (with_reducible exact KT.out _ (below_drew ((Below.refl _ _).alloc (Nat.succ_le_of_lt hs2) _))) | (with_reducible exact KT.out _ (below_drew (((Below.refl _ _).alloc (Nat.succ_le_of_lt hs2) _).alloc (by (try simp only [World.size_alloc]); omega) _))) | (with_reducible exact KT.out _ R3) | (with_reducible exact KT.out _ (R3.alloc (Nat.succ_le_of_lt hs3) _)) | (with_reducible exact KT.out _ R4) | (with_reducible exact KT.out _ (R4.alloc (Nat.succ_le_of_lt hs4) _)) | (with_reducible exact KT.out _ R5) | fail)
      (first
      | (go_at_call 86; (with_reducible refine HPa.out.mono ?_); rintro e w3 ⟨A3, c3, rfl, i3, b3⟩; have R3 : Below (w.heap.size + 1) w2 w3 := b3.mono (Nat.succ_le_of_lt hs2); have hs3 : w.heap.size < w3.heap.size := Nat.lt_of_lt_of_le hs2 b3.size)
      | (go_at_call 86; (with_reducible refine HPb.out.mono ?_); rintro e w3 ⟨A3, c3, rfl, i3, b3, L3⟩; have R3 : Below (w.heap.size + 1) w2 w3 := b3.mono (Nat.succ_le_of_lt hs2); have hs3 : w.heap.size < w3.heap.size := Nat.lt_of_lt_of_le hs2 b3.size)
      | (go_at_call 86; (with_reducible refine HPc.out.mono ?_); rintro e w3 ⟨A3, c3, rfl, i3, b3, L3⟩; have R3 : Below (w.heap.size + 1) w2 w3 := b3.mono (Nat.succ_le_of_lt hs2); have hs3 : w.heap.size < w3.heap.size := Nat.lt_of_lt_of_le hs2 b3.size)
      | (go_at_call 86; (with_reducible refine (HQb.out _ _ L3).mono ?_); rintro e w4 ⟨A4, c4, rfl, i4, b4⟩; have R4 : Below (w.heap.size + 1) w2 w4 := R3.trans (b4.mono (Nat.succ_le_of_lt hs3)); have hs4 : w.heap.size < w4.heap.size := Nat.lt_of_lt_of_le hs3 b4.size; have b24 := b3.trans (b4.mono b3.size))
      | (go_at_call 86; (with_reducible refine (HQa.out w3).mono ?_); rintro e w4 ⟨A4, c4, rfl, i4, b4⟩; have R4 : Below (w.heap.size + 1) w2 w4 := R3.trans (b4.mono (Nat.succ_le_of_lt hs3)); have hs4 : w.heap.size < w4.heap.size := Nat.lt_of_lt_of_le hs3 b4.size; have b24 := b3.trans (b4.mono b3.size))
      | (go_at_call 83; (with_reducible refine (HJ.out w4 _ _ _ _ (i2.up13 b24) (i3.up13 b4) i4 (hP2.up13 b24)).mono ?_); rintro e w5 ⟨A5, c5, rfl, i5, b5⟩; have R5 : Below (w.heap.size + 1) w2 w5 := R4.trans (b5.mono (Nat.succ_le_of_lt hs4)))
      | fail)
    all_goals
      go_wp2_with fail
      go_ret
      have hd : datB ⟨false, tsn, st, sq, pr, bg, en, un, nw, us⟩ = puts 4 [tsn] ++ puts 2 [s32, sq] ++ puts 4 [pr] ++ us := by rw [← H32.out]; simp [datB]
      have hn : (puts 4 [tsn] ++ puts 2 [s32, sq] ++ puts 4 [pr] ++ us).length = 12 + us.length := by simp [puts_len]; omega
      rw [hd, hn]
      exact ⟨A5, c5, rfl, own_base i5 (Nat.le_of_lt hs4), hB.trans (R5.mono (Nat.le_succ _))⟩
  · go_upto_region 3 with fail
    have HPa : Hid (Calls Tryz.prog 86 #[.int .i64 2, .slice (some ⟨w2.heap.size, 0, none⟩) 2 2] (w2.alloc (.cells #[uv s32, .int .u32 0] 22)).drew fun e w' => ∃ A' c', e = .returned (.slice A' 4 c') ∧ IsB w' w'.heap.size (.slice A' 4 c') (puts 2 [s32, 0]) ∧ Below w2.heap.size w2 w') := Lib.hid (dput_drew 2 (.inr (.inl rfl)) [s32, 0] (by simp) w2)
    have HPb : Hid (Calls Tryz.prog 86 #[.int .i64 2, .slice (some ⟨w2.heap.size + 1, 0, none⟩) 2 2] ((w2.alloc (.cells #[uv sq, uv pr] 22)).alloc (.cells #[uv s32, .int .u32 0] 22)).drew fun e w' => ∃ A' c', e = .returned (.slice A' 4 c') ∧ IsB w' w'.heap.size (.slice A' 4 c') (puts 2 [s32, 0]) ∧ Below w2.heap.size w2 w' ∧ Lies w' w'.heap.size (some ⟨w2.heap.size, 0, none⟩) [uv sq, uv pr]) := Lib.hid (dput_b 2 (.inr (.inl rfl)) [s32, 0] [sq, pr] (by simp) w2)
    have HPc : Hid (Calls Tryz.prog 86 #[.int .i64 2, .slice (some ⟨w2.heap.size, 0, none⟩) 2 2] ((w2.alloc (.cells #[uv s32, .int .u32 0] 22)).alloc (.cells #[uv sq, uv pr] 22)).drew fun e w' => ∃ A' c', e = .returned (.slice A' 4 c') ∧ IsB w' w'.heap.size (.slice A' 4 c') (puts 2 [s32, 0]) ∧ Below w2.heap.size w2 w' ∧ Lies w' w'.heap.size (some ⟨w2.heap.size + 1, 0, none⟩) [uv sq, uv pr]) := Lib.hid (dput_c 2 (.inr (.inl rfl)) [s32, 0] [sq, pr] (by simp) w2)
    have HQa : Hid (∀ W : World, Calls Tryz.prog 86 #[.int .i64 4, .slice (some ⟨W.heap.size, 0, none⟩) 2 2] (W.alloc (.cells #[uv sq, uv pr] 22)) fun e w' => ∃ A' c', e = .returned (.slice A' 8 c') ∧ IsB w' w'.heap.size (.slice A' 8 c') (puts 4 [sq, pr]) ∧ Below W.heap.size W w') := Lib.hid (fun W => dput_any 4 (.inr (.inr rfl)) [sq, pr] (by simp) W)
    have HQb : Hid (∀ (W : World) (A : Option Addr), Lies W W.heap.size A [uv sq, uv pr] → Calls Tryz.prog 86 #[.int .i64 4, .slice A 2 2] W fun e w' => ∃ A' c', e = .returned (.slice A' 8 c') ∧ IsB w' w'.heap.size (.slice A' 8 c') (puts 4 [sq, pr]) ∧ Below W.heap.size W w') := Lib.hid (fun W A h => dput_lies 4 (.inr (.inr rfl)) A [sq, pr] (by simp) W h)
    have HJ : Hid (∀ (W : World) v1 v2 v3 v4, IsB W W.heap.size v1 (puts 4 [tsn]) → IsB W W.heap.size v2 (puts 2 [s32, 0]) → IsB W W.heap.size v3 (puts 4 [sq, pr]) → IsB W W.heap.size v4 us → Calls Tryz.prog 83 #[.slice (some ⟨W.heap.size, 0, none⟩) 4 4] (W.alloc (.cells #[v1, v2, v3, v4] 24)) fun e w' => ∃ A' c', e = .returned (.slice A' (16 + us.length) c') ∧ w'.ownsRow W.heap.size 5 1 (.slice A' (16 + us.length) c') (16 + us.length) ((puts 4 [tsn] ++ puts 2 [s32, 0] ++ puts 4 [sq, pr] ++ us).map bv) ∧ Below W.heap.size W w') := Lib.hid (fun W v1 v2 v3 v4 h1 h2 h3 h4 => djoin_any v1 v2 v3 v4 _ _ _ _ W h1 h2 h3 h4 _ (by simp [puts_len]) (by omega))
    go_region_held3 (fun W => W.cell? ⟨w.heap.size, 3, none⟩ = some (uv sq) ∧ W.cell? ⟨w.heap.size, 4, none⟩ = some (uv pr) ∧ W.cell? ⟨w.heap.size, 9, none⟩ = some (.slice A us.length c))
      (first | (with_reducible exact KT.out _ (below_drew (Below.refl _ _))) | (with_reducible exact KT.out _ (below_drew ((Below.refl _ _).alloc (Nat.succ_le_of_lt hs2) _))) | (with_reducible exact KT.out _ (below_drew (((Below.refl _ _).alloc (Nat.succ_le_of_lt hs2) _).alloc (by (try simp only [World.size_alloc]); omega) _))) | (with_reducible exact KT.out _ R3) | (with_reducible exact KT.out _ (R3.alloc (Nat.succ_le_of_lt hs3) _)) | (with_reducible exact KT.out _ R4) | (with_reducible exact KT.out _ (R4.alloc (Nat.succ_le_of_lt hs4) _)) | (with_reducible exact KT.out _ R5) | fail)
      (first
      | (go_at_call 86; (with_reducible refine HPa.out.mono ?_); rintro e w3 ⟨A3, c3, rfl, i3, b3⟩; have R3 : Below (w.heap.size + 1) w2 w3 := b3.mono (Nat.succ_le_of_lt hs2); have hs3 : w.heap.size < w3.heap.size := Nat.lt_of_lt_of_le hs2 b3.size)
      | (go_at_call 86; (with_reducible refine HPb.out.mono ?_); rintro e w3 ⟨A3, c3, rfl, i3, b3, L3⟩; have R3 : Below (w.heap.size + 1) w2 w3 := b3.mono (Nat.succ_le_of_lt hs2); have hs3 : w.heap.size < w3.heap.size := Nat.lt_of_lt_of_le hs2 b3.size)
      | (go_at_call 86; (with_reducible refine HPc.out.mono ?_); rintro e w3 ⟨A3, c3, rfl, i3, b3, L3⟩; have R3 : Below (w.heap.size + 1) w2 w3 := b3.mono (Nat.succ_le_of_lt hs2); have hs3 : w.heap.size < w3.heap.size := Nat.lt_of_lt_of_le hs2 b3.size)
      | (go_at_call 86; (with_reducible refine (HQb.out _ _ L3).mono ?_); rintro e w4 ⟨A4, c4, rfl, i4, b4⟩; have R4 : Below (w.heap.size + 1) w2 w4 := R3.trans (b4.mono (Nat.succ_le_of_lt hs3)); have hs4 : w.heap.size < w4.heap.size := Nat.lt_of_lt_of_le hs3 b4.size; have b24 := b3.trans (b4.mono b3.size))
      | (go_at_call 86; (with_reducible refine (HQa.out w3).mono ?_); rintro e w4 ⟨A4, c4, rfl, i4, b4⟩; have R4 : Below (w.heap.size + 1) w2 w4 := R3.trans (b4.mono (Nat.succ_le_of_lt hs3)); have hs4 : w.heap.size < w4.heap.size := Nat.lt_of_lt_of_le hs3 b4.size; have b24 := b3.trans (b4.mono b3.size))
      | (go_at_call 83; (with_reducible refine (HJ.out w4 _ _ _ _ (i2.up13 b24) (i3.up13 b4) i4 (hP2.up13 b24)).mono ?_); rintro e w5 ⟨A5, c5, rfl, i5, b5⟩; have R5 : Below (w.heap.size + 1) w2 w5 := R4.trans (b5.mono (Nat.succ_le_of_lt hs4)))
      | fail)
    all_goals
      go_wp2_with fail
      go_ret
      have hd : datB ⟨true, tsn, st, sq, pr, bg, en, un, nw, us⟩ = puts 4 [tsn] ++ puts 2 [s32, 0] ++ puts 4 [sq, pr] ++ us := by rw [← H32.out]; simp [datB]
      have hn : (puts 4 [tsn] ++ puts 2 [s32, 0] ++ puts 4 [sq, pr] ++ us).length = 16 + us.length := by simp [puts_len]; omega
      rw [hd, hn]
      exact ⟨A5, c5, rfl, own_base i5 (Nat.le_of_lt hs4), hB.trans (R5.mono (Nat.le_succ _))⟩
end Go.Proofs.YtdcppcoldaaldaaGreatDoor





namespace Go.Proofs.YtdcppcoldaaldaaGreatDoor
open Go.RowKit

/-- the chunk of a description -/
def ckD (p : Pt) : Ck := ⟨tyB p, flP p, datB p, []⟩
def nrd (d : List UInt8) (at_ k : Nat) : UInt32 := UInt32.ofNat (numOf ((d.drop at_).take k))
theorem nrd_toNat (d : List UInt8) (at_ k : Nat) : (nrd d at_ k).toNat = numOf ((d.drop at_).take k) := u32_ofNat (numOf_lt _)
/-- the description of a chunk -/
def ptOf (x : Ck) : Pt :=
  ⟨decide (x.t = 64), nrd x.d 0 4, UInt16.ofNat (nrd x.d 4 2).toNat, if x.t = 64 then nrd x.d 8 4 else nrd x.d 6 2, nrd x.d (if x.t = 64 then 12 else 8) 4,
    decide (x.fl.toNat / 2 % 2 = 1), decide (x.fl.toNat % 2 = 1), decide (x.fl.toNat / 4 % 2 = 1), decide (x.fl.toNat / 8 % 2 = 1), x.d.drop (if x.t = 64 then 16 else 12)⟩
def isD (x : Ck) : Bool := (decide (x.t = 0) || decide (x.t = 64)) && decide (chkC x = 0)
def pt0 : Pt := ⟨false, 0, 0, 0, 0, false, false, false, false, []⟩
/-- what Of gives -/
def ofP (x : Ck) : Pt := if isD x then ptOf x else pt0
theorem kd0 : (kdOf 0).ms = 15 ∧ (kdOf 0).lo = 13 ∧ (kdOf 0).hi = 65531 ∧ (kdOf 0).un = 1 ∧ (kdOf 0).ki = 0 ∧ kn 0 = true := by decide +kernel
theorem kd64 : (kdOf 64).ms = 15 ∧ (kdOf 64).lo = 17 ∧ (kdOf 64).hi = 65531 ∧ (kdOf 64).un = 1 ∧ (kdOf 64).ki = 0 ∧ kn 64 = true := by decide +kernel
theorem fl_back : ∀ bg en un nw : Bool, (flP ⟨false, 0, 0, 0, 0, bg, en, un, nw, []⟩).toNat / 2 % 2 = (if bg then 1 else 0) ∧ (flP ⟨false, 0, 0, 0, 0, bg, en, un, nw, []⟩).toNat % 2 = (if en then 1 else 0) ∧
    (flP ⟨false, 0, 0, 0, 0, bg, en, un, nw, []⟩).toNat / 4 % 2 = (if un then 1 else 0) ∧ (flP ⟨false, 0, 0, 0, 0, bg, en, un, nw, []⟩).toNat / 8 % 2 = (if nw then 1 else 0) ∧ mskB (flP ⟨false, 0, 0, 0, 0, bg, en, un, nw, []⟩).toNat 15 = false := by decide +kernel
theorem flP_bits (p : Pt) : flP p = flP ⟨false, 0, 0, 0, 0, p.bg, p.en, p.un, p.nw, []⟩ := rfl
theorem tyB_or (p : Pt) : tyB p = 0 ∨ tyB p = 64 := by unfold tyB; cases p.inter <;> simp
theorem des_parts {p : Pt} (h : desB p = true) : 1 ≤ p.us.length ∧ p.us.length ≤ 65535 - frontD p.inter ∧ (p.inter = true ∨ p.sq.toNat ≤ 65535) := by
  unfold desB at h
  simp only [Bool.and_eq_true, Bool.or_eq_true, decide_eq_true_eq] at h
  exact h
theorem ckD_right {p : Pt} (h : desB p = true) : chkC (ckD p) = 0 := by
  obtain ⟨h1, h2, h3⟩ := des_parts h
  have hl := datB_len p
  obtain ⟨m1, l1, u1, n1, k1, e1⟩ := kd0
  obtain ⟨m2, l2, u2, n2, k2, e2⟩ := kd64
  have hms : (kdOf (ckD p).t).ms = 15 ∧ (kdOf (ckD p).t).ki = 0 ∧ kn (ckD p).t = true := by
    show (kdOf (tyB p)).ms = 15 ∧ (kdOf (tyB p)).ki = 0 ∧ kn (tyB p) = true
    rcases tyB_or p with e | e <;> rw [e]
    · exact ⟨m1, k1, e1⟩
    · exact ⟨m2, k2, e2⟩
  have f1 : flB (ckD p) = false := by
    unfold flB
    rw [hms.1]
    have := (fl_back p.bg p.en p.un p.nw).2.2.2.2
    show (kn _ && mskB (flP p).toNat 15) = false
    rw [flP_bits, this, Bool.and_false]
  have f2 : daB (ckD p) = false := by
    unfold daB
    rw [hms.2.2, Bool.true_and]
    have hk : kfitsB (kdOf (ckD p).t) ((ckD p).d.length : Int) = true := by
      unfold kfitsB
      show (decide ((kdOf (tyB p)).lo ≤ ((datB p).length : Int)) && decide (((datB p).length : Int) ≤ (kdOf (tyB p)).hi) && ((((datB p).length : Int) - (kdOf (tyB p)).lo) % (kdOf (tyB p)).un == 0)) = true
      rw [hl]
      unfold frontD at h2
      cases hi : p.inter with
      | true =>
        have e : tyB p = 64 := by unfold tyB; rw [hi]; rfl
        rw [e, l2, u2, n2]
        rw [hi] at h2
        simp at h2 ⊢
        omega
      | false =>
        have e : tyB p = 0 := by unfold tyB; rw [hi]; rfl
        rw [e, l1, u1, n1]
        rw [hi] at h2
        simp at h2 ⊢
        omega
    rw [hk]
    rfl
  have f3 : kidB (ckD p) = false := by
    unfold kidB
    rw [hms.2.1]
    show kidP 0 [] = false
    decide
  have f4 : cntC (ckD p) = false := by
    unfold cntC
    have e : ¬ (ckD p).t = 3 := by
      show ¬ tyB p = 3
      rcases tyB_or p with e | e <;> (rw [e]; decide)
    rw [decide_eq_false e]
    rfl
  have f5 : cvalO (ckD p) = none := by
    unfold cvalO
    show (if tyB p = 64 then (if num2 (datB p) 6 ≠ 0 then some 10 else none) else if tyB p = 194 then _ else none) = none
    cases hi : p.inter with
    | true =>
      have e : tyB p = 64 := by unfold tyB; rw [hi]; rfl
      have e2 : num2 (datB p) 6 = 0 := by
        unfold datB
        rw [hi]
        show 256 * (beByte 8 0).toNat + (beByte 0 0).toNat = 0
        decide
      rw [if_pos e, e2]
      rfl
    | false =>
      have e : tyB p = 0 := by unfold tyB; rw [hi]; rfl
      rw [e, if_neg (by decide), if_neg (by decide)]
  have f6 : csz (ckD p) ≤ 65535 := by
    unfold csz
    show 4 + (datB p).length + sizes (lens []) ≤ 65535
    rw [hl]
    unfold frontD at h2
    have : sizes (lens []) = 0 := rfl
    cases hi : p.inter <;> (rw [hi] at h2; simp at h2 ⊢; omega)
  unfold chkC
  rw [f1, f2, f3, f4, f5]
  have : chkL (kc (ckD p).t) (ckD p).ks = 0 := rfl
  simp only [Bool.false_eq_true, if_false]
  rw [this, if_neg (by simp), if_neg (by omega)]
theorem nrd_be4 (x : UInt32) : UInt32.ofNat (numOf (be 4 x)) = x := by
  refine UInt32.toNat_inj.1 ?_
  rw [u32_ofNat (numOf_lt _), numOf_be (.inr (.inr rfl))]
  exact Nat.mod_eq_of_lt x.toNat_lt
theorem nrd_be2 (x : UInt32) (h : x.toNat ≤ 65535) : UInt32.ofNat (numOf (be 2 x)) = x := by
  refine UInt32.toNat_inj.1 ?_
  rw [u32_ofNat (numOf_lt _), numOf_be (.inr (.inl rfl))]
  exact Nat.mod_eq_of_lt (by omega)
theorem st_back (st : UInt16) : UInt16.ofNat (UInt32.ofNat (numOf (be 2 (u32of st.toNat)))).toNat = st := by
  have hl := st.toNat_lt
  rw [nrd_be2 _ (by rw [u32of_toNat (by omega)]; omega), u32of_toNat (by omega)]
  exact UInt16.toNat_inj.1 (by rw [UInt16.toNat_ofNat']; omega)
/-- the description of the chunk of a description is that description -/
theorem ptOf_ckD {p : Pt} (h : desB p = true) : ptOf (ckD p) = p := by
  obtain ⟨h1, h2, h3⟩ := des_parts h
  obtain ⟨b1, b2, b3, b4, _⟩ := fl_back p.bg p.en p.un p.nw
  rw [← flP_bits] at b1 b2 b3 b4
  have hfl : (ckD p).fl = flP p := rfl
  unfold ptOf
  rw [hfl, b1, b2, b3, b4]
  clear b1 b2 b3 b4 hfl h
  obtain ⟨inter, tsn, st, sq, pr, bg, en, un, nw, us⟩ := p
  have hb : ∀ b : Bool, decide ((if b = true then 1 else 0) = 1) = b := by decide
  simp only [hb]
  cases inter with
  | true =>
    have e : (ckD ⟨true, tsn, st, sq, pr, bg, en, un, nw, us⟩).t = 64 := rfl
    rw [e, if_pos rfl, if_pos rfl, if_pos rfl]
    have e0 : nrd (ckD ⟨true, tsn, st, sq, pr, bg, en, un, nw, us⟩).d 0 4 = tsn := nrd_be4 tsn
    have e1 : UInt16.ofNat (nrd (ckD ⟨true, tsn, st, sq, pr, bg, en, un, nw, us⟩).d 4 2).toNat = st := st_back st
    have e2 : nrd (ckD ⟨true, tsn, st, sq, pr, bg, en, un, nw, us⟩).d 8 4 = sq := nrd_be4 sq
    have e3 : nrd (ckD ⟨true, tsn, st, sq, pr, bg, en, un, nw, us⟩).d 12 4 = pr := nrd_be4 pr
    have e4 : (ckD ⟨true, tsn, st, sq, pr, bg, en, un, nw, us⟩).d.drop 16 = us := rfl
    rw [e0, e1, e2, e3, e4]
    rfl
  | false =>
    have e : (ckD ⟨false, tsn, st, sq, pr, bg, en, un, nw, us⟩).t = 0 := rfl
    have hsq : sq.toNat ≤ 65535 := by simpa using h3
    rw [e, if_neg (by decide), if_neg (by decide), if_neg (by decide)]
    have e0 : nrd (ckD ⟨false, tsn, st, sq, pr, bg, en, un, nw, us⟩).d 0 4 = tsn := nrd_be4 tsn
    have e1 : UInt16.ofNat (nrd (ckD ⟨false, tsn, st, sq, pr, bg, en, un, nw, us⟩).d 4 2).toNat = st := st_back st
    have e2 : nrd (ckD ⟨false, tsn, st, sq, pr, bg, en, un, nw, us⟩).d 6 2 = sq := nrd_be2 sq hsq
    have e3 : nrd (ckD ⟨false, tsn, st, sq, pr, bg, en, un, nw, us⟩).d 8 4 = pr := nrd_be4 pr
    have e4 : (ckD ⟨false, tsn, st, sq, pr, bg, en, un, nw, us⟩).d.drop 12 = us := rfl
    rw [e0, e1, e2, e3, e4]
    rfl
theorem ckD_is {p : Pt} (h : desB p = true) : isD (ckD p) = true := by
  unfold isD
  rw [ckD_right h]
  rcases tyB_or p with e | e
  · rw [show (ckD p).t = 0 from e]; rfl
  · rw [show (ckD p).t = 64 from e]; rfl
theorem isD_parts {x : Ck} (h : isD x = true) : (x.t = 0 ∨ x.t = 64) ∧ chkC x = 0 := by
  unfold isD at h
  simp only [Bool.and_eq_true, Bool.or_eq_true, decide_eq_true_eq] at h
  exact h
theorem isD_ks {x : Ck} (h : isD x = true) : x.ks = [] := by
  obtain ⟨h1, h2⟩ := isD_parts h
  obtain ⟨_, _, h3, _⟩ := chk_parts h2
  unfold kidB kidP at h3
  simp only [Bool.or_eq_false_iff, decide_eq_false_iff_not] at h3
  obtain ⟨_, h4, _⟩ := h3
  have hki : (kdOf x.t).ki = 0 := by
    rcases h1 with e | e <;> rw [e]
    · exact kd0.2.2.2.2.1
    · exact kd64.2.2.2.2.1
  rw [hki] at h4
  refine List.eq_nil_of_length_eq_zero ?_
  have : (kins 0).2.2 = 0 := by decide
  rw [this] at h4
  omega
/-- how many bytes a right data chunk has -/
theorem isD_len {x : Ck} (h : isD x = true) : (if x.t = 64 then 17 else 13) ≤ x.d.length ∧ x.d.length ≤ 65531 := by
  obtain ⟨h1, h2⟩ := isD_parts h
  obtain ⟨_, h3, _⟩ := chk_parts h2
  rcases h1 with e | e
  · obtain ⟨q1, q2, _⟩ := kfits_of (da_fits h3 (by rw [e]; exact kd0.2.2.2.2.2))
    rw [e] at q1 q2
    rw [kd0.2.1] at q1
    rw [kd0.2.2.1] at q2
    rw [e, if_neg (by decide)]
    omega
  · obtain ⟨q1, q2, _⟩ := kfits_of (da_fits h3 (by rw [e]; exact kd64.2.2.2.2.2))
    rw [e] at q1 q2
    rw [kd64.2.1] at q1
    rw [kd64.2.2.1] at q2
    rw [e, if_pos rfl]
    omega
end Go.Proofs.YtdcppcoldaaldaaGreatDoor










namespace Go.Proofs.YtdcppcoldaaldaaGreatDoor
open Go.RowKit

set_option linter.unusedSimpArgs false
abbrev zck13 : Value := .agg #[.int .u8 0, .int .u8 0, .slice none 0 0, .slice none 0 0]
theorem own_set13 {W : World} {base e n g i : Nat} {v u : Value} {xs : List Value} {t : TypeId} {cs : Array Value} (h : W.ownsRow base e 1 v n xs) (hz : Whole W g t cs) (hte : t ≠ e) : (W.setCell ⟨g, i, none⟩ u).ownsRow base e 1 v n xs :=
  h.kept (grownBy_setCell1 W g i u) (.inr (whole_row_ne hz hte h))
/-- what Make hands back -/
def MkR (p : Pt) (w : World) (e : Ending) (w' : World) : Prop := Below w.heap.size w w' ∧ ((desB p = true ∧ ∃ A' c', e = .returned (.tuple #[.agg #[bv (tyB p), bv (flP p), .slice A' (datB p).length c', .slice none 0 0], .bool true]) ∧ w'.ownsRow w.heap.size 5 1 (.slice A' (datB p).length c') (datB p).length ((datB p).map bv)) ∨
  (desB p = false ∧ e = .returned (.tuple #[zck13, .bool false])))
set_option maxRecDepth 100000 in
set_option maxHeartbeats 4000000 in
theorem dmake_any (p : Pt) (A : Option Addr) (c : Nat) (w : World) (hp : PtL w w.heap.size A c p) : Calls Tryz.prog 17 #[ptV p A c] w (MkR p w) := by
  have b0 : Below w.heap.size w (w.alloc (.cells (ptCells p A c) 34)) := (Below.refl _ w).alloc (Nat.le_refl _) _
  have x0 := (Whole.new w 34 (ptCells p A c)).alloc (.cells #[.int .u8 0, .int .u8 0, .slice none 0 0, .slice none 0 0] 31)
  have b1 := b0.alloc b0.size (.cells #[.int .u8 0, .int .u8 0, .slice none 0 0, .slice none 0 0] 31)
  have y0 := Whole.new (w.alloc (.cells (ptCells p A c) 34)) 31 #[.int .u8 0, .int .u8 0, .slice none 0 0, .slice none 0 0]
  rw [World.size_alloc] at y0
  have hp1 := hp.on b1
  have HD := isDes_any p A c ((w.alloc (.cells (ptCells p A c) 34)).alloc (.cells #[.int .u8 0, .int .u8 0, .slice none 0 0, .slice none 0 0] 31))
  have hs0 : w.heap.size + 1 < ((w.alloc (.cells (ptCells p A c) 34)).alloc (.cells #[.int .u8 0, .int .u8 0, .slice none 0 0, .slice none 0 0] 31)).heap.size := by simp
  have HB0 := Lib.hid b1
  unfold MkR
  generalize hW1 : (w.alloc (.cells (ptCells p A c) 34)).alloc (.cells #[.int .u8 0, .int .u8 0, .slice none 0 0, .slice none 0 0] 31) = wa at *
  have HT := Lib.hid (typeOf_any p A c)
  have HF := Lib.hid (flagsOf_any p A c)
  have HBy0 := Lib.hid (fun (W : World) (hW : Below wa.heap.size wa W) (hd : desB p = true) => bytesOf_any p A c W (hp1.on hW) hp1.dc hp1.dm (by have := (des_parts hd).2.1; omega))
  clear hp hp1 b1 b0
  have HW := Lib.hid hW1
  clear hW1
  cases hd : desB p with
  | false =>
    rw [hd] at HD
    clear HBy0 HT HF hd
    generalize tyB p = ty at *
    generalize flP p = fl at *
    generalize datB p = bs at *
    obtain ⟨inter, tsn, st, sq, pr, bg, en, un, nw, us⟩ := p
    simp only [ptCells, ptV] at *
    obtain ⟨q0, q1, q2, q3, q4, q5, q6, q7, q8, q9⟩ := x0.cs10
    go_enter Tryz.func17, Tryz.ntmps17
    go_upto_region 1 with fail
    rw [HW.out]
    go_wp2_with fail
    refine HD.mono ?_
    rintro e w2 ⟨rfl, b2⟩
    have y2 := y0.below b2 y0.lt
    clear q0 q1 q2 q3 q4 q5 q6 q7 q8 q9 x0 y0 HD
    go_wp2_with (first | (refine wpList_store_row rfl 31 _ _ rfl (w.heap.size + 1) #[.int .u8 0, .int .u8 0, .slice none 0 0, .slice none 0 0] rfl rfl _ _ y2 (by kernel_rfl) rfl (by simp [Value.oneCell']) ?_) | fail)
    (try simp only [Exit.inBlock, Exit.then])
    refine bodyPost_ret (results_row_tmp rfl _ _ (w.heap.size + 1) 31 _ _ rfl (y2.setRow _) Tryz.underlying31 rfl (by kernel_rfl)) rfl ?_
    exact ⟨below_setRow (HB0.out.trans (b2.mono (Nat.le_of_lt (Nat.lt_of_succ_lt hs0)))) (Nat.le_succ _) _, .inr ⟨trivial, rfl⟩⟩
  | true =>
    rw [hd] at HD
    have HBy1 := Lib.hid (fun (W : World) (hW : Below wa.heap.size wa W) => HBy0.out W hW hd)
    clear HBy0 hd
    generalize tyB p = ty at *
    generalize flP p = fl at *
    generalize datB p = bs at *
    obtain ⟨inter, tsn, st, sq, pr, bg, en, un, nw, us⟩ := p
    simp only [ptCells, ptV] at *
    obtain ⟨q0, q1, q2, q3, q4, q5, q6, q7, q8, q9⟩ := x0.cs10
    go_enter Tryz.func17, Tryz.ntmps17
    go_upto_region 1 with fail
    rw [HW.out]
    go_wp2_with fail
    refine HD.mono ?_
    rintro e w1 ⟨rfl, b2⟩
    have x1 := x0.below b2 x0.lt
    have y1 := y0.below b2 y0.lt
    have hs1 : w.heap.size + 1 < w1.heap.size := Nat.lt_of_lt_of_le hs0 b2.size
    have HB1 := Lib.hid (HB0.out.trans (b2.mono (Nat.le_of_lt (Nat.lt_of_succ_lt hs0))))
    have HBy := Lib.hid (fun (W : World) (hW : Below w1.heap.size w1 W) => HBy1.out W (b2.trans (hW.mono b2.size)))
    clear q0 q1 q2 q3 q4 q5 q6 q7 q8 q9 x0 y0 HD HBy1 HB0 b2 HW
    have KS : Hid (∀ W, Below (w.heap.size + 1) w1 W → W.cell? ⟨w.heap.size, 0, none⟩ = some (.bool inter) ∧ W.cell? ⟨w.heap.size, 1, none⟩ = some (uv tsn) ∧ W.cell? ⟨w.heap.size, 2, none⟩ = some (hv st) ∧ W.cell? ⟨w.heap.size, 3, none⟩ = some (uv sq) ∧ W.cell? ⟨w.heap.size, 4, none⟩ = some (uv pr) ∧ W.cell? ⟨w.heap.size, 5, none⟩ = some (.bool bg) ∧ W.cell? ⟨w.heap.size, 6, none⟩ = some (.bool en) ∧ W.cell? ⟨w.heap.size, 7, none⟩ = some (.bool un) ∧ W.cell? ⟨w.heap.size, 8, none⟩ = some (.bool nw) ∧ W.cell? ⟨w.heap.size, 9, none⟩ = some (.slice A us.length c)) := fun W hW => (x1.below hW (Nat.lt_succ_self _)).cs10
    go_upto_region 3 with fail
    refine wp_region_held_drew (S := (fun W => W.cell? ⟨w.heap.size, 0, none⟩ = some (.bool inter) ∧ W.cell? ⟨w.heap.size, 1, none⟩ = some (uv tsn) ∧ W.cell? ⟨w.heap.size, 2, none⟩ = some (hv st) ∧ W.cell? ⟨w.heap.size, 3, none⟩ = some (uv sq) ∧ W.cell? ⟨w.heap.size, 4, none⟩ = some (uv pr) ∧ W.cell? ⟨w.heap.size, 5, none⟩ = some (.bool bg) ∧ W.cell? ⟨w.heap.size, 6, none⟩ = some (.bool en) ∧ W.cell? ⟨w.heap.size, 7, none⟩ = some (.bool un) ∧ W.cell? ⟨w.heap.size, 8, none⟩ = some (.bool nw) ∧ W.cell? ⟨w.heap.size, 9, none⟩ = some (.slice A us.length c))) (by kernel_rfl) (KS.out _ (below_drew (Below.refl _ _))) (fun hHeld => ?_)
    refine take_at (i := 0) (v := ?_) (some 8) rfl (by kernel_rfl) (by kernel_rfl) (by kernel_rfl) (fun _ _ _ h => h) (by kernel_rfl) (Or.inl ⟨by kernel_rfl, ?_⟩) (by assumption) ?_
    rotate_left
    · (intro w hSw; (try dsimp only at hSw); go_simp <;> with_reducible rfl)
    simp only [Act.put, List.setIfInBounds_toArray, List.set_cons_zero, List.set_cons_succ]
    refine take_at (i := 2) (v := ?_) (some 10) rfl (by kernel_rfl) (by kernel_rfl) (by kernel_rfl) (fun _ _ _ h => h) (by kernel_rfl) (Or.inl ⟨by kernel_rfl, ?_⟩) (by assumption) ?_
    rotate_left
    · (intro w hSw; (try dsimp only at hSw); go_simp <;> with_reducible rfl)
    simp only [Act.put, List.setIfInBounds_toArray, List.set_cons_zero, List.set_cons_succ]
    refine take_at (i := 4) (v := ?_) (some 12) rfl (by kernel_rfl) (by kernel_rfl) (by kernel_rfl) (fun _ _ _ h => h) (by kernel_rfl) (Or.inl ⟨by kernel_rfl, ?_⟩) (by assumption) ?_
    rotate_left
    · (intro w hSw; (try dsimp only at hSw); go_simp <;> with_reducible rfl)
    simp only [Act.put, List.setIfInBounds_toArray, List.set_cons_zero, List.set_cons_succ]
    refine wpAnyH_ready (rs := [1]) (by kernel_rfl) (by simp) ?_
    refine AllReadyH.cons rfl (fun K hK => ?_) AllReadyH.nil
    go_simp
    go_at_call 64; (with_reducible refine (HT.out _).mono ?_); rintro e w2 ⟨rfl, b2⟩; have R2 : Below (w.heap.size + 1) w1 w2 := (below_undrew13 b2).mono (Nat.le_of_lt hs1)
    go_wp2_with fail
    clear hHeld
    refine hK.out _ _ (KS.out _ R2) (fun hHeld => ?_)
    clear hK K
    try simp only [Act.put, List.setIfInBounds_toArray, List.set_cons_zero, List.set_cons_succ]
    refine wpAnyH_ready (rs := [3]) (by kernel_rfl) (by simp) ?_
    refine AllReadyH.cons rfl (fun K hK => ?_) AllReadyH.nil
    go_simp
    go_at_call 65; (with_reducible refine (HF.out _).mono ?_); rintro e w3 ⟨rfl, b3⟩; have b23 : Below w1.heap.size w1 w3 := (below_undrew13 b2).trans (b3.mono b2.size); have R3 : Below (w.heap.size + 1) w1 w3 := b23.mono (Nat.le_of_lt hs1)
    go_wp2_with fail
    clear hHeld
    refine hK.out _ _ (KS.out _ R3) (fun hHeld => ?_)
    clear hK K
    try simp only [Act.put, List.setIfInBounds_toArray, List.set_cons_zero, List.set_cons_succ]
    refine wpAnyH_ready (rs := [5]) (by kernel_rfl) (by simp) ?_
    refine AllReadyH.cons rfl (fun K hK => ?_) AllReadyH.nil
    go_simp
    go_at_call 66; (with_reducible refine (HBy.out _ b23).mono ?_); rintro e w4 ⟨A4, c4, rfl, own4, b4⟩; have b24 : Below w1.heap.size w1 w4 := b23.trans (b4.mono b23.size); have R4 : Below (w.heap.size + 1) w1 w4 := b24.mono (Nat.le_of_lt hs1); have y4 := y1.below b24 y1.lt; have z0 := y4.frozen 0; have z1 := y4.frozen 1; have z2 := y4.frozen 2; have z3 := y4.frozen 3; have k0 := y4.cell 0; have k1 := y4.cell 1; have k2 := y4.cell 2; have k3 := y4.cell 3
    go_wp2_with fail
    clear hHeld
    refine hK.out _ _ (KS.out _ R4) (fun hHeld => ?_)
    clear hK K
    try simp only [Act.put, List.setIfInBounds_toArray, List.set_cons_zero, List.set_cons_succ]
    refine take_at (i := 6) (v := ?_) (some 14) rfl (by kernel_rfl) (by kernel_rfl) (by kernel_rfl) (fun _ _ _ h => h) (by kernel_rfl) (Or.inl ⟨by kernel_rfl, ?_⟩) (by assumption) ?_
    rotate_left
    · (intro w hSw; (try dsimp only at hSw); go_simp <;> with_reducible rfl)
    simp only [Act.put, List.setIfInBounds_toArray, List.set_cons_zero, List.set_cons_succ]
    refine wpAnyH_ready (rs := [7]) (by kernel_rfl) (by simp) ?_
    refine AllReadyH.cons rfl (fun K hK => ?_) AllReadyH.nil
    go_simp
    clear hHeld
    refine hK.out _ _ (KS.out _ ((((R4.setCell (Nat.le_refl _) _).setCell (Nat.le_refl _) _).setCell (Nat.le_refl _) _).setCell (Nat.le_refl _) _)) (fun hHeld => ?_)
    clear hK K
    try simp only [Act.put, List.setIfInBounds_toArray, List.set_cons_zero, List.set_cons_succ]
    refine take_at (i := 8) (v := ?_) (some 3) rfl (by kernel_rfl) (by kernel_rfl) (by kernel_rfl) (fun _ _ _ h => h) (by kernel_rfl) (Or.inl ⟨by kernel_rfl, ?_⟩) (by assumption) ?_
    rotate_left
    · (intro w hSw; (try dsimp only at hSw); go_simp <;> with_reducible rfl)
    simp only [Act.put, List.setIfInBounds_toArray, List.set_cons_zero, List.set_cons_succ]
    refine wpAnyH_done (by kernel_rfl) ?_ _
    go_wp2_with fail
    (try simp only [Exit.inBlock, Exit.then])
    refine bodyPost_ret (results_row_tmp rfl _ _ (w.heap.size + 1) 31 #[bv ty, bv fl, .slice A4 bs.length c4, .slice none 0 0] _ rfl ((((y4.set_ 0 _).set_ 1 _).set_ 2 _).set_ 3 _) Tryz.underlying31 rfl (by kernel_rfl)) rfl ?_
    refine ⟨HB1.out.trans (((((R4.setCell (Nat.le_refl _) _).setCell (Nat.le_refl _) _).setCell (Nat.le_refl _) _).setCell (Nat.le_refl _) _).mono (Nat.le_succ _)), .inl ⟨trivial, A4, c4, rfl, ?_⟩⟩
    exact own_base (own_set13 (own_set13 (own_set13 (own_set13 own4 y4 (by decide)) (y4.set_ 0 _) (by decide)) ((y4.set_ 0 _).set_ 1 _) (by decide)) (((y4.set_ 0 _).set_ 1 _).set_ 2 _) (by decide)) (Nat.le_of_lt (Nat.lt_of_succ_lt (Nat.lt_of_lt_of_le hs1 b23.size)))
end Go.Proofs.YtdcppcoldaaldaaGreatDoor






namespace Go.Proofs.YtdcppcoldaaldaaGreatDoor
open Go.RowKit

set_option linter.unusedSimpArgs false
theorem and8 : ∀ f ∈ ([1, 2, 4, 8] : List Nat), ∀ n : Nat, n < 256 → (bits BinOp.and IntKind.u8 (n : Int) (f : Int) != 0) = decide (n / f % 2 = 1) := by decide +kernel
theorem has1_any (f : Nat) (hf : f ∈ ([1, 2, 4, 8] : List Nat)) (fl : UInt8) (g : Nat) (w : World) (h : w.cell? ⟨g, 1, none⟩ = some (bv fl)) :
    Calls Tryz.prog 67 #[.int .u8 (f : Int), .pointer (some ⟨g, 0, none⟩)] w fun e w' => e = .returned (.bool (decide (fl.toNat / f % 2 = 1))) ∧ w' = w := by
  have hq := and8 f hf fl.toNat fl.toNat_lt
  rw [← hq]
  clear hq
  go_enter Tryz.func67, Tryz.ntmps67
  go_wp2_with fail
  go_ret
  exact ⟨rfl, rfl⟩
theorem next1_any {w : World} {base g c k : Nat} {A : Option Addr} {bs : List UInt8} (h : Rdr w base g A c bs k) (Bc : Nat) (hb : Boxed w Bc 104 (.pointer (some ⟨g, 0, none⟩))) (n : Nat) (hw : widthB n = true) (hn : k + n ≤ bs.length) :
    Calls Tryz.prog 69 #[.int .i64 (n : Int), .pointer (some ⟨Bc, 0, none⟩)] w fun e w' => e = .returned (uv (nrd bs k n)) ∧ Rdr w' base g A c bs (k + n) ∧ w.grownBy w' (some g) := by
  have hc := hb.cell
  have HN := Lib.hid (cnumber_yes h n hw hn)
  have hv : uv (nrd bs k n) = .int .u32 (numOf ((bs.drop k).take n) : Nat) := by rw [uv, nrd_toNat]
  rw [hv]
  clear hv
  generalize numOf ((bs.drop k).take n) = x at *
  go_enter Tryz.func69, Tryz.ntmps69
  go_wp2_with fail
  refine HN.out.mono ?_
  rintro e w1 ⟨rfl, hr, hg⟩
  go_wp2_with fail
  go_ret
  exact ⟨rfl, hr, hg⟩
/-- what Of holds while it reads: the cursor, its box, the description's variable -/
structure OfI (w0 : World) (B0 base g : Nat) (A : Option Addr) (c : Nat) (bs : List UInt8) (Bc gp k : Nat) (cs : Array Value) (W : World) : Prop where
  rd : Rdr W base g A c bs k
  bx : Boxed W Bc 104 (.pointer (some ⟨g, 0, none⟩))
  pt : Whole W gp 34 cs
  low : Below B0 w0 W
  gB : B0 ≤ g
  pB : B0 ≤ gp
  ne : g ≠ Bc ∧ g ≠ gp ∧ Bc ≠ gp
section
variable {w0 W W' : World} {B0 base g c Bc gp k : Nat} {A : Option Addr} {bs : List UInt8} {cs : Array Value}
theorem OfI.next (h : OfI w0 B0 base g A c bs Bc gp k cs W) {k' : Nat} (hr : Rdr W' base g A c bs k') (hg : W.grownBy W' (some g)) : OfI w0 B0 base g A c bs Bc gp k' cs W' :=
  ⟨hr, h.bx.kept hg (fun e => h.ne.1 (by cases e; rfl)), h.pt.grown hg (fun e => h.ne.2.1 (by cases e; rfl)), h.low.grown hg (Nat.le_of_lt (Nat.lt_of_le_of_lt h.pB h.pt.lt)) (fun r e => by cases e; exact h.gB), h.gB, h.pB, h.ne⟩
theorem OfI.set (h : OfI w0 B0 base g A c bs Bc gp k cs W) (i : Nat) (u : Value) : OfI w0 B0 base g A c bs Bc gp k (cs.setIfInBounds i u) (W.setCell ⟨gp, i, none⟩ u) :=
  ⟨h.rd.kept (grownBy_setCell1 W gp i u) (fun e => h.ne.2.1 (by cases e; rfl)) (.inr (whole_row_ne h.pt (by decide) h.rd.own)), h.bx.kept (grownBy_setCell1 W gp i u) (fun e => h.ne.2.2 (by cases e; rfl)), h.pt.set_ i u, h.low.setCell h.pB _, h.gB, h.pB, h.ne⟩
theorem OfI.fz (h : OfI w0 B0 base g A c bs Bc gp k cs W) (i : Nat) : W.frozen? ⟨gp, i, none⟩ = false := h.pt.frozen i
theorem OfI.nx (h : OfI w0 B0 base g A c bs Bc gp k cs W) (n : Nat) (hw : widthB n = true) (hn : k + n ≤ bs.length) :
    Calls Tryz.prog 69 #[.int .i64 (n : Int), .pointer (some ⟨Bc, 0, none⟩)] W fun e W' => e = .returned (uv (nrd bs k n)) ∧ OfI w0 B0 base g A c bs Bc gp (k + n) cs W' :=
  (next1_any h.rd Bc h.bx n hw hn).mono fun _ _ hh => ⟨hh.1, h.next hh.2.1 hh.2.2⟩
end
end Go.Proofs.YtdcppcoldaaldaaGreatDoor


