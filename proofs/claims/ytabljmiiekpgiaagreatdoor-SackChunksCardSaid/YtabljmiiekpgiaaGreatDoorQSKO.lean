/- Layer 14: slices.Chunk of uint32, as an iterator whose rounds may stop it. It writes nothing that was there. -/
/- Layer 14: the reference's Make (written by tools/gen_sack_o.py). It writes nothing that was there. -/
/- Layer 14: the reference's data is the program's. -/
/- Layer 14: Build's answer for awake's numbers, reckoned. -/
/- Layer 14: a right sack and its description (mathematics; no program). -/
import Derived.Test.YtabljmiiekpgiaaGreatDoorQDataN
import Derived.Test.YtabljmiiekpgiaaGreatDoorQTC
import Derived.Test.YtabljmiiekpgiaaGreatDoorQNW
import Derived.Test.YtabljmiiekpgiaaGreatDoorQEL
import Derived.WalkMore
import Derived.Deep.RegionHeld3
import Derived.Test.YtabljmiiekpgiaaGreatDoorQSackC
import Derived.Test.YtabljmiiekpgiaaGreatDoorQDT
import Derived.Test.YtabljmiiekpgiaaGreatDoorQWireF
import Derived.Test.YtabljmiiekpgiaaGreatDoorQNF
import Derived.BigGuard
import Derived.Deep.Cut
import Derived.Test.YtabljmiiekpgiaaGreatDoorQSKK
import Derived.Test.YtabljmiiekpgiaaGreatDoorQW
import Derived.Test.YtabljmiiekpgiaaGreatDoorQDJ






namespace Go.Proofs.YtabljmiiekpgiaaGreatDoor
open Go.RowKit Go.Shelf

attribute [local go_sem] Oper.semAt_some
set_option linter.unusedSimpArgs false
theorem schunk32_in (n : Nat) (A : Option Addr) (m c : Nat) (k : Int) (hk : 1 ≤ k) (w : World) :
    CallsIn Fence.wide n Tryz.prog 49 #[.slice A m c, .int .i64 k] w fun e w' => e = .returned (.func (.func 93) #[] #[.pointer (some ⟨w.heap.size, 0, none⟩), .pointer (some ⟨w.heap.size + 1, 0, none⟩)]) ∧
      w' = (w.alloc (.cells #[.slice A m c] 24)).alloc (.cells #[.int .i64 k] 3) := by
  have x1 := Boxed.new (w.alloc (.cells #[.slice A m c] 24)) 3 (.int .i64 k)
  rw [World.size_alloc] at x1
  have c1 := x1.cell
  have hk1 : ¬ k < 1 := by omega
  refine callsIn_of_wp Tryz.func49 rfl trivial ?_ rfl
  simp only [Tryz.ntmps49, List.size_toArray, List.length_cons, List.length_nil, Nat.reduceAdd, Nat.reduceSub, Array.replicate_succ, Array.replicate_zero, List.push_toArray, List.append_toArray, List.nil_append, List.cons_append]
  gi_wp2_with fail
  go_ret
  exact ⟨rfl, rfl⟩
set_option maxRecDepth 100000 in
set_option maxHeartbeats 2000000 in
theorem chunk1_32_in (n : Nat) (hn : 1 ≤ n) (l Bs Bn n₀ X : Nat) (A : Option Addr) (m c k : Nat) (hk : 1 ≤ k) (hk2 : k ≤ 9223372036854775807) (hc : m ≤ c) (hm : c ≤ maxLen) (hs : m ≤ 10000000) (hA : 0 < m → ∃ ad, A = some ad)
    (G : World → Nat → Prop) (hGo : GOwnN X G) (J : List Nat → World → Prop) (Jx : List Nat × Nat → World → Prop) (hJg : ∀ s A B, J s A → A.grownBy B none → J s B)
    (hY : ∀ pre x W1, J pre W1 → pre.length < m + 1 → RowCh k m pre x → YieldAt Fence.wide (n - 1) Tryz.prog l (encCh A k m x) W1 fun e W' => (e = .returned (.bool true) ∧ J (pre ++ [x]) W' ∧ KpG G n₀ W1 W') ∨ (e = .returned (.bool false) ∧ Jx (pre, x) W'))
    (W : World) (hX : X ≤ W.heap.size) (hBs : Whole W Bs 24 #[.slice A m c]) (gBs : ¬ G W Bs) (hBn : Whole W Bn 3 #[.int .i64 (k : Int)]) (gBn : ¬ G W Bn) (h0 : J [] W) :
    CallsIn Fence.wide n Tryz.prog 93 #[.func (.yield l) #[] #[], .pointer (some ⟨Bs, 0, none⟩), .pointer (some ⟨Bn, 0, none⟩)] W fun e W' => (∃ v, e = .returned v) ∧ ((∃ xs, FinCh k m xs ∧ J xs W') ∨ (∃ p : List Nat × Nat, RowCh k m p.1 p.2 ∧ Jx p W')) := by
  refine callsIn_of_wp Tryz.func93 rfl trivial ?_ rfl
  simp only [Tryz.ntmps93, List.size_toArray, List.length_cons, List.length_nil, Nat.reduceAdd, Nat.reduceSub, Array.replicate_succ, Array.replicate_zero, List.push_toArray, List.append_toArray, List.nil_append, List.cons_append]
  unfold maxLen at hm
  gi_wp2
  gi_loopw [4] (fun at_ wr => ∃ (x : Nat) (ys : List Nat), at_ = .int .i64 (x : Int) ∧ Hid (x = ys.length * k) ∧ ys.length ≤ x ∧ x < m + k ∧ J ys wr ∧ KpG G n₀ W wr) (fun at_ _ => m + k - (intOf at_).toNat)
  case atStart => exact ⟨0, [], rfl, by simp [Hid], Nat.le_refl _, by omega, h0, KpG.refl _ _ _⟩
  case round =>
    obtain ⟨x, ys, rfl, hx, hyx, hxm, hj, hkp⟩ := hrel
    have hWs : Whole wr Bs 24 #[.slice A m c] := hkp.same _ _ _ _ gBs hBs
    have hWn : Whole wr Bn 3 #[.int .i64 (k : Int)] := hkp.same _ _ _ _ gBn hBn
    have cs : wr.cell? ⟨Bs, 0, none⟩ = some (.slice A m c) := by rw [hWs.cell]; rfl
    have cn : wr.cell? ⟨Bn, 0, none⟩ = some (.int .i64 (k : Int)) := by rw [hWn.cell]; rfl
    by_cases ht : x < m
    · have h1 : (x : Int) < (m : Int) := by omega
      have h2 : (x : Int) ≤ (c : Int) := by omega
      have h3 : ¬ c = x := by omega
      obtain ⟨e, he⟩ : ∃ e, e = min k (m - x) := ⟨_, rfl⟩
      have he1 : 1 ≤ e := by omega
      have he2 : x + e ≤ m := by omega
      have hmin : min (k : Int) ((m - x : Nat) : Int) = (e : Int) := by omega
      obtain ⟨ad, rfl⟩ := hA (by omega)
      have hgd : wr.grownBy wr.drew none := ⟨rfl, rfl, rfl, Nat.le_refl _, fun _ _ _ => rfl⟩
      have hjd := hJg _ _ _ hj hgd
      have hkd : KpG G n₀ W wr.drew := hkp.trans ⟨below_drew (Below.refl _ _), fun _ _ _ _ _ h => h, fun i _ h => hGo _ _ none (Nat.le_trans hX hkp.low.size) hgd (fun r e => by cases e) i h⟩
      have hlen : ys.length < m + 1 := by omega
      have hY1 := hY ys x wr.drew hjd hlen ⟨hx.out, ht⟩
      unfold encCh at hY1
      rw [← he] at hY1
      have HY1 := Lib.hid hY1
      have HE := Lib.hid he
      clear he hY1 hmin hjd hlen
      have hmin : min (k : Int) ((m - x : Nat) : Int) = (e : Int) := by rw [HE.out]; omega
      have HM := Lib.hid hmin
      clear hmin
      have cs' : wr.drew.cell? ⟨Bs, 0, none⟩ = some (.slice (some ad) m c) := cs
      have i1 : (0 : Int) ≤ (x : Int) := by omega
      have i2 : (x : Int) ≤ (x : Int) + (e : Int) := by omega
      have i3 : (x : Int) + (e : Int) ≤ (c : Int) := by omega
      have hwr : IntKind.i64.wrap ((x : Int) + (e : Int)) = (x : Int) + (e : Int) := by unfold IntKind.wrap IntKind.bits; simp [IntKind.signed]; omega
      gi_wp2_with fail
      refine wpIn_wide.2 ?_
      go_region
      rw [HM.out]
      obtain ⟨fn, tmps, assign, body, hy, hR⟩ := HY1.out
      simp only [Option.map_some] at hy
      gi_wp2_with fail
      refine hR.mono ?_
      rintro e' w3 (⟨rfl, hj3, hk3⟩ | ⟨rfl, hx3⟩)
      · have hk03 := hkd.trans hk3
        have hWn3 : Whole w3 Bn 3 #[.int .i64 (k : Int)] := hk03.same _ _ _ _ gBn hBn
        have cn3 : w3.cell? ⟨Bn, 0, none⟩ = some (.int .i64 (k : Int)) := by rw [hWn3.cell]; rfl
        have hxk : x = 0 ∨ k ≤ x := by
          rcases Nat.eq_zero_or_pos ys.length with h | h
          · left; rw [hx.out, h, Nat.zero_mul]
          · right; rw [hx.out]; exact Nat.le_mul_of_pos_left k h
        have hB2 : (x : Int) + (k : Int) ≤ 9223372036854775807 := by omega
        have hx2 : Hid (x + k = (ys ++ [x]).length * k) := by unfold Hid; rw [List.length_append, List.length_singleton, Nat.add_mul, Nat.one_mul, ← hx.out]
        clear hxk hwr i1 i2 i3
        gi_wp2_with fail
        go_roundw
        case rel => exact ⟨x + k, ys ++ [x], by go_num, hx2, by simp; omega, by omega, hj3, hk03⟩
        case measure => simp [intOf]; omega
      · gi_wp2_with fail
        refine bodyPost_ret (results_none rfl _ _ _) rfl ?_
        exact ⟨⟨_, rfl⟩, .inr ⟨(ys, x), ⟨hx.out, ht⟩, hx3⟩⟩
    · have h1 : ¬ (x : Int) < (m : Int) := by omega
      gi_wp2_with fail
      go_end0
      exact ⟨⟨_, rfl⟩, .inl ⟨ys, by unfold FinCh; rw [← hx.out]; omega, hj⟩⟩
end Go.Proofs.YtabljmiiekpgiaaGreatDoor









namespace Go.Proofs.YtabljmiiekpgiaaGreatDoor
open Go.RowKit

set_option linter.unusedSimpArgs false
theorem puts_cat (k : Nat) (l m : List UInt32) : puts k (l ++ m) = puts k l ++ puts k m := by simp [puts]
/-- the word of the two counts -/
def cntW (g d : Nat) : UInt32 := u32of (g * 65536 + d)
set_option maxRecDepth 100000 in
set_option maxHeartbeats 8000000 in
theorem rmake14_any (s : Sk) (G : Option Addr) (gc : Nat) (D : Option Addr) (dc : Nat) (w : World) (h : SkL w w.heap.size G gc D dc s) (hgl : s.gs.length ≤ 16379) (hdl : s.ds.length ≤ 16379) :
    Calls Tryz.prog 19 #[skV s G gc D dc] w fun e w' => Below w.heap.size w w' ∧ ∃ A' c', e = .returned (.agg #[.int .u8 3, .int .u8 0, .slice A' (12 + s.gs.length * 4 + s.ds.length * 4) c', .slice none 0 0]) ∧
      w'.ownsRow w.heap.size 5 1 (.slice A' (12 + s.gs.length * 4 + s.ds.length * 4) c') (12 + s.gs.length * 4 + s.ds.length * 4) ((puts 4 [s.cum, s.win, cntW s.gs.length s.ds.length] ++ puts 2 (bnds s.gs) ++ puts 4 s.ds).map bv) := by
  have b0 : Below w.heap.size w ((w.alloc (.cells (skCells s G gc D dc) 26)).alloc (.cells #[.int .u8 0, .int .u8 0, .slice none 0 0, .slice none 0 0] 33)) := ((Below.refl _ w).alloc (Nat.le_refl _) _).alloc (by simp) _
  have x0 := (Whole.new w 26 (skCells s G gc D dc)).alloc (.cells #[.int .u8 0, .int .u8 0, .slice none 0 0, .slice none 0 0] 33)
  have y0 := Whole.new (w.alloc (.cells (skCells s G gc D dc) 26)) 33 #[.int .u8 0, .int .u8 0, .slice none 0 0, .slice none 0 0]
  rw [World.size_alloc] at y0
  have hz : w.heap.size + 1 < ((w.alloc (.cells (skCells s G gc D dc) 26)).alloc (.cells #[.int .u8 0, .int .u8 0, .slice none 0 0, .slice none 0 0] 33)).heap.size := by simp
  have HB := Lib.hid b0
  have HS := Lib.hid (h.on b0)
  clear h b0
  obtain ⟨cum, win, gs, ds⟩ := s
  simp only [skV, skCells] at *
  obtain ⟨q0, q1, q2, q3⟩ := wh4 x0
  generalize hwa : (w.alloc (.cells #[uv cum, uv win, .slice G gs.length gc, .slice D ds.length dc] 26)).alloc (.cells #[.int .u8 0, .int .u8 0, .slice none 0 0, .slice none 0 0] 33) = wa at *
  have HW := Lib.hid hwa
  have HCW : Hid (cntW gs.length ds.length = u32of (gs.length * 65536 + ds.length)) := Lib.hid rfl
  have ec : (u32of (gs.length * 65536 + ds.length)).toNat = gs.length * 65536 + ds.length := u32of_toNat (by omega)
  have hm1 : (gs.length : Int) % 4294967296 = (gs.length : Int) := by omega
  have hm2 : (ds.length : Int) % 4294967296 = (ds.length : Int) := by omega
  have hm3 : ((gs.length : Int) * 65536) % 4294967296 = (gs.length : Int) * 65536 := by omega
  have hm4 : ((gs.length : Int) * 65536 + (ds.length : Int)) % 4294967296 = (gs.length : Int) * 65536 + (ds.length : Int) := by omega
  have HE : Hid (Value.int .u32 ((gs.length : Int) * 65536 + (ds.length : Int)) = uv (cntW gs.length ds.length)) := Lib.hid (by rw [HCW.out, uv, ec]; congr 1)
  clear hwa ec
  go_enter Tryz.func19, Tryz.ntmps19
  go_upto_region 1 with fail
  rw [HW.out]
  clear HW
  go_wp2_with fail
  rw [HE.out]
  have v1 : Below wa.heap.size wa (wa.alloc (.cells #[uv cum, uv win, uv (cntW gs.length ds.length)] 22)) := (Below.refl _ _).alloc (Nat.le_refl _) _
  have hP := rput_any 4 (.inr (.inr rfl)) (some ⟨wa.heap.size, 0, none⟩) 3 [cum, win, cntW gs.length ds.length] (wa.alloc (.cells #[uv cum, uv win, uv (cntW gs.length ds.length)] 22)) ((lies_new wa [cum, win, cntW gs.length ds.length]).more (by simp)) (by simp)
  have hsz1 : (wa.alloc (.cells #[uv cum, uv win, uv (cntW gs.length ds.length)] 22)).heap.size = wa.heap.size + 1 := World.size_alloc _ _
  generalize hcw : cntW gs.length ds.length = cw at *
  have HCQ := Lib.hid hcw
  clear hcw
  generalize wa.alloc (.cells #[uv cum, uv win, uv cw] 22) = wb at *
  refine hP.mono ?_
  rintro e w1 ⟨A1, c1, rfl, hown, b1⟩
  have v2 := v1.trans (b1.mono v1.size)
  have hown1 := own_base hown (show wa.heap.size ≤ wb.heap.size by omega)
  clear hP hown b1 v1 hm1 hm2 hm3 hm4 HE
  go_wp2_with fail
  go_loopw [3, 4] (fun l i wr => ∃ (j : Nat) (Al : Option Addr) (cl : Nat), j ≤ gs.length ∧ i = .int .i64 (j : Int) ∧ l = .slice Al (12 + j * 4) cl ∧ wr.ownsRow wa.heap.size 5 1 (.slice Al (12 + j * 4) cl) (12 + j * 4) ((puts 4 [cum, win, cw] ++ puts 2 (bnds (gs.take j))).map bv) ∧ Below wa.heap.size wa wr) (fun _ i _ => gs.length - (intOf i).toNat)
  case atStart => exact ⟨0, _, _, Nat.zero_le _, rfl, rfl, by simpa [bnds, puts] using hown1, v2⟩
  case round =>
    obtain ⟨j, Al, cl, hj, rfl, rfl, hown, hbel⟩ := hrel
    have xr := Whole.below x0 hbel (by omega)
    have yr := Whole.below y0 hbel hz
    obtain ⟨r0, r1, r2, r3⟩ := wh4 xr
    have hba := hbel.size
    by_cases hlt : j < gs.length
    · obtain ⟨g, hg⟩ : ∃ g, gs[j]? = some g := ⟨_, List.getElem?_eq_getElem hlt⟩
      obtain ⟨ad, rfl, hadb, c0, c1⟩ := (HS.out.gl.below hbel).at_ hg
      have hi1 : (j : Int) < (gs.length : Int) := by omega
      have HT : Hid (bnds (gs.take (j + 1)) = bnds (gs.take j) ++ [u32of g.f.toNat, u32of g.t.toNat]) := by unfold Hid; rw [take_some hg, bnds_snoc]
      have hft := g.f.toNat_lt
      have htt := g.t.toNat_lt
      have w1' : (g.f.toNat : Int) % 4294967296 = (g.f.toNat : Int) := by omega
      have w2' : (g.t.toNat : Int) % 4294967296 = (g.t.toNat : Int) := by omega
      have HEf : Hid (Value.int .u32 (g.f.toNat : Int) = uv (u32of g.f.toNat)) := Lib.hid (by rw [uv, u32of_toNat (by omega)])
      have HEt : Hid (Value.int .u32 (g.t.toNat : Int) = uv (u32of g.t.toNat)) := Lib.hid (by rw [uv, u32of_toNat (by omega)])
      have HEf2 : Hid (Value.int .u32 (IntKind.u32.wrap (g.f.toNat : Int)) = uv (u32of g.f.toNat)) := Lib.hid (by rw [IntKind.wrap_u32, w1']; exact HEf.out)
      have HEt2 : Hid (Value.int .u32 (IntKind.u32.wrap (g.t.toNat : Int)) = uv (u32of g.t.toNat)) := Lib.hid (by rw [IntKind.wrap_u32, w2']; exact HEt.out)
      have KS : Hid (∀ W, Below wa.heap.size wr W → W.cell? ⟨w.heap.size, 2, none⟩ = some (.slice (some ad) gs.length gc) ∧ W.cell? (ad.add (j * 2)) = some (hv g.f) ∧ W.cell? ⟨(ad.add (j * 2)).block, (ad.add (j * 2)).off + 1, none⟩ = some (hv g.t)) := Lib.hid (fun W hW =>
        ⟨(hW.cell (p := ⟨w.heap.size, 2, none⟩) (by show w.heap.size < _; omega)).trans r2, (hW.cell (p := ad.add (j * 2)) (by rw [blk_add]; exact hadb)).trans c0, (hW.cell (p := ⟨(ad.add (j * 2)).block, (ad.add (j * 2)).off + 1, none⟩) (by show (ad.add (j * 2)).block < _; rw [blk_add]; exact hadb)).trans c1⟩)
      clear hg x0 y0 q0 q1 q2 q3 hown1 v2 r0 r1 r3
      go_upto_region 5 with fail
      refine wp_region_held_drew (S := (fun W => W.cell? ⟨w.heap.size, 2, none⟩ = some (.slice (some ad) gs.length gc) ∧ W.cell? (ad.add (j * 2)) = some (hv g.f) ∧ W.cell? ⟨(ad.add (j * 2)).block, (ad.add (j * 2)).off + 1, none⟩ = some (hv g.t))) (by kernel_rfl) (KS.out _ (below_drew (Below.refl _ _))) (fun hHeld => ?_)
      refine take_at (i := 0) (v := ?_) (some 28) rfl (by kernel_rfl) (by kernel_rfl) (by kernel_rfl) (fun _ _ _ h => h) (by kernel_rfl) (Or.inl ⟨by kernel_rfl, ?_⟩) (by assumption) ?_
      rotate_left
      · (intro w hSw; (try dsimp only at hSw); go_simp <;> with_reducible rfl)
      simp only [Act.put, List.setIfInBounds_toArray, List.set_cons_zero, List.set_cons_succ]
      refine take_at (i := 1) (v := ?_) (some 29) rfl (by kernel_rfl) (by kernel_rfl) (by kernel_rfl) (fun _ _ _ h => h) (by kernel_rfl) (Or.inl ⟨by kernel_rfl, ?_⟩) (by assumption) ?_
      rotate_left
      · (intro w hSw; (try dsimp only at hSw); go_simp <;> with_reducible rfl)
      simp only [Act.put, List.setIfInBounds_toArray, List.set_cons_zero, List.set_cons_succ]
      refine take_at (i := 2) (v := ?_) (some 30) rfl (by kernel_rfl) (by kernel_rfl) (by kernel_rfl) (fun _ _ _ h => h) (by kernel_rfl) (Or.inl ⟨by kernel_rfl, ?_⟩) (by assumption) ?_
      rotate_left
      · (intro w hSw; (try dsimp only at hSw); go_simp <;> with_reducible rfl)
      simp only [Act.put, List.setIfInBounds_toArray, List.set_cons_zero, List.set_cons_succ]
      refine take_at (i := 3) (v := ?_) (some 31) rfl (by kernel_rfl) (by kernel_rfl) (by kernel_rfl) (fun _ _ _ h => h) (by kernel_rfl) (Or.inl ⟨by kernel_rfl, ?_⟩) (by assumption) ?_
      rotate_left
      · (intro w hSw; (try dsimp only at hSw); go_simp <;> with_reducible rfl)
      simp only [Act.put, List.setIfInBounds_toArray, List.set_cons_zero, List.set_cons_succ]
      refine take_at (i := 4) (v := ?_) (some 32) rfl (by kernel_rfl) (by kernel_rfl) (by kernel_rfl) (fun _ _ _ h => h) (by kernel_rfl) (Or.inl ⟨by kernel_rfl, ?_⟩) (by assumption) ?_
      rotate_left
      · (intro w hSw; (try dsimp only at hSw); go_simp <;> with_reducible rfl)
      simp only [Act.put, List.setIfInBounds_toArray, List.set_cons_zero, List.set_cons_succ]
      refine take_at (i := 5) (v := ?_) (some 33) rfl (by kernel_rfl) (by kernel_rfl) (by kernel_rfl) (fun _ _ _ h => h) (by kernel_rfl) (Or.inl ⟨by kernel_rfl, ?_⟩) (by assumption) ?_
      rotate_left
      · (intro w hSw; (try dsimp only at hSw); go_simp <;> with_reducible rfl)
      simp only [Act.put, List.setIfInBounds_toArray, List.set_cons_zero, List.set_cons_succ]
      refine take_at (i := 6) (v := ?_) (some 34) rfl (by kernel_rfl) (by kernel_rfl) (by kernel_rfl) (fun _ _ _ h => h) (by kernel_rfl) (Or.inl ⟨by kernel_rfl, ?_⟩) (by assumption) ?_
      rotate_left
      · (intro w hSw; (try dsimp only at hSw); go_simp <;> with_reducible rfl)
      simp only [Act.put, List.setIfInBounds_toArray, List.set_cons_zero, List.set_cons_succ]
      refine take_at (i := 7) (v := ?_) (some 35) rfl (by kernel_rfl) (by kernel_rfl) (by kernel_rfl) (fun _ _ _ h => h) (by kernel_rfl) (Or.inl ⟨by kernel_rfl, ?_⟩) (by assumption) ?_
      rotate_left
      · (intro w hSw; (try dsimp only at hSw); go_simp <;> with_reducible rfl)
      simp only [Act.put, List.setIfInBounds_toArray, List.set_cons_zero, List.set_cons_succ]
      refine take_at (i := 8) (v := ?_) (some 36) rfl (by kernel_rfl) (by kernel_rfl) (by kernel_rfl) (fun _ _ _ h => h) (by kernel_rfl) (Or.inl ⟨by kernel_rfl, ?_⟩) (by assumption) ?_
      rotate_left
      · (intro w hSw; (try dsimp only at hSw); go_simp <;> with_reducible rfl)
      simp only [Act.put, List.setIfInBounds_toArray, List.set_cons_zero, List.set_cons_succ]
      refine take_at (i := 9) (v := ?_) (some 37) rfl (by kernel_rfl) (by kernel_rfl) (by kernel_rfl) (fun _ _ _ h => h) (by kernel_rfl) (Or.inl ⟨by kernel_rfl, ?_⟩) (by assumption) ?_
      rotate_left
      · (intro w hSw; (try dsimp only at hSw); go_simp <;> with_reducible rfl)
      simp only [Act.put, List.setIfInBounds_toArray, List.set_cons_zero, List.set_cons_succ]
      refine take_at (i := 10) (v := ?_) (some 38) rfl (by kernel_rfl) (by kernel_rfl) (by kernel_rfl) (fun _ _ _ h => h) (by kernel_rfl) (Or.inl ⟨by kernel_rfl, ?_⟩) (by assumption) ?_
      rotate_left
      · (intro w hSw; (try dsimp only at hSw); go_simp <;> with_reducible rfl)
      simp only [Act.put, List.setIfInBounds_toArray, List.set_cons_zero, List.set_cons_succ]
      refine take_at (i := 11) (v := ?_) (some 39) rfl (by kernel_rfl) (by kernel_rfl) (by kernel_rfl) (fun _ _ _ h => h) (by kernel_rfl) (Or.inl ⟨by kernel_rfl, ?_⟩) (by assumption) ?_
      rotate_left
      · (intro w hSw; (try dsimp only at hSw); go_simp <;> with_reducible rfl)
      simp only [Act.put, List.setIfInBounds_toArray, List.set_cons_zero, List.set_cons_succ]
      refine take_at (i := 12) (v := ?_) (some 40) rfl (by kernel_rfl) (by kernel_rfl) (by kernel_rfl) (fun _ _ _ h => h) (by kernel_rfl) (Or.inl ⟨by kernel_rfl, ?_⟩) (by assumption) ?_
      rotate_left
      · (intro w hSw; (try dsimp only at hSw); go_simp <;> with_reducible rfl)
      simp only [Act.put, List.setIfInBounds_toArray, List.set_cons_zero, List.set_cons_succ]
      refine take_at (i := 13) (v := ?_) (some 41) rfl (by kernel_rfl) (by kernel_rfl) (by kernel_rfl) (fun _ _ _ h => h) (by kernel_rfl) (Or.inl ⟨by kernel_rfl, ?_⟩) (by assumption) ?_
      rotate_left
      · (intro w hSw; (try dsimp only at hSw); go_simp <;> with_reducible rfl)
      simp only [Act.put, List.setIfInBounds_toArray, List.set_cons_zero, List.set_cons_succ]
      refine take_at (i := 14) (v := ?_) (some 42) rfl (by kernel_rfl) (by kernel_rfl) (by kernel_rfl) (fun _ _ _ h => h) (by kernel_rfl) (Or.inl ⟨by kernel_rfl, ?_⟩) (by assumption) ?_
      rotate_left
      · (intro w hSw; (try dsimp only at hSw); go_simp <;> with_reducible rfl)
      simp only [Act.put, List.setIfInBounds_toArray, List.set_cons_zero, List.set_cons_succ]
      refine wpAnyH_ready (rs := [15]) (by kernel_rfl) (by simp) ?_
      refine AllReadyH.cons rfl (fun K hK => ?_) AllReadyH.nil
      go_simp
      (try rw [HEf2.out, HEt2.out])
      (try rw [HEf.out, HEt.out])
      have bA : Below wr.heap.size wr (wr.alloc (.cells #[uv (u32of g.f.toNat), uv (u32of g.t.toNat)] 22)).drew := below_drew ((Below.refl _ _).alloc (Nat.le_refl _) _)
      have LA : Lies (wr.alloc (.cells #[uv (u32of g.f.toNat), uv (u32of g.t.toNat)] 22)).drew (wr.alloc (.cells #[uv (u32of g.f.toNat), uv (u32of g.t.toNat)] 22)).drew.heap.size (some ⟨wr.heap.size, 0, none⟩) ([u32of g.f.toNat, u32of g.t.toNat].map uv) := ((lies_new wr [u32of g.f.toNat, u32of g.t.toNat]).below (below_drew (Below.refl _ _))).more (by show _ ≤ (wr.alloc _).heap.size; simp)
      have oA := own_below' hown bA
      have RA := bA.mono hba
      have sA := RA.size
      generalize (wr.alloc (.cells #[uv (u32of g.f.toNat), uv (u32of g.t.toNat)] 22)).drew = wA at *
      clear hHeld
      refine hK.out _ _ (KS.out _ RA) (fun hHeld => ?_)
      clear hK K
      try simp only [Act.put, List.setIfInBounds_toArray, List.set_cons_zero, List.set_cons_succ]
      refine wpAnyH_ready (rs := [16]) (by kernel_rfl) (by simp) ?_
      refine AllReadyH.cons rfl (fun K hK => ?_) AllReadyH.nil
      have hP : Calls Tryz.prog 52 #[.int .i64 2, .slice (some ⟨wr.heap.size, 0, none⟩) 2 2] wA fun e w' => ∃ A' c', e = .returned (.slice A' 4 c') ∧ w'.ownsRow wA.heap.size 5 1 (.slice A' 4 c') 4 ((puts 2 [u32of g.f.toNat, u32of g.t.toNat]).map bv) ∧ Below wA.heap.size wA w' := rput_any 2 (.inr (.inl rfl)) _ 2 [u32of g.f.toNat, u32of g.t.toNat] wA LA (by simp)
      go_simp
      go_at_call 52; (with_reducible refine hP.mono ?_); rintro e wB ⟨A2, c2, rfl, oB2, bB⟩
      go_wp2_with fail
      have oB := own_below' oA bB
      have RB := RA.trans (bB.mono (Nat.le_trans hba sA))
      have sB := RB.size
      clear hP LA
      clear hHeld
      refine hK.out _ _ (KS.out _ RB) (fun hHeld => ?_)
      clear hK K
      try simp only [Act.put, List.setIfInBounds_toArray, List.set_cons_zero, List.set_cons_succ]
      refine wpAnyH_ready (rs := [17]) (by kernel_rfl) (by simp) ?_
      refine AllReadyH.cons rfl (fun K hK => ?_) AllReadyH.nil
      refine wp_append_lies _ (.tmp 28) (.tmp 44) 30 rfl wa.heap.size 5 _ 1 Tryz.underlying30 u8info rfl (.slice Al (12 + j * 4) cl) (12 + j * 4) _ rfl oB wB.heap.size A2 4 c2 ((puts 2 [u32of g.f.toNat, u32of g.t.toNat]).map bv) rfl (by simp [puts_len]) (Lies.own oB2) (by intro u hu; obtain ⟨_, _, rfl⟩ := List.mem_map.1 hu; rfl) (by omega) (by unfold maxLen; omega) (by omega) ?_
      intro A3 c3 wC oC gC _
      have RC : Below wa.heap.size wr wC := RB.grown gC (by omega) (fun r e => (oB.lt r e).1)
      have OC : Hid (wC.ownsRow wa.heap.size 5 1 (.slice A3 (12 + (j + 1) * 4) c3) (12 + (j + 1) * 4) ((puts 4 [cum, win, cw] ++ puts 2 (bnds (gs.take (j + 1)))).map bv)) := by
        unfold Hid
        rw [HT.out, puts_cat, ← List.append_assoc, List.map_append, show 12 + (j + 1) * 4 = 12 + j * 4 + 4 by omega]
        exact oC
      clear oC oB oB2 gC oA
      clear hHeld
      refine hK.out _ _ (KS.out _ RC) (fun hHeld => ?_)
      clear hK K
      try simp only [Act.put, List.setIfInBounds_toArray, List.set_cons_zero, List.set_cons_succ]
      refine take_at (i := 18) (v := ?_) (some 3) rfl (by kernel_rfl) (by kernel_rfl) (by kernel_rfl) (fun _ _ _ h => h) (by kernel_rfl) (Or.inl ⟨by kernel_rfl, ?_⟩) (by assumption) ?_
      rotate_left
      · (intro w hSw; (try dsimp only at hSw); go_simp <;> with_reducible rfl)
      simp only [Act.put, List.setIfInBounds_toArray, List.set_cons_zero, List.set_cons_succ]
      refine wpAnyH_done (by kernel_rfl) ?_ _
      go_wp2_with fail
      go_roundw
      case rel => exact ⟨j + 1, A3, c3, by omega, by go_num, by rw [show 12 + (j + 1) * 4 = 12 + j * 4 + 4 by omega], OC.out, hbel.trans RC⟩
      case measure => simp [intOf]; omega
    · obtain rfl : j = gs.length := by omega
      have hi1 : ¬ (gs.length : Int) < (gs.length : Int) := by omega
      rw [List.take_length] at hown
      have hP := rput_any 4 (.inr (.inr rfl)) D dc ds wr ((HS.out.dl.below hbel).more hba) (by omega)
      have HBW := Lib.hid (HB.out.trans (hbel.mono (by omega)))
      have hwz : w.heap.size + 1 < wa.heap.size := hz
      have hone : ∀ u ∈ (puts 4 ds).map bv, u.oneCell' = true := by intro u hu; obtain ⟨_, _, rfl⟩ := List.mem_map.1 hu; rfl
      clear x0 y0 q0 q1 q2 q3 hown1 v2 r0 r1 hbel
      go_upto_region 6 with fail
      go_wp2_with fail
      refine hP.mono ?_
      rintro e w2 ⟨A2, c2, rfl, o2, b2⟩
      have own2 := own_below' hown b2
      have y2 := Whole.below yr b2 yr.lt
      have s2 := b2.size
      have HB2 := Lib.hid (HBW.out.trans (b2.mono (by omega)))
      clear hP hown yr xr b2
      go_wp2_with (at_builtin; refine wpList_append_lies _ rfl (.tmp 46) (.tmp 49) 30 rfl wa.heap.size 5 _ 1 Tryz.underlying30 u8info rfl _ _ _ rfl own2 _ A2 (ds.length * 4) c2 ((puts 4 ds).map bv) rfl (by simp [puts_len]) (Lies.own o2) hone (by omega) (by unfold maxLen; omega) (by omega) ?_; intro A3 c3 w3 own3 gr3 _; have y3 := y2.grown gr3 (whole_row_ne y2 (by decide) own2).symm; obtain ⟨e0, e1, e2, e3⟩ := wh4 y3; have f0 := y3.frozen 0; have f1 := y3.frozen 1; have f2 := y3.frozen 2; have f3 := y3.frozen 3; have HB3 := Lib.hid (HB2.out.grown gr3 (by omega) (fun r e => Nat.le_trans (by omega) (own2.lt r e).1)))
      refine bodyPost_ret (results_row13 rfl _ _ (w.heap.size + 1) 33 _ _ rfl ((((y3.set_ 0 _).set_ 1 _).set_ 2 _).set_ 3 _) Tryz.underlying33 rfl (by kernel_rfl)) rfl ?_
      refine ⟨(((HB3.out.setCell (p := ⟨w.heap.size + 1, 0, none⟩) (Nat.le_succ _) _).setCell (p := ⟨w.heap.size + 1, 1, none⟩) (Nat.le_succ _) _).setCell (p := ⟨w.heap.size + 1, 2, none⟩) (Nat.le_succ _) _).setCell (p := ⟨w.heap.size + 1, 3, none⟩) (Nat.le_succ _) _, A3, c3, rfl, ?_⟩
      rw [HCQ.out, List.map_append]
      exact own_base (own_set13 (own_set13 (own_set13 (own_set13 own3 y3 (by decide)) (y3.set_ 0 _) (by decide)) ((y3.set_ 0 _).set_ 1 _) (by decide)) (((y3.set_ 0 _).set_ 1 _).set_ 2 _) (by decide)) (Nat.le_of_lt (Nat.lt_of_succ_lt hwz))
end Go.Proofs.YtabljmiiekpgiaaGreatDoor



namespace Go.Proofs.YtabljmiiekpgiaaGreatDoor
open Go.RowKit

theorem byte_toNat (s : Nat) (x : UInt32) : (beByte s x).toNat = x.toNat / 2 ^ s % 256 := by
  unfold beByte
  rw [UInt8.toNat_ofNat']
theorem cnt_two (g d : Nat) (hg : g < 65536) (hd : d < 65536) : puts 4 [cntW g d] = puts 2 [u32of g, u32of d] := by
  have e : (cntW g d).toNat = g * 65536 + d := u32of_toNat (by omega)
  have eg : (u32of g).toNat = g := u32of_toNat (by omega)
  have ed : (u32of d).toNat = d := u32of_toNat (by omega)
  have hb : ∀ a b : UInt8, a.toNat = b.toNat → a = b := fun a b h => UInt8.toNat_inj.1 h
  have h4 : puts 4 [cntW g d] = [beByte 24 (cntW g d), beByte 16 (cntW g d), beByte 8 (cntW g d), beByte 0 (cntW g d)] := rfl
  have h2 : puts 2 [u32of g, u32of d] = [beByte 8 (u32of g), beByte 0 (u32of g), beByte 8 (u32of d), beByte 0 (u32of d)] := rfl
  rw [h4, h2]
  congr 1
  · apply hb; rw [byte_toNat, byte_toNat, e, eg]; omega
  congr 1
  · apply hb; rw [byte_toNat, byte_toNat, e, eg]; omega
  congr 1
  · apply hb; rw [byte_toNat, byte_toNat, e, ed]; omega
  congr 1
  · apply hb; rw [byte_toNat, byte_toNat, e, ed]; omega
theorem skB_ref (s : Sk) (hg : s.gs.length < 65536) (hd : s.ds.length < 65536) : puts 4 [s.cum, s.win, cntW s.gs.length s.ds.length] ++ puts 2 (bnds s.gs) ++ puts 4 s.ds = skB s := by
  unfold skB
  rw [show [s.cum, s.win, cntW s.gs.length s.ds.length] = [s.cum, s.win] ++ [cntW s.gs.length s.ds.length] from rfl, puts_cat, cnt_two _ _ hg hd]
end Go.Proofs.YtabljmiiekpgiaaGreatDoor




namespace Go.Proofs.YtabljmiiekpgiaaGreatDoor
open Go.RowKit

theorem srt_134 : srt [1, 3, 4] = [1, 3, 4] := List.mergeSort_of_pairwise (by simp)
theorem dvd_awake : dvd 10 [11, 13, 14, 11] = ([1, 3, 4], [11]) := by decide
theorem rch_awake : rch [1, 3, 4] = 1 := by decide
theorem bld_awake : bld 10 0 [11, 13, 14, 11] = ⟨11, 0, [⟨2, 3⟩], [11]⟩ := by
  unfold bld
  rw [dvd_awake]
  simp only [rch_awake]
  have hg : gapsOf 1 [1, 3, 4] = [⟨2, 3⟩] := by
    unfold gapsOf
    rw [srt_134]
    rfl
  rw [hg]
  rfl
def awS : Sk := ⟨11, 0, [⟨2, 3⟩], [11]⟩
theorem awS_ok : okS awS = true := by decide
theorem awS_13 : covB awS 13 = true := by decide
theorem awS_12 : covB awS 12 = false := by decide
theorem awS_9 : covB awS 9 = true := by decide
end Go.Proofs.YtabljmiiekpgiaaGreatDoor






namespace Go.Proofs.YtabljmiiekpgiaaGreatDoor
open Go.RowKit

def isS (x : Ck) : Bool := decide (x.t = 3) && decide (chkC x = 0)
/-- numbers in pairs, as gaps -/
def prG : List UInt32 → List Gp
  | a :: b :: r => ⟨UInt16.ofNat a.toNat, UInt16.ofNat b.toNat⟩ :: prG r
  | _ => []
/-- the description of a sack -/
def skOf (x : Ck) : Sk := ⟨nrd x.d 0 4, nrd x.d 4 4, prG (nums 2 ((x.d.drop 12).take (4 * num2 x.d 8))), nums 4 (x.d.drop (12 + 4 * num2 x.d 8))⟩
theorem kd3 : (kdOf 3).ms = 0 ∧ (kdOf 3).lo = 12 ∧ (kdOf 3).hi ≤ 65531 ∧ (kdOf 3).un = 4 ∧ (kdOf 3).ki = 0 ∧ kn 3 = true := by decide +kernel
theorem msk0 : ∀ n : Nat, n < 256 → mskB n 0 = false → n = 0 := by decide +kernel
theorem isS_parts {x : Ck} (h : isS x = true) : x.t = 3 ∧ chkC x = 0 := by
  unfold isS at h
  simp only [Bool.and_eq_true, decide_eq_true_eq] at h
  exact h
theorem isS_all {x : Ck} (h : isS x = true) : x.t = 3 ∧ x.fl = 0 ∧ x.ks = [] ∧ x.d.length ≤ 65531 ∧ x.d.length = 12 + 4 * num2 x.d 8 + 4 * num2 x.d 10 := by
  obtain ⟨h1, h2⟩ := isS_parts h
  obtain ⟨h3, h4, h5, h6, _, _, h7⟩ := chk_parts h2
  obtain ⟨h8, h9⟩ := da_sack h4 h1
  have hl : x.d.length ≤ 65531 := by
    unfold csz at h7
    omega
  refine ⟨h1, ?_, ?_, hl, ?_⟩
  · unfold flB at h3
    rw [h1, kd3.1, kd3.2.2.2.2.2, Bool.true_and] at h3
    exact UInt8.toNat_inj.1 (msk0 x.fl.toNat x.fl.toNat_lt h3)
  · unfold kidB kidP at h5
    simp only [Bool.or_eq_false_iff, decide_eq_false_iff_not] at h5
    obtain ⟨_, h5, _⟩ := h5
    rw [h1, kd3.2.2.2.2.1] at h5
    refine List.eq_nil_of_length_eq_zero ?_
    have : (kins 0).2.2 = 0 := by decide
    rw [this] at h5
    omega
  · unfold cntC at h6
    rw [h1] at h6
    simp only [decide_true, Bool.true_and, decide_eq_false_iff_not, Decidable.not_not] at h6
    omega
theorem prG_len : ∀ (m : Nat) (l : List UInt32), l.length = 2 * m → (prG l).length = m
  | 0, l, h => by
    rw [List.length_eq_zero_iff.1 (by omega : l.length = 0)]
    rfl
  | m + 1, [], h => by simp at h
  | m + 1, [a], h => by simp at h; omega
  | m + 1, a :: b :: r, h => by
    have := prG_len m r (by simp only [List.length_cons] at h; omega)
    simp only [prG, List.length_cons, this]
theorem bnds_prG : ∀ (m : Nat) (l : List UInt32), l.length = 2 * m → (∀ x ∈ l, x.toNat < 65536) → bnds (prG l) = l
  | 0, l, h, _ => by
    rw [List.length_eq_zero_iff.1 (by omega : l.length = 0)]
    rfl
  | m + 1, [], h, _ => by simp at h
  | m + 1, [a], h, _ => by simp at h; omega
  | m + 1, a :: b :: r, h, hx => by
    have ih := bnds_prG m r (by simp only [List.length_cons] at h; omega) (fun x hm => hx x (by simp [hm]))
    have e : ∀ x : UInt32, x.toNat < 65536 → u32of (UInt16.ofNat x.toNat).toNat = x := fun x h => by
      rw [u16_32 _ h]
      exact UInt32.toNat_inj.1 (by rw [UInt32.toNat_ofNat']; omega)
    have e2 : bnds (prG (a :: b :: r)) = [u32of (UInt16.ofNat a.toNat).toNat, u32of (UInt16.ofNat b.toNat).toNat] ++ bnds (prG r) := rfl
    rw [e2, ih, e a (hx a (by simp)), e b (hx b (by simp))]
    rfl
theorem prG_bnds : ∀ gs : List Gp, prG (bnds gs) = gs
  | [] => rfl
  | g :: gs => by
    have e : ∀ s : UInt16, UInt16.ofNat (u32of s.toNat).toNat = s := fun s => by
      have := s.toNat_lt
      rw [u32of_toNat (by omega)]
      exact UInt16.toNat_inj.1 (by rw [UInt16.toNat_ofNat']; omega)
    have e2 : bnds (g :: gs) = u32of g.f.toNat :: u32of g.t.toNat :: bnds gs := rfl
    rw [e2, prG, e, e, prG_bnds gs]
theorem nums_puts {k : Nat} (hk : k = 1 ∨ k = 2 ∨ k = 4) (l : List UInt32) (h : ∀ x ∈ l, x.toNat < 256 ^ k) : nums k (puts k l) = l := by
  have hk0 : 0 < k := by omega
  have hl : (puts k l).length / k = l.length := by rw [puts_len]; exact Nat.mul_div_cancel _ hk0
  apply List.ext_getElem?
  intro j
  unfold nums
  rw [hl, List.getElem?_map]
  by_cases hj : j < l.length
  · rw [List.getElem?_range hj, List.getElem?_eq_getElem hj, Option.map_some]
    congr 1
    refine UInt32.toNat_inj.1 ?_
    rw [numAt_puts hk (List.getElem?_eq_getElem hj)]
    exact Nat.mod_eq_of_lt (h _ (List.getElem_mem hj))
  · rw [List.getElem?_eq_none (by simp; omega), List.getElem?_eq_none (by omega)]
    rfl
theorem nums2_lt (b : List UInt8) : ∀ x ∈ nums 2 b, x.toNat < 65536 := by
  intro x hx
  unfold nums at hx
  obtain ⟨j, hj, rfl⟩ := List.mem_map.1 hx
  rw [List.mem_range] at hj
  rw [numAt_toNat]
  refine numOf2_lt _ ?_
  rw [List.length_take, List.length_drop]
  have : j * 2 + 2 ≤ b.length := by omega
  omega
theorem bnds_lt (gs : List Gp) : ∀ x ∈ bnds gs, x.toNat < 256 ^ 2 := by
  intro x hx
  unfold bnds at hx
  obtain ⟨g, _, hg⟩ := List.mem_flatMap.1 hx
  have h1 := g.f.toNat_lt
  have h2 := g.t.toNat_lt
  simp only [List.mem_cons, List.not_mem_nil, or_false] at hg
  rcases hg with rfl | rfl <;> (rw [u32of_toNat (by omega)]; omega)
/-- how many a right sack's description has -/
theorem skOf_len {x : Ck} (h : isS x = true) : (skOf x).gs.length = num2 x.d 8 ∧ (skOf x).ds.length = num2 x.d 10 := by
  obtain ⟨_, _, _, _, hl⟩ := isS_all h
  refine ⟨prG_len _ _ ?_, ?_⟩
  · rw [nums_len, List.length_take, List.length_drop]
    omega
  · show (nums 4 _).length = _
    rw [nums_len, List.length_drop]
    omega
/-- the chunk of the description of a right sack is that sack -/
theorem skC_skOf {x : Ck} (h : isS x = true) : skC (skOf x) = x ∧ okS (skOf x) = true := by
  obtain ⟨hg, hd⟩ := skOf_len h
  obtain ⟨h1, h2, h3, h4, hl⟩ := isS_all h
  refine ⟨?_, by unfold okS; rw [hg, hd]; exact decide_eq_true (by omega)⟩
  have hsk : skB (skOf x) = x.d := by
    unfold skB
    rw [hg, hd]
    have eA : puts 2 (bnds (skOf x).gs) = (x.d.drop 12).take (4 * num2 x.d 8) := by
      show puts 2 (bnds (prG (nums 2 _))) = _
      rw [bnds_prG (num2 x.d 8) _ (by rw [nums_len, List.length_take, List.length_drop]; omega) (nums2_lt _)]
      exact puts_nums' (.inr (.inl rfl)) (by rw [List.length_take, List.length_drop]; omega)
    have eB : puts 4 (skOf x).ds = x.d.drop (12 + 4 * num2 x.d 8) := puts_nums' (.inr (.inr rfl)) (by rw [List.length_drop]; omega)
    rw [eA, eB]
    have eH : puts 4 [(skOf x).cum, (skOf x).win] ++ puts 2 [u32of (num2 x.d 8), u32of (num2 x.d 10)] = x.d.take 12 := by
      obtain ⟨t, fl, d, ks⟩ := x
      simp only at hl
      have hl12 : 12 ≤ d.length := by omega
      clear h hg hd h1 h2 h3 h4 hl eA eB
      match d, hl12 with
      | a0 :: a1 :: a2 :: a3 :: a4 :: a5 :: a6 :: a7 :: a8 :: a9 :: a10 :: a11 :: r, _ =>
        have e1 : (skOf ⟨t, fl, a0 :: a1 :: a2 :: a3 :: a4 :: a5 :: a6 :: a7 :: a8 :: a9 :: a10 :: a11 :: r, ks⟩).cum = UInt32.ofNat (numOf [a0, a1, a2, a3]) := rfl
        have e2 : (skOf ⟨t, fl, a0 :: a1 :: a2 :: a3 :: a4 :: a5 :: a6 :: a7 :: a8 :: a9 :: a10 :: a11 :: r, ks⟩).win = UInt32.ofNat (numOf [a4, a5, a6, a7]) := rfl
        have e3 : u32of (num2 (a0 :: a1 :: a2 :: a3 :: a4 :: a5 :: a6 :: a7 :: a8 :: a9 :: a10 :: a11 :: r) 8) = UInt32.ofNat (numOf [a8, a9]) := by
          rw [numOf_twoE]; rfl
        have e4 : u32of (num2 (a0 :: a1 :: a2 :: a3 :: a4 :: a5 :: a6 :: a7 :: a8 :: a9 :: a10 :: a11 :: r) 10) = UInt32.ofNat (numOf [a10, a11]) := by
          rw [numOf_twoE]; rfl
        simp only at e3 e4 ⊢
        rw [e1, e2, e3, e4, puts_two, puts_two, be4_num, be4_num, be2_num, be2_num]
        rfl
    rw [List.append_assoc, List.append_assoc, ← List.append_assoc, eH]
    rw [show x.d.drop (12 + 4 * num2 x.d 8) = (x.d.drop 12).drop (4 * num2 x.d 8) by rw [List.drop_drop], List.take_append_drop, List.take_append_drop]
  unfold skC
  rw [hsk]
  obtain ⟨t, fl, d, ks⟩ := x
  simp only at h1 h2 h3
  subst h1 h2 h3
  rfl
theorem skB_12 (s : Sk) : ∃ a b c d a' b' c' d' : UInt8, skB s = a :: b :: c :: d :: a' :: b' :: c' :: d' :: beByte 8 (u32of s.gs.length) :: beByte 0 (u32of s.gs.length) :: beByte 8 (u32of s.ds.length) :: beByte 0 (u32of s.ds.length) :: (puts 2 (bnds s.gs) ++ puts 4 s.ds) ∧ be 4 s.cum = [a, b, c, d] ∧ be 4 s.win = [a', b', c', d'] := by
  refine ⟨beByte 24 s.cum, beByte 16 s.cum, beByte 8 s.cum, beByte 0 s.cum, beByte 24 s.win, beByte 16 s.win, beByte 8 s.win, beByte 0 s.win, ?_, rfl, rfl⟩
  unfold skB
  rw [puts_two, puts_two, List.append_assoc]
  rfl
theorem two_bytes (n : Nat) (h : n < 65536) : 256 * (beByte 8 (u32of n)).toNat + (beByte 0 (u32of n)).toNat = n := by
  rw [byte_toNat, byte_toNat, u32of_toNat (by omega)]
  omega
theorem skB_num {s : Sk} (h : okS s = true) : num2 (skB s) 8 = s.gs.length ∧ num2 (skB s) 10 = s.ds.length := by
  unfold okS at h
  rw [decide_eq_true_eq] at h
  obtain ⟨a, b, c, d, a', b', c', d', e, _, _⟩ := skB_12 s
  rw [e]
  exact ⟨two_bytes _ (by omega), two_bytes _ (by omega)⟩
theorem skC_is {s : Sk} (h : okS s = true) : isS (skC s) = true := by
  obtain ⟨h8, h10⟩ := skB_num h
  have hl := skB_len s
  unfold okS at h
  rw [decide_eq_true_eq] at h
  have hfl : flB (skC s) = false := by unfold flB; rw [show (skC s).t = 3 from rfl, show (skC s).fl = 0 from rfl]; decide +kernel
  have hda : daB (skC s) = false := by
    unfold daB kfitsB
    rw [show (skC s).t = 3 from rfl, show (skC s).d = skB s from rfl, kd3.2.1, kd3.2.2.2.1, kd3.2.2.2.2.2]
    have hhi : (kdOf 3).hi = 65528 ∨ (kdOf 3).hi = 65531 := by decide +kernel
    have : ((skB s).length : Int) ≤ (kdOf 3).hi := by rcases hhi with e | e <;> (rw [e]; omega)
    simp only [Bool.true_and, Bool.not_eq_false', Bool.and_eq_true, decide_eq_true_eq, beq_iff_eq]
    omega
  have hki : kidB (skC s) = false := by unfold kidB; rw [show (skC s).t = 3 from rfl, kd3.2.2.2.2.1, show (skC s).ks = [] from rfl]; decide
  have hcn : cntC (skC s) = false := by
    unfold cntC
    rw [show (skC s).t = 3 from rfl, show (skC s).d = skB s from rfl, h8, h10, hl]
    simp only [decide_true, Bool.true_and, decide_eq_false_iff_not, Decidable.not_not]
    omega
  have hcv : cvalO (skC s) = none := by unfold cvalO; rw [show (skC s).t = 3 from rfl]; rfl
  have hcs : ¬ 65535 < csz (skC s) := by
    have : csz (skC s) = 4 + (skB s).length := rfl
    rw [this, hl]
    omega
  have hck : chkC (skC s) = 0 := by
    unfold chkC
    rw [hfl, hda, hki, hcn, hcv, show (skC s).ks = [] from rfl]
    have hcl : chkL (kc (skC s).t) [] = 0 := rfl
    simp [hcl, hcs]
  unfold isS
  rw [hck]
  rfl
/-- the description of a description's chunk is that description -/
theorem skOf_skC {s : Sk} (h : okS s = true) : skOf (skC s) = s := by
  obtain ⟨h8, _⟩ := skB_num h
  obtain ⟨a, b, c, d, a', b', c', d', e, e1, e2⟩ := skB_12 s
  unfold skOf
  have hc : nrd (skC s).d 0 4 = s.cum := by
    show nrd (skB s) 0 4 = _
    rw [e]
    show UInt32.ofNat (numOf [a, b, c, d]) = _
    rw [← e1]
    exact nrd_be4 _
  have hw : nrd (skC s).d 4 4 = s.win := by
    show nrd (skB s) 4 4 = _
    rw [e]
    show UInt32.ofNat (numOf [a', b', c', d']) = _
    rw [← e2]
    exact nrd_be4 _
  have h12 : (skC s).d.drop 12 = puts 2 (bnds s.gs) ++ puts 4 s.ds := by
    show (skB s).drop 12 = _
    rw [e]
    rfl
  have hlen : (puts 2 (bnds s.gs)).length = 4 * s.gs.length := by rw [puts_len, bnds_len]; omega
  rw [hc, hw, show num2 (skC s).d 8 = s.gs.length from h8, ← List.drop_drop, h12]
  rw [List.take_left' hlen, List.drop_left' hlen, nums_puts (.inr (.inl rfl)) _ (bnds_lt _), prG_bnds, nums_puts (.inr (.inr rfl)) _ (fun x _ => by have := x.toNat_lt; omega)]
end Go.Proofs.YtabljmiiekpgiaaGreatDoor


