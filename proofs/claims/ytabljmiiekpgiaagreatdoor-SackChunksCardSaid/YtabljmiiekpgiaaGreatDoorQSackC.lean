/- Layer 14: Make (written by tools/gen_sack_c.py). It writes nothing that was there. -/
import Derived.Test.YtabljmiiekpgiaaGreatDoorQSKA
import Derived.Test.YtabljmiiekpgiaaGreatDoorQDJ
import Derived.Test.YtabljmiiekpgiaaGreatDoorQDP
import Derived.Test.YtabljmiiekpgiaaGreatDoorQNF
import Derived.Test.YtabljmiiekpgiaaGreatDoorQW
import Derived.Deep.RegionHeld3
import Derived.Deep.Cut
import Derived.Laws.Tables
import Derived.Test.YtabljmiiekpgiaaGreatDoorQCA
import Derived.BigGuard
import Derived.Test.YtabljmiiekpgiaaGreatDoorQIB









namespace Go.Proofs.YtabljmiiekpgiaaGreatDoor
open Go.RowKit

set_option linter.unusedSimpArgs false
def bnds (gs : List Gp) : List UInt32 := gs.flatMap fun g => [u32of g.f.toNat, u32of g.t.toNat]
theorem bnds_len (gs : List Gp) : (bnds gs).length = gs.length * 2 := by
  induction gs with
  | nil => rfl
  | cons g gs ih => simp only [bnds, List.flatMap_cons, List.length_append, List.length_cons, List.length_nil] at ih ⊢; omega
theorem bnds_snoc (gs : List Gp) (g : Gp) : bnds (gs ++ [g]) = bnds gs ++ [u32of g.f.toNat, u32of g.t.toNat] := by simp [bnds]
/-- the data of a description's chunk -/
def skB (s : Sk) : List UInt8 := puts 4 [s.cum, s.win] ++ puts 2 [u32of s.gs.length, u32of s.ds.length] ++ puts 2 (bnds s.gs) ++ puts 4 s.ds
theorem skB_len (s : Sk) : (skB s).length = 12 + 4 * s.gs.length + 4 * s.ds.length := by
  unfold skB
  simp only [List.length_append, puts_len, bnds_len, List.length_cons, List.length_nil]
  omega
def okS (s : Sk) : Bool := decide (s.gs.length + s.ds.length ≤ 16379)
def skC (s : Sk) : Ck := ⟨3, 0, skB s, []⟩
theorem sput_lies (k : Nat) (hk : k = 1 ∨ k = 2 ∨ k = 4) (A : Option Addr) (c : Nat) (l : List UInt32) (hl : l.length ≤ 100000) (w : World) (h : Lies w w.heap.size A (l.map uv)) (m : Nat) (hm : l.length * k = m) :
    Calls Tryz.prog 47 #[.int .i64 (k : Int), .slice A l.length c] w fun e w' => ∃ A' c', e = .returned (.slice A' m c') ∧ IsB w' w'.heap.size (.slice A' m c') (puts k l) ∧ Below w.heap.size w w' := by
  subst hm
  refine (put_any k hk A c l w h (by omega)).mono ?_
  rintro e w' ⟨A', c', rfl, hown, hb⟩
  have hcap := own_cap hown
  exact ⟨A', c', rfl, ⟨A', c', by rw [puts_len], Lies.own hown, by rw [puts_len]; exact hcap.2.1, hcap.2.2⟩, hb⟩
theorem u32info14 : (Tryz.prog.info? 22).map (fun i => (i.zero, i.size, i.bytes)) = some (some (.int .u32 0), 1, 4) := by kernel_rfl
/-- what Make hands back -/
def MkS (s : Sk) (w : World) (e : Ending) (w' : World) : Prop := Below w.heap.size w w' ∧ ((okS s = true ∧ ∃ A' c', e = .returned (.tuple #[ckV (skC s) A' c' none 0, .bool true]) ∧ w'.ownsRow w.heap.size 5 1 (.slice A' (skB s).length c') (skB s).length ((skB s).map bv)) ∨ (okS s = false ∧ e = .returned (.tuple #[zck13, .bool false])))
set_option maxRecDepth 100000 in
set_option maxHeartbeats 16000000 in
theorem smake_any (s : Sk) (G : Option Addr) (gc : Nat) (D : Option Addr) (dc : Nat) (w : World) (h : SkL w w.heap.size G gc D dc s) (hgl : s.gs.length ≤ 100000000) (hdl : s.ds.length ≤ 100000000) :
    Calls Tryz.prog 15 #[skV s G gc D dc] w (MkS s w) := by
  have b0 : Below w.heap.size w ((w.alloc (.cells (skCells s G gc D dc) 38)).alloc (.cells #[.int .u8 0, .int .u8 0, .slice none 0 0, .slice none 0 0] 33)) := ((Below.refl _ w).alloc (Nat.le_refl _) _).alloc (by simp) _
  have x0 := (Whole.new w 38 (skCells s G gc D dc)).alloc (.cells #[.int .u8 0, .int .u8 0, .slice none 0 0, .slice none 0 0] 33)
  have y0 := Whole.new (w.alloc (.cells (skCells s G gc D dc) 38)) 33 #[.int .u8 0, .int .u8 0, .slice none 0 0, .slice none 0 0]
  rw [World.size_alloc] at y0
  have hz : w.heap.size + 1 < ((w.alloc (.cells (skCells s G gc D dc) 38)).alloc (.cells #[.int .u8 0, .int .u8 0, .slice none 0 0, .slice none 0 0] 33)).heap.size := by simp
  have HB := Lib.hid b0
  have HG := Lib.hid (fun (V : World) (hV : Below w.heap.size w V) => h.on hV)
  unfold MkS
  have HOk : Hid (okS s = decide (s.gs.length + s.ds.length ≤ 16379)) := Lib.hid rfl
  have HSB : Hid (skB s = puts 4 [s.cum, s.win] ++ puts 2 [u32of s.gs.length, u32of s.ds.length] ++ puts 2 (bnds s.gs) ++ puts 4 s.ds) := Lib.hid rfl
  have HSL := Lib.hid (skB_len s)
  have HCV : Hid (∀ A' c', ckV (skC s) A' c' none 0 = .agg #[.int .u8 3, .int .u8 0, .slice A' (skB s).length c', .slice none 0 0]) := Lib.hid (fun A' c' => rfl)
  clear h b0
  generalize okS s = ok at *
  generalize skB s = sb at *
  generalize skC s = sc at *
  obtain ⟨cum, win, gs, ds⟩ := s
  simp only [skV, skCells] at *
  obtain ⟨q0, q1, q2, q3⟩ := wh4 x0
  generalize hwa : (w.alloc (.cells #[uv cum, uv win, .slice G gs.length gc, .slice D ds.length dc] 38)).alloc (.cells #[.int .u8 0, .int .u8 0, .slice none 0 0, .slice none 0 0] 33) = wa at *
  have HW := Lib.hid hwa
  clear hwa
  go_enter Tryz.func15, Tryz.ntmps15
  go_upto_region 1 with fail
  rw [HW.out]
  clear HW
  by_cases hok : gs.length + ds.length ≤ 16379
  rotate_left
  · have h1 : (16379 : Int) < (gs.length : Int) + (ds.length : Int) := by omega
    have e : ok = false := by rw [HOk.out, decide_eq_false hok]
    subst e
    clear HOk hok HSB HSL
    go_wp2_with (first | (refine wpList_store_row rfl 33 _ _ rfl (w.heap.size + 1) #[.int .u8 0, .int .u8 0, .slice none 0 0, .slice none 0 0] rfl rfl _ _ y0 (by kernel_rfl) rfl (by simp [Value.oneCell']) ?_) | fail)
    (try simp only [Exit.inBlock, Exit.then])
    refine bodyPost_ret (results_row_tmp rfl _ _ (w.heap.size + 1) 33 _ _ rfl (y0.setRow _) Tryz.underlying33 rfl (by kernel_rfl)) rfl ?_
    first | exact ⟨below_setRow HB.out (Nat.le_succ _) _, .inr ⟨trivial, rfl⟩⟩ | exact ⟨below_setRow HB.out (Nat.le_succ _) _, rfl⟩ | exact ⟨below_setRow HB.out (Nat.le_succ _) _, .inr rfl⟩
  · have h1 : ¬ (16379 : Int) < (gs.length : Int) + (ds.length : Int) := by omega
    have e : ok = true := by rw [HOk.out, decide_eq_true hok]
    subst e
    clear HOk
    obtain ⟨i0, hi, hz0, hz1, hz2⟩ := info_parts u32info14
    go_upto_region 5 with (first | (refine wpList_make_own _ rfl _ _ 24 rfl wa.heap.size 22 i0 (.int .u32 0) 1 Tryz.underlying24 hi hz0 hz1 .i64 .i64 _ (gs.length * 2) rfl rfl (by omega) (by rw [hz2]; omega) (by unfold maxLen; omega) (Nat.le_refl _) ?_; intro w1 hown1 hgr1; have b1a : Below wa.heap.size wa w1 := (Below.refl _ _).grown hgr1 (Nat.le_refl _) (fun k e => by cases e); have x1 := Whole.below x0 b1a (by omega); obtain ⟨q0, q1, q2, q3⟩ := wh4 x1) | fail)
    go_loopw [4, 24] (fun l i wr => ∃ (j : Nat) (Al : Option Addr) (cl : Nat), j ≤ gs.length ∧ i = .int .i64 (j : Int) ∧ l = .slice Al (j * 2) cl ∧ wr.ownsRow wa.heap.size 22 1 (.slice Al (j * 2) cl) (j * 2) ((bnds (gs.take j)).map uv) ∧ Below wa.heap.size wa wr) (fun _ i _ => gs.length - (intOf i).toNat)
    case atStart => exact ⟨0, _, _, Nat.zero_le _, rfl, rfl, hown1, b1a⟩
    case round =>
      obtain ⟨j, Al, cl, hj, rfl, rfl, hown, hbel⟩ := hrel
      have hwz : w.heap.size ≤ wa.heap.size := by omega
      by_cases hlt : j < gs.length
      · obtain ⟨g, hg⟩ : ∃ g, gs[j]? = some g := ⟨_, List.getElem?_eq_getElem hlt⟩
        obtain ⟨ad, rfl, hadb, c0, c1⟩ := (HG.out wr (HB.out.trans (hbel.mono hwz))).gl.at_ hg
        have hi1 : (j : Int) < (gs.length : Int) := by omega
        have HT : Hid (bnds (gs.take (j + 1)) = bnds (gs.take j) ++ [u32of g.f.toNat, u32of g.t.toNat]) := by unfold Hid; rw [take_some hg, bnds_snoc]
        have v1 : Below wr.heap.size wr (wr.alloc (.cells #[hv g.f, hv g.t] 86)) := (Below.refl _ _).alloc (Nat.le_refl _) _
        have z1 := Whole.new wr 86 #[hv g.f, hv g.t]
        have o1 := hown.alloc (.cells #[hv g.f, hv g.t] 86)
        have B1 := hbel.trans (v1.mono hbel.size)
        have hwr := hbel.size
        clear hg hown hbel
        go_upto_region 7 with fail
        generalize wr.alloc (.cells #[hv g.f, hv g.t] 86) = w3 at *
        have d0 : w3.cell? ⟨wr.heap.size, 0, none⟩ = some (hv g.f) := by rw [z1.cell]; rfl
        have d1 : w3.cell? ⟨wr.heap.size, 1, none⟩ = some (hv g.t) := by rw [z1.cell]; rfl
        have est : ∀ s : UInt16, Value.int .u32 (IntKind.u32.wrap (s.toNat : Int)) = uv (u32of s.toNat) := fun s => by
          have := s.toNat_lt
          rw [uv, u32of_toNat (by omega), IntKind.wrap_u32]
          congr 1
          omega
        have e1 := est g.f
        have e2 := est g.t
        have hft := g.f.toNat_lt
        have htt := g.t.toNat_lt
        have w1' : (g.f.toNat : Int) % 4294967296 = (g.f.toNat : Int) := by omega
        have w2' : (g.t.toNat : Int) % 4294967296 = (g.t.toNat : Int) := by omega
        have ef : uv (u32of g.f.toNat) = .int .u32 (g.f.toNat : Int) := by rw [uv, u32of_toNat (by omega)]
        have et : uv (u32of g.t.toNat) = .int .u32 (g.t.toNat : Int) := by rw [uv, u32of_toNat (by omega)]
        have HEf := Lib.hid ef
        have HEt := Lib.hid et
        have hB1 := B1.size
        have hj2 : j ≤ 100000000 := by omega
        clear c0 c1 z1 est e1 e2 ef et
        go_wp2_with (at_builtin; refine wpList_append_lies _ rfl (.tmp 28) (.tmp 35) 24 rfl wa.heap.size 22 _ 4 Tryz.underlying24 u32info14 rfl _ _ _ rfl (o1.alloc _) _ _ 2 2 [.int .u32 (g.f.toNat : Int), .int .u32 (g.t.toNat : Int)] rfl rfl (Lies.newN _ _ _) (by intro u hu; simp at hu; rcases hu with rfl | rfl <;> rfl) (by omega) (by unfold maxLen; omega) (by simp; omega) ?_; intro A4 c4 w4 hown4 hgrow4 _)
        have v4 : Below w3.heap.size w3 (w3.alloc (.cells #[.int .u32 (g.f.toNat : Int), .int .u32 (g.t.toNat : Int)] 22)) := (Below.refl _ _).alloc (Nat.le_refl _) _
        have B4 := below_own (B1.trans (v4.mono B1.size)) (o1.alloc _) hgrow4 (Nat.le_refl _) (by simp; omega)
        have H4 : Hid (w4.ownsRow wa.heap.size 22 1 (.slice A4 ((j + 1) * 2) c4) ((j + 1) * 2) ((bnds (gs.take (j + 1))).map uv)) := by
          unfold Hid
          rw [HT.out, List.map_append, show (j + 1) * 2 = j * 2 + 2 by omega, List.map_cons, List.map_cons, List.map_nil, HEf.out, HEt.out]
          exact hown4
        clear hown4 o1 hgrow4 d0 d1 v4 v1
        go_wp2_with fail
        go_roundw
        case rel => exact ⟨j + 1, A4, c4, by omega, by go_num, by rw [show (j + 1) * 2 = j * 2 + 2 by omega], H4.out, B4⟩
        case measure => simp [intOf]; omega
      · obtain rfl : j = gs.length := by omega
        have hi1 : ¬ (gs.length : Int) < (gs.length : Int) := by omega
        rw [List.take_length] at hown
        have xr := Whole.below x0 hbel (by omega)
        have yr := Whole.below y0 hbel hz
        have HBr := Lib.hid (HB.out.trans (hbel.mono hwz))
        have hsk := HG.out wr HBr.out
        have hsr : w.heap.size + 1 < wr.heap.size := Nat.lt_of_lt_of_le hz hbel.size
        have hlb : Lies wr wr.heap.size Al ((bnds gs).map uv) := Lies.own hown
        have hld := hsk.dl
        have hbl := bnds_len gs
        have HBl := Lib.hid hbl
        clear hown x0 y0 hbel HG hsk hown1 b1a hgr1 q0 q1 q2 q3 x1 HB hz hz0 hz1 hz2 hi
        generalize bnds gs = bs at *
        have hlenb : ((gs.length : Int)) % 4294967296 = (gs.length : Int) := by omega
        have hlend : ((ds.length : Int)) % 4294967296 = (ds.length : Int) := by omega
        have eg : Value.int .u32 (gs.length : Int) = uv (u32of gs.length) := by rw [uv, u32of_toNat (by omega)]
        have ed : Value.int .u32 (ds.length : Int) = uv (u32of ds.length) := by rw [uv, u32of_toNat (by omega)]
        have eg2 : Value.int .u32 (IntKind.u32.wrap (gs.length : Int)) = uv (u32of gs.length) := by rw [← eg, IntKind.wrap_u32, hlenb]
        have ed2 : Value.int .u32 (IntKind.u32.wrap (ds.length : Int)) = uv (u32of ds.length) := by rw [← ed, IntKind.wrap_u32, hlend]
        have KS : Hid (∀ W, Below (w.heap.size + 1) wr W → W.cell? ⟨w.heap.size, 0, none⟩ = some (uv cum) ∧ W.cell? ⟨w.heap.size, 1, none⟩ = some (uv win) ∧ W.cell? ⟨w.heap.size, 2, none⟩ = some (.slice G gs.length gc) ∧ W.cell? ⟨w.heap.size, 3, none⟩ = some (.slice D ds.length dc)) := fun W hW => wh4 (Whole.below xr hW (Nat.lt_succ_self _))
        have hs0 : w.heap.size + 2 ≤ wr.heap.size := hsr
        have KS2 : Hid (∀ W, Below (w.heap.size + 2) wr W → W.cell? ⟨w.heap.size, 0, none⟩ = some (uv cum) ∧ W.cell? ⟨w.heap.size, 1, none⟩ = some (uv win) ∧ W.cell? ⟨w.heap.size, 2, none⟩ = some (.slice G gs.length gc) ∧ W.cell? ⟨w.heap.size, 3, none⟩ = some (.slice D ds.length dc)) := fun W hW => wh4 (Whole.below xr hW (by omega))
        have YZ : Hid (∀ W, Below (w.heap.size + 2) wr W → Whole W (w.heap.size + 1) 33 #[.int .u8 0, .int .u8 0, .slice none 0 0, .slice none 0 0]) := Lib.hid (fun W hW => Whole.below yr hW (by omega))
        have HEG := Lib.hid eg
        have HED := Lib.hid ed
        have HEG2 := Lib.hid eg2
        have HED2 := Lib.hid ed2
        clear eg ed eg2 ed2 hlenb hlend xr
        go_upto_region 9 with fail
        refine wp_region_held_drew (S := (fun W => W.cell? ⟨w.heap.size, 0, none⟩ = some (uv cum) ∧ W.cell? ⟨w.heap.size, 1, none⟩ = some (uv win) ∧ W.cell? ⟨w.heap.size, 2, none⟩ = some (.slice G gs.length gc) ∧ W.cell? ⟨w.heap.size, 3, none⟩ = some (.slice D ds.length dc))) (by kernel_rfl) (KS2.out _ (below_drew (Below.refl _ _))) (fun hHeld => ?_)
        refine take_at (i := 0) (v := ?_) (some 38) rfl (by kernel_rfl) (by kernel_rfl) (by kernel_rfl) (fun _ _ _ h => h) (by kernel_rfl) (Or.inl ⟨by kernel_rfl, ?_⟩) (by assumption) ?_
        rotate_left
        · (intro w hSw; (try dsimp only at hSw); go_simp <;> with_reducible rfl)
        simp only [Act.put, List.setIfInBounds_toArray, List.set_cons_zero, List.set_cons_succ]
        refine take_at (i := 1) (v := ?_) (some 39) rfl (by kernel_rfl) (by kernel_rfl) (by kernel_rfl) (fun _ _ _ h => h) (by kernel_rfl) (Or.inl ⟨by kernel_rfl, ?_⟩) (by assumption) ?_
        rotate_left
        · (intro w hSw; (try dsimp only at hSw); go_simp <;> with_reducible rfl)
        simp only [Act.put, List.setIfInBounds_toArray, List.set_cons_zero, List.set_cons_succ]
        refine take_at (i := 2) (v := ?_) (some 40) rfl (by kernel_rfl) (by kernel_rfl) (by kernel_rfl) (fun _ _ _ h => h) (by kernel_rfl) (Or.inl ⟨by kernel_rfl, ?_⟩) (by assumption) ?_
        rotate_left
        · (intro w hSw; (try dsimp only at hSw); go_simp <;> with_reducible rfl)
        simp only [Act.put, List.setIfInBounds_toArray, List.set_cons_zero, List.set_cons_succ]
        refine take_at (i := 3) (v := ?_) (some 41) rfl (by kernel_rfl) (by kernel_rfl) (by kernel_rfl) (fun _ _ _ h => h) (by kernel_rfl) (Or.inl ⟨by kernel_rfl, ?_⟩) (by assumption) ?_
        rotate_left
        · (intro w hSw; (try dsimp only at hSw); go_simp <;> with_reducible rfl)
        simp only [Act.put, List.setIfInBounds_toArray, List.set_cons_zero, List.set_cons_succ]
        refine take_at (i := 6) (v := ?_) (some 44) rfl (by kernel_rfl) (by kernel_rfl) (by kernel_rfl) (fun _ _ _ h => h) (by kernel_rfl) (Or.inl ⟨by kernel_rfl, ?_⟩) (by assumption) ?_
        rotate_left
        · (intro w hSw; (try dsimp only at hSw); go_simp <;> with_reducible rfl)
        simp only [Act.put, List.setIfInBounds_toArray, List.set_cons_zero, List.set_cons_succ]
        refine take_at (i := 7) (v := ?_) (some 45) rfl (by kernel_rfl) (by kernel_rfl) (by kernel_rfl) (fun _ _ _ h => h) (by kernel_rfl) (Or.inl ⟨by kernel_rfl, ?_⟩) (by assumption) ?_
        rotate_left
        · (intro w hSw; (try dsimp only at hSw); go_simp <;> with_reducible rfl)
        simp only [Act.put, List.setIfInBounds_toArray, List.set_cons_zero, List.set_cons_succ]
        refine take_at (i := 8) (v := ?_) (some 46) rfl (by kernel_rfl) (by kernel_rfl) (by kernel_rfl) (fun _ _ _ h => h) (by kernel_rfl) (Or.inl ⟨by kernel_rfl, ?_⟩) (by assumption) ?_
        rotate_left
        · (intro w hSw; (try dsimp only at hSw); go_simp <;> with_reducible rfl)
        simp only [Act.put, List.setIfInBounds_toArray, List.set_cons_zero, List.set_cons_succ]
        refine take_at (i := 9) (v := ?_) (some 47) rfl (by kernel_rfl) (by kernel_rfl) (by kernel_rfl) (fun _ _ _ h => h) (by kernel_rfl) (Or.inl ⟨by kernel_rfl, ?_⟩) (by assumption) ?_
        rotate_left
        · (intro w hSw; (try dsimp only at hSw); go_simp <;> with_reducible rfl)
        simp only [Act.put, List.setIfInBounds_toArray, List.set_cons_zero, List.set_cons_succ]
        refine take_at (i := 10) (v := ?_) (some 48) rfl (by kernel_rfl) (by kernel_rfl) (by kernel_rfl) (fun _ _ _ h => h) (by kernel_rfl) (Or.inl ⟨by kernel_rfl, ?_⟩) (by assumption) ?_
        rotate_left
        · (intro w hSw; (try dsimp only at hSw); go_simp <;> with_reducible rfl)
        simp only [Act.put, List.setIfInBounds_toArray, List.set_cons_zero, List.set_cons_succ]
        refine take_at (i := 11) (v := ?_) (some 49) rfl (by kernel_rfl) (by kernel_rfl) (by kernel_rfl) (fun _ _ _ h => h) (by kernel_rfl) (Or.inl ⟨by kernel_rfl, ?_⟩) (by assumption) ?_
        rotate_left
        · (intro w hSw; (try dsimp only at hSw); go_simp <;> with_reducible rfl)
        simp only [Act.put, List.setIfInBounds_toArray, List.set_cons_zero, List.set_cons_succ]
        refine take_at (i := 12) (v := ?_) (some 50) rfl (by kernel_rfl) (by kernel_rfl) (by kernel_rfl) (fun _ _ _ h => h) (by kernel_rfl) (Or.inl ⟨by kernel_rfl, ?_⟩) (by assumption) ?_
        rotate_left
        · (intro w hSw; (try dsimp only at hSw); go_simp <;> with_reducible rfl)
        simp only [Act.put, List.setIfInBounds_toArray, List.set_cons_zero, List.set_cons_succ]
        refine take_at (i := 13) (v := ?_) (some 51) rfl (by kernel_rfl) (by kernel_rfl) (by kernel_rfl) (fun _ _ _ h => h) (by kernel_rfl) (Or.inl ⟨by kernel_rfl, ?_⟩) (by assumption) ?_
        rotate_left
        · (intro w hSw; (try dsimp only at hSw); go_simp <;> with_reducible rfl)
        simp only [Act.put, List.setIfInBounds_toArray, List.set_cons_zero, List.set_cons_succ]
        refine take_at (i := 16) (v := ?_) (some 54) rfl (by kernel_rfl) (by kernel_rfl) (by kernel_rfl) (fun _ _ _ h => h) (by kernel_rfl) (Or.inl ⟨by kernel_rfl, ?_⟩) (by assumption) ?_
        rotate_left
        · (intro w hSw; (try dsimp only at hSw); go_simp <;> with_reducible rfl)
        simp only [Act.put, List.setIfInBounds_toArray, List.set_cons_zero, List.set_cons_succ]
        refine take_at (i := 18) (v := ?_) (some 56) rfl (by kernel_rfl) (by kernel_rfl) (by kernel_rfl) (fun _ _ _ h => h) (by kernel_rfl) (Or.inl ⟨by kernel_rfl, ?_⟩) (by assumption) ?_
        rotate_left
        · (intro w hSw; (try dsimp only at hSw); go_simp <;> with_reducible rfl)
        simp only [Act.put, List.setIfInBounds_toArray, List.set_cons_zero, List.set_cons_succ]
        refine take_at (i := 19) (v := ?_) (some 57) rfl (by kernel_rfl) (by kernel_rfl) (by kernel_rfl) (fun _ _ _ h => h) (by kernel_rfl) (Or.inl ⟨by kernel_rfl, ?_⟩) (by assumption) ?_
        rotate_left
        · (intro w hSw; (try dsimp only at hSw); go_simp <;> with_reducible rfl)
        simp only [Act.put, List.setIfInBounds_toArray, List.set_cons_zero, List.set_cons_succ]
        refine wpAnyH_ready (rs := [4, 14]) (by kernel_rfl) (by simp) ?_
        refine AllReadyH.cons rfl (fun K hK => ?_) (AllReadyH.cons rfl (fun K hK => ?_) AllReadyH.nil)
        · go_simp
          have b4 : Below wr.heap.size wr (wr.alloc (.cells #[uv cum, uv win] 22)).drew := below_drew ((Below.refl _ _).alloc (Nat.le_refl _) _)
          have L1_4 : Lies (wr.alloc (.cells #[uv cum, uv win] 22)).drew (wr.alloc (.cells #[uv cum, uv win] 22)).drew.heap.size (some ⟨wr.heap.size, 0, none⟩) ([cum, win].map uv) := ((lies_new wr [cum, win]).below (below_drew (Below.refl _ _))).more (by show _ ≤ (wr.alloc _).heap.size; simp)
          have L3_4 := (hlb.below b4).more b4.size
          have L4_4 := (hld.below b4).more b4.size
          have R4 : Below (w.heap.size + 2) wr (wr.alloc (.cells #[uv cum, uv win] 22)).drew := (Below.refl (w.heap.size + 2) wr).trans (b4.mono hs0)
          have hs4 : w.heap.size + 2 ≤ (wr.alloc (.cells #[uv cum, uv win] 22)).drew.heap.size := Nat.le_trans hs0 b4.size
          generalize (wr.alloc (.cells #[uv cum, uv win] 22)).drew = w4 at *
          clear hHeld
          refine hK.out _ _ (KS2.out _ R4) (fun hHeld => ?_)
          clear hK K
          try simp only [Act.put, List.setIfInBounds_toArray, List.set_cons_zero, List.set_cons_succ]
          refine wpAnyH_ready (rs := [5, 14]) (by kernel_rfl) (by simp) ?_
          refine AllReadyH.cons rfl (fun K hK => ?_) (AllReadyH.cons rfl (fun K hK => ?_) AllReadyH.nil)
          · have hP4_5 : Calls Tryz.prog 47 #[.int .i64 4, .slice (some ⟨wr.heap.size, 0, none⟩) 2 2] w4 fun e w' => ∃ A' c', e = .returned (.slice A' 8 c') ∧ IsB w' w'.heap.size (.slice A' 8 c') (puts 4 [cum, win]) ∧ Below w4.heap.size w4 w' := by
              have h9 := sput_lies 4 (.inr (.inr rfl)) (some ⟨wr.heap.size, 0, none⟩) 2 [cum, win] (by simp) w4 L1_4 8 (by simp)
              skip
              exact h9
            go_simp
            go_at_call 47; (with_reducible refine hP4_5.mono ?_); rintro e w4_5 ⟨A1_4_5, c1_4_5, rfl, I1_4_5, b4_5⟩
            go_wp2_with fail
            have L3_4_5 := (L3_4.below b4_5).more b4_5.size
            have L4_4_5 := (L4_4.below b4_5).more b4_5.size
            have R4_5 : Below (w.heap.size + 2) wr w4_5 := R4.trans (b4_5.mono hs4)
            have hs4_5 : w.heap.size + 2 ≤ w4_5.heap.size := Nat.le_trans hs4 b4_5.size
            clear hP4_5
            clear hHeld
            refine hK.out _ _ (KS2.out _ R4_5) (fun hHeld => ?_)
            clear hK K
            try simp only [Act.put, List.setIfInBounds_toArray, List.set_cons_zero, List.set_cons_succ]
            refine wpAnyH_ready (rs := [14]) (by kernel_rfl) (by simp) ?_
            refine AllReadyH.cons rfl (fun K hK => ?_) AllReadyH.nil
            go_simp
            (try rw [HEG2.out, HED2.out])
            (try rw [HEG.out, HED.out])
            have b4_5_14 : Below w4_5.heap.size w4_5 (w4_5.alloc (.cells #[uv (u32of gs.length), uv (u32of ds.length)] 22)) := (Below.refl _ _).alloc (Nat.le_refl _) _
            have L2_4_5_14 : Lies (w4_5.alloc (.cells #[uv (u32of gs.length), uv (u32of ds.length)] 22)) (w4_5.alloc (.cells #[uv (u32of gs.length), uv (u32of ds.length)] 22)).heap.size (some ⟨w4_5.heap.size, 0, none⟩) ([u32of gs.length, u32of ds.length].map uv) := (lies_new w4_5 [u32of gs.length, u32of ds.length]).more (by simp)
            have L3_4_5_14 := (L3_4_5.below b4_5_14).more b4_5_14.size
            have L4_4_5_14 := (L4_4_5.below b4_5_14).more b4_5_14.size
            have I1_4_5_14 := I1_4_5.up13 b4_5_14
            have R4_5_14 : Below (w.heap.size + 2) wr (w4_5.alloc (.cells #[uv (u32of gs.length), uv (u32of ds.length)] 22)) := R4_5.trans (b4_5_14.mono hs4_5)
            have hs4_5_14 : w.heap.size + 2 ≤ (w4_5.alloc (.cells #[uv (u32of gs.length), uv (u32of ds.length)] 22)).heap.size := Nat.le_trans hs4_5 b4_5_14.size
            generalize (w4_5.alloc (.cells #[uv (u32of gs.length), uv (u32of ds.length)] 22)) = w4_5_14 at *
            clear hHeld
            refine hK.out _ _ (KS2.out _ R4_5_14) (fun hHeld => ?_)
            clear hK K
            try simp only [Act.put, List.setIfInBounds_toArray, List.set_cons_zero, List.set_cons_succ]
            refine wpAnyH_ready (rs := [15]) (by kernel_rfl) (by simp) ?_
            refine AllReadyH.cons rfl (fun K hK => ?_) AllReadyH.nil
            have hP4_5_14_15 : Calls Tryz.prog 47 #[.int .i64 2, .slice (some ⟨w4_5.heap.size, 0, none⟩) 2 2] w4_5_14 fun e w' => ∃ A' c', e = .returned (.slice A' 4 c') ∧ IsB w' w'.heap.size (.slice A' 4 c') (puts 2 [u32of gs.length, u32of ds.length]) ∧ Below w4_5_14.heap.size w4_5_14 w' := by
              have h9 := sput_lies 2 (.inr (.inl rfl)) (some ⟨w4_5.heap.size, 0, none⟩) 2 [u32of gs.length, u32of ds.length] (by simp) w4_5_14 L2_4_5_14 4 (by simp)
              skip
              exact h9
            go_simp
            go_at_call 47; (with_reducible refine hP4_5_14_15.mono ?_); rintro e w4_5_14_15 ⟨A2_4_5_14_15, c2_4_5_14_15, rfl, I2_4_5_14_15, b4_5_14_15⟩
            go_wp2_with fail
            have L3_4_5_14_15 := (L3_4_5_14.below b4_5_14_15).more b4_5_14_15.size
            have L4_4_5_14_15 := (L4_4_5_14.below b4_5_14_15).more b4_5_14_15.size
            have I1_4_5_14_15 := I1_4_5_14.up13 b4_5_14_15
            have R4_5_14_15 : Below (w.heap.size + 2) wr w4_5_14_15 := R4_5_14.trans (b4_5_14_15.mono hs4_5_14)
            have hs4_5_14_15 : w.heap.size + 2 ≤ w4_5_14_15.heap.size := Nat.le_trans hs4_5_14 b4_5_14_15.size
            clear hP4_5_14_15
            clear hHeld
            refine hK.out _ _ (KS2.out _ R4_5_14_15) (fun hHeld => ?_)
            clear hK K
            try simp only [Act.put, List.setIfInBounds_toArray, List.set_cons_zero, List.set_cons_succ]
            refine wpAnyH_ready (rs := [17]) (by kernel_rfl) (by simp) ?_
            refine AllReadyH.cons rfl (fun K hK => ?_) AllReadyH.nil
            have hP4_5_14_15_17 : Calls Tryz.prog 47 #[.int .i64 2, .slice Al (gs.length * 2) cl] w4_5_14_15 fun e w' => ∃ A' c', e = .returned (.slice A' (gs.length * 4) c') ∧ IsB w' w'.heap.size (.slice A' (gs.length * 4) c') (puts 2 bs) ∧ Below w4_5_14_15.heap.size w4_5_14_15 w' := by
              have h9 := sput_lies 2 (.inr (.inl rfl)) Al cl bs (by rw [HBl.out]; omega) w4_5_14_15 L3_4_5_14_15 (gs.length * 4) (by rw [HBl.out]; omega)
              rw [HBl.out] at h9
              exact h9
            go_simp
            go_at_call 47; (with_reducible refine hP4_5_14_15_17.mono ?_); rintro e w4_5_14_15_17 ⟨A3_4_5_14_15_17, c3_4_5_14_15_17, rfl, I3_4_5_14_15_17, b4_5_14_15_17⟩
            go_wp2_with fail
            have L4_4_5_14_15_17 := (L4_4_5_14_15.below b4_5_14_15_17).more b4_5_14_15_17.size
            have I1_4_5_14_15_17 := I1_4_5_14_15.up13 b4_5_14_15_17
            have I2_4_5_14_15_17 := I2_4_5_14_15.up13 b4_5_14_15_17
            have R4_5_14_15_17 : Below (w.heap.size + 2) wr w4_5_14_15_17 := R4_5_14_15.trans (b4_5_14_15_17.mono hs4_5_14_15)
            have hs4_5_14_15_17 : w.heap.size + 2 ≤ w4_5_14_15_17.heap.size := Nat.le_trans hs4_5_14_15 b4_5_14_15_17.size
            clear hP4_5_14_15_17
            clear hHeld
            refine hK.out _ _ (KS2.out _ R4_5_14_15_17) (fun hHeld => ?_)
            clear hK K
            try simp only [Act.put, List.setIfInBounds_toArray, List.set_cons_zero, List.set_cons_succ]
            refine wpAnyH_ready (rs := [20]) (by kernel_rfl) (by simp) ?_
            refine AllReadyH.cons rfl (fun K hK => ?_) AllReadyH.nil
            have hP4_5_14_15_17_20 : Calls Tryz.prog 47 #[.int .i64 4, .slice D ds.length dc] w4_5_14_15_17 fun e w' => ∃ A' c', e = .returned (.slice A' (ds.length * 4) c') ∧ IsB w' w'.heap.size (.slice A' (ds.length * 4) c') (puts 4 ds) ∧ Below w4_5_14_15_17.heap.size w4_5_14_15_17 w' := by
              have h9 := sput_lies 4 (.inr (.inr rfl)) D dc ds (by omega) w4_5_14_15_17 L4_4_5_14_15_17 (ds.length * 4) (by omega)
              skip
              exact h9
            go_simp
            go_at_call 47; (with_reducible refine hP4_5_14_15_17_20.mono ?_); rintro e w4_5_14_15_17_20 ⟨A4_4_5_14_15_17_20, c4_4_5_14_15_17_20, rfl, I4_4_5_14_15_17_20, b4_5_14_15_17_20⟩
            go_wp2_with fail
            have I1_4_5_14_15_17_20 := I1_4_5_14_15_17.up13 b4_5_14_15_17_20
            have I2_4_5_14_15_17_20 := I2_4_5_14_15_17.up13 b4_5_14_15_17_20
            have I3_4_5_14_15_17_20 := I3_4_5_14_15_17.up13 b4_5_14_15_17_20
            have R4_5_14_15_17_20 : Below (w.heap.size + 2) wr w4_5_14_15_17_20 := R4_5_14_15_17.trans (b4_5_14_15_17_20.mono hs4_5_14_15_17)
            have hs4_5_14_15_17_20 : w.heap.size + 2 ≤ w4_5_14_15_17_20.heap.size := Nat.le_trans hs4_5_14_15_17 b4_5_14_15_17_20.size
            clear hP4_5_14_15_17_20
            clear hHeld
            refine hK.out _ _ (KS2.out _ R4_5_14_15_17_20) (fun hHeld => ?_)
            clear hK K
            try simp only [Act.put, List.setIfInBounds_toArray, List.set_cons_zero, List.set_cons_succ]
            refine wpAnyH_ready (rs := [21]) (by kernel_rfl) (by simp) ?_
            refine AllReadyH.cons rfl (fun K hK => ?_) AllReadyH.nil
            go_simp
            clear hHeld
            refine hK.out _ _ (KS2.out _ (R4_5_14_15_17_20.alloc hs4_5_14_15_17_20 _)) (fun hHeld => ?_)
            clear hK K
            try simp only [Act.put, List.setIfInBounds_toArray, List.set_cons_zero, List.set_cons_succ]
            refine wpAnyH_ready (rs := [22]) (by kernel_rfl) (by simp) ?_
            refine AllReadyH.cons rfl (fun K hK => ?_) AllReadyH.nil
            have hJ : ∀ v1 v2 v3 v4, IsB w4_5_14_15_17_20 w4_5_14_15_17_20.heap.size v1 (puts 4 [cum, win]) → IsB w4_5_14_15_17_20 w4_5_14_15_17_20.heap.size v2 (puts 2 [u32of gs.length, u32of ds.length]) → IsB w4_5_14_15_17_20 w4_5_14_15_17_20.heap.size v3 (puts 2 bs) → IsB w4_5_14_15_17_20 w4_5_14_15_17_20.heap.size v4 (puts 4 ds) → Calls Tryz.prog 46 #[.slice (some ⟨w4_5_14_15_17_20.heap.size, 0, none⟩) 4 4] (w4_5_14_15_17_20.alloc (.cells #[v1, v2, v3, v4] 30)) fun e w' => ∃ A' c', e = .returned (.slice A' sb.length c') ∧ w'.ownsRow w4_5_14_15_17_20.heap.size 5 1 (.slice A' sb.length c') sb.length (sb.map bv) ∧ Below w4_5_14_15_17_20.heap.size w4_5_14_15_17_20 w' := fun v1 v2 v3 v4 h1 h2 h3 h4 => by
              have h9 := djoin_any v1 v2 v3 v4 _ _ _ _ w4_5_14_15_17_20 h1 h2 h3 h4 sb.length (by have h8 := congrArg List.length HSB.out; simp only [List.length_append] at h8; omega) (by have h8 := HSL.out; omega)
              rw [← HSB.out] at h9
              exact h9
            go_simp
            go_at_call 46; (with_reducible refine (hJ _ _ _ _ I1_4_5_14_15_17_20 I2_4_5_14_15_17_20 I3_4_5_14_15_17_20 I4_4_5_14_15_17_20).mono ?_); rintro e wz ⟨Az, cz, rfl, iz, bz⟩
            have Rz : Below (w.heap.size + 2) wr wz := R4_5_14_15_17_20.trans (bz.mono hs4_5_14_15_17_20)
            have hsz : w.heap.size + 2 ≤ w4_5_14_15_17_20.heap.size := hs4_5_14_15_17_20
            clear hJ
            go_wp2_with fail
            skip
            clear hHeld
            refine hK.out _ _ (KS2.out _ Rz) (fun hHeld => ?_)
            clear hK K
            try simp only [Act.put, List.setIfInBounds_toArray, List.set_cons_zero, List.set_cons_succ]
            refine take_at (i := 23) (v := ?_) (some 61) rfl (by kernel_rfl) (by kernel_rfl) (by kernel_rfl) (fun _ _ _ h => h) (by kernel_rfl) (Or.inl ⟨by kernel_rfl, ?_⟩) (by assumption) ?_
            rotate_left
            · (intro w hSw; (try dsimp only at hSw); go_simp <;> with_reducible rfl)
            simp only [Act.put, List.setIfInBounds_toArray, List.set_cons_zero, List.set_cons_succ]
            refine wpAnyH_ready (rs := [24]) (by kernel_rfl) (by simp) ?_
            refine AllReadyH.cons rfl (fun K hK => ?_) AllReadyH.nil
            have Rz2 := Rz
            obtain ⟨e0, e1, e2, e3⟩ := wh4 (YZ.out _ Rz)
            have f0 := (YZ.out _ Rz).frozen 0
            have f1 := (YZ.out _ Rz).frozen 1
            have f2 := (YZ.out _ Rz).frozen 2
            have f3 := (YZ.out _ Rz).frozen 3
            go_simp
            clear hHeld
            refine hK.out _ _ (KS.out _ (((((Rz.mono (Nat.le_succ (w.heap.size + 1))).setCell (Nat.le_refl _) _).setCell (Nat.le_refl _) _).setCell (Nat.le_refl _) _).setCell (Nat.le_refl _) _)) (fun hHeld => ?_)
            clear hK K
            try simp only [Act.put, List.setIfInBounds_toArray, List.set_cons_zero, List.set_cons_succ]
            refine take_at (i := 25) (v := ?_) (some 3) rfl (by kernel_rfl) (by kernel_rfl) (by kernel_rfl) (fun _ _ _ h => h) (by kernel_rfl) (Or.inl ⟨by kernel_rfl, ?_⟩) (by assumption) ?_
            rotate_left
            · (intro w hSw; (try dsimp only at hSw); go_simp <;> with_reducible rfl)
            simp only [Act.put, List.setIfInBounds_toArray, List.set_cons_zero, List.set_cons_succ]
            refine wpAnyH_done (by kernel_rfl) ?_ _
            go_wp2_with fail
            (try simp only [Exit.inBlock, Exit.then])
            refine bodyPost_ret (results_row_tmp rfl _ _ (w.heap.size + 1) 33 #[.int .u8 3, .int .u8 0, .slice Az sb.length cz, .slice none 0 0] _ rfl (((((YZ.out _ Rz).set_ 0 _).set_ 1 _).set_ 2 _).set_ 3 _) Tryz.underlying33 rfl (by kernel_rfl)) rfl ?_
            refine ⟨HBr.out.trans ((((((Rz.mono (Nat.le_succ (w.heap.size + 1))).setCell (p := ⟨w.heap.size + 1, 0, none⟩) (Nat.le_refl _) _).setCell (p := ⟨w.heap.size + 1, 1, none⟩) (Nat.le_refl _) _).setCell (p := ⟨w.heap.size + 1, 2, none⟩) (Nat.le_refl _) _).setCell (p := ⟨w.heap.size + 1, 3, none⟩) (Nat.le_refl _) _).mono (Nat.le_succ _)), ?_⟩
            have y9 := YZ.out _ Rz
            first | exact .inl ⟨trivial, Az, cz, by rw [HCV.out]; rfl, own_base (own_set13 (own_set13 (own_set13 (own_set13 iz y9 (by decide)) (y9.set_ 0 _) (by decide)) ((y9.set_ 0 _).set_ 1 _) (by decide)) (((y9.set_ 0 _).set_ 1 _).set_ 2 _) (by decide)) (Nat.le_trans (Nat.le_add_right _ _) hsz)⟩ | exact .inl ⟨Az, cz, by rw [HCV.out]; rfl, own_base (own_set13 (own_set13 (own_set13 (own_set13 iz y9 (by decide)) (y9.set_ 0 _) (by decide)) ((y9.set_ 0 _).set_ 1 _) (by decide)) (((y9.set_ 0 _).set_ 1 _).set_ 2 _) (by decide)) (Nat.le_trans (Nat.le_add_right _ _) hsz)⟩ | exact ⟨Az, cz, by rw [HCV.out]; rfl, own_base (own_set13 (own_set13 (own_set13 (own_set13 iz y9 (by decide)) (y9.set_ 0 _) (by decide)) ((y9.set_ 0 _).set_ 1 _) (by decide)) (((y9.set_ 0 _).set_ 1 _).set_ 2 _) (by decide)) (Nat.le_trans (Nat.le_add_right _ _) hsz)⟩
          · go_simp
            (try rw [HEG2.out, HED2.out])
            (try rw [HEG.out, HED.out])
            have b4_14 : Below w4.heap.size w4 (w4.alloc (.cells #[uv (u32of gs.length), uv (u32of ds.length)] 22)) := (Below.refl _ _).alloc (Nat.le_refl _) _
            have L2_4_14 : Lies (w4.alloc (.cells #[uv (u32of gs.length), uv (u32of ds.length)] 22)) (w4.alloc (.cells #[uv (u32of gs.length), uv (u32of ds.length)] 22)).heap.size (some ⟨w4.heap.size, 0, none⟩) ([u32of gs.length, u32of ds.length].map uv) := (lies_new w4 [u32of gs.length, u32of ds.length]).more (by simp)
            have L1_4_14 := (L1_4.below b4_14).more b4_14.size
            have L3_4_14 := (L3_4.below b4_14).more b4_14.size
            have L4_4_14 := (L4_4.below b4_14).more b4_14.size
            have R4_14 : Below (w.heap.size + 2) wr (w4.alloc (.cells #[uv (u32of gs.length), uv (u32of ds.length)] 22)) := R4.trans (b4_14.mono hs4)
            have hs4_14 : w.heap.size + 2 ≤ (w4.alloc (.cells #[uv (u32of gs.length), uv (u32of ds.length)] 22)).heap.size := Nat.le_trans hs4 b4_14.size
            generalize (w4.alloc (.cells #[uv (u32of gs.length), uv (u32of ds.length)] 22)) = w4_14 at *
            clear hHeld
            refine hK.out _ _ (KS2.out _ R4_14) (fun hHeld => ?_)
            clear hK K
            try simp only [Act.put, List.setIfInBounds_toArray, List.set_cons_zero, List.set_cons_succ]
            refine wpAnyH_ready (rs := [5]) (by kernel_rfl) (by simp) ?_
            refine AllReadyH.cons rfl (fun K hK => ?_) AllReadyH.nil
            have hP4_14_5 : Calls Tryz.prog 47 #[.int .i64 4, .slice (some ⟨wr.heap.size, 0, none⟩) 2 2] w4_14 fun e w' => ∃ A' c', e = .returned (.slice A' 8 c') ∧ IsB w' w'.heap.size (.slice A' 8 c') (puts 4 [cum, win]) ∧ Below w4_14.heap.size w4_14 w' := by
              have h9 := sput_lies 4 (.inr (.inr rfl)) (some ⟨wr.heap.size, 0, none⟩) 2 [cum, win] (by simp) w4_14 L1_4_14 8 (by simp)
              skip
              exact h9
            go_simp
            go_at_call 47; (with_reducible refine hP4_14_5.mono ?_); rintro e w4_14_5 ⟨A1_4_14_5, c1_4_14_5, rfl, I1_4_14_5, b4_14_5⟩
            go_wp2_with fail
            have L2_4_14_5 := (L2_4_14.below b4_14_5).more b4_14_5.size
            have L3_4_14_5 := (L3_4_14.below b4_14_5).more b4_14_5.size
            have L4_4_14_5 := (L4_4_14.below b4_14_5).more b4_14_5.size
            have R4_14_5 : Below (w.heap.size + 2) wr w4_14_5 := R4_14.trans (b4_14_5.mono hs4_14)
            have hs4_14_5 : w.heap.size + 2 ≤ w4_14_5.heap.size := Nat.le_trans hs4_14 b4_14_5.size
            clear hP4_14_5
            clear hHeld
            refine hK.out _ _ (KS2.out _ R4_14_5) (fun hHeld => ?_)
            clear hK K
            try simp only [Act.put, List.setIfInBounds_toArray, List.set_cons_zero, List.set_cons_succ]
            refine wpAnyH_ready (rs := [15]) (by kernel_rfl) (by simp) ?_
            refine AllReadyH.cons rfl (fun K hK => ?_) AllReadyH.nil
            have hP4_14_5_15 : Calls Tryz.prog 47 #[.int .i64 2, .slice (some ⟨w4.heap.size, 0, none⟩) 2 2] w4_14_5 fun e w' => ∃ A' c', e = .returned (.slice A' 4 c') ∧ IsB w' w'.heap.size (.slice A' 4 c') (puts 2 [u32of gs.length, u32of ds.length]) ∧ Below w4_14_5.heap.size w4_14_5 w' := by
              have h9 := sput_lies 2 (.inr (.inl rfl)) (some ⟨w4.heap.size, 0, none⟩) 2 [u32of gs.length, u32of ds.length] (by simp) w4_14_5 L2_4_14_5 4 (by simp)
              skip
              exact h9
            go_simp
            go_at_call 47; (with_reducible refine hP4_14_5_15.mono ?_); rintro e w4_14_5_15 ⟨A2_4_14_5_15, c2_4_14_5_15, rfl, I2_4_14_5_15, b4_14_5_15⟩
            go_wp2_with fail
            have L3_4_14_5_15 := (L3_4_14_5.below b4_14_5_15).more b4_14_5_15.size
            have L4_4_14_5_15 := (L4_4_14_5.below b4_14_5_15).more b4_14_5_15.size
            have I1_4_14_5_15 := I1_4_14_5.up13 b4_14_5_15
            have R4_14_5_15 : Below (w.heap.size + 2) wr w4_14_5_15 := R4_14_5.trans (b4_14_5_15.mono hs4_14_5)
            have hs4_14_5_15 : w.heap.size + 2 ≤ w4_14_5_15.heap.size := Nat.le_trans hs4_14_5 b4_14_5_15.size
            clear hP4_14_5_15
            clear hHeld
            refine hK.out _ _ (KS2.out _ R4_14_5_15) (fun hHeld => ?_)
            clear hK K
            try simp only [Act.put, List.setIfInBounds_toArray, List.set_cons_zero, List.set_cons_succ]
            refine wpAnyH_ready (rs := [17]) (by kernel_rfl) (by simp) ?_
            refine AllReadyH.cons rfl (fun K hK => ?_) AllReadyH.nil
            have hP4_14_5_15_17 : Calls Tryz.prog 47 #[.int .i64 2, .slice Al (gs.length * 2) cl] w4_14_5_15 fun e w' => ∃ A' c', e = .returned (.slice A' (gs.length * 4) c') ∧ IsB w' w'.heap.size (.slice A' (gs.length * 4) c') (puts 2 bs) ∧ Below w4_14_5_15.heap.size w4_14_5_15 w' := by
              have h9 := sput_lies 2 (.inr (.inl rfl)) Al cl bs (by rw [HBl.out]; omega) w4_14_5_15 L3_4_14_5_15 (gs.length * 4) (by rw [HBl.out]; omega)
              rw [HBl.out] at h9
              exact h9
            go_simp
            go_at_call 47; (with_reducible refine hP4_14_5_15_17.mono ?_); rintro e w4_14_5_15_17 ⟨A3_4_14_5_15_17, c3_4_14_5_15_17, rfl, I3_4_14_5_15_17, b4_14_5_15_17⟩
            go_wp2_with fail
            have L4_4_14_5_15_17 := (L4_4_14_5_15.below b4_14_5_15_17).more b4_14_5_15_17.size
            have I1_4_14_5_15_17 := I1_4_14_5_15.up13 b4_14_5_15_17
            have I2_4_14_5_15_17 := I2_4_14_5_15.up13 b4_14_5_15_17
            have R4_14_5_15_17 : Below (w.heap.size + 2) wr w4_14_5_15_17 := R4_14_5_15.trans (b4_14_5_15_17.mono hs4_14_5_15)
            have hs4_14_5_15_17 : w.heap.size + 2 ≤ w4_14_5_15_17.heap.size := Nat.le_trans hs4_14_5_15 b4_14_5_15_17.size
            clear hP4_14_5_15_17
            clear hHeld
            refine hK.out _ _ (KS2.out _ R4_14_5_15_17) (fun hHeld => ?_)
            clear hK K
            try simp only [Act.put, List.setIfInBounds_toArray, List.set_cons_zero, List.set_cons_succ]
            refine wpAnyH_ready (rs := [20]) (by kernel_rfl) (by simp) ?_
            refine AllReadyH.cons rfl (fun K hK => ?_) AllReadyH.nil
            have hP4_14_5_15_17_20 : Calls Tryz.prog 47 #[.int .i64 4, .slice D ds.length dc] w4_14_5_15_17 fun e w' => ∃ A' c', e = .returned (.slice A' (ds.length * 4) c') ∧ IsB w' w'.heap.size (.slice A' (ds.length * 4) c') (puts 4 ds) ∧ Below w4_14_5_15_17.heap.size w4_14_5_15_17 w' := by
              have h9 := sput_lies 4 (.inr (.inr rfl)) D dc ds (by omega) w4_14_5_15_17 L4_4_14_5_15_17 (ds.length * 4) (by omega)
              skip
              exact h9
            go_simp
            go_at_call 47; (with_reducible refine hP4_14_5_15_17_20.mono ?_); rintro e w4_14_5_15_17_20 ⟨A4_4_14_5_15_17_20, c4_4_14_5_15_17_20, rfl, I4_4_14_5_15_17_20, b4_14_5_15_17_20⟩
            go_wp2_with fail
            have I1_4_14_5_15_17_20 := I1_4_14_5_15_17.up13 b4_14_5_15_17_20
            have I2_4_14_5_15_17_20 := I2_4_14_5_15_17.up13 b4_14_5_15_17_20
            have I3_4_14_5_15_17_20 := I3_4_14_5_15_17.up13 b4_14_5_15_17_20
            have R4_14_5_15_17_20 : Below (w.heap.size + 2) wr w4_14_5_15_17_20 := R4_14_5_15_17.trans (b4_14_5_15_17_20.mono hs4_14_5_15_17)
            have hs4_14_5_15_17_20 : w.heap.size + 2 ≤ w4_14_5_15_17_20.heap.size := Nat.le_trans hs4_14_5_15_17 b4_14_5_15_17_20.size
            clear hP4_14_5_15_17_20
            clear hHeld
            refine hK.out _ _ (KS2.out _ R4_14_5_15_17_20) (fun hHeld => ?_)
            clear hK K
            try simp only [Act.put, List.setIfInBounds_toArray, List.set_cons_zero, List.set_cons_succ]
            refine wpAnyH_ready (rs := [21]) (by kernel_rfl) (by simp) ?_
            refine AllReadyH.cons rfl (fun K hK => ?_) AllReadyH.nil
            go_simp
            clear hHeld
            refine hK.out _ _ (KS2.out _ (R4_14_5_15_17_20.alloc hs4_14_5_15_17_20 _)) (fun hHeld => ?_)
            clear hK K
            try simp only [Act.put, List.setIfInBounds_toArray, List.set_cons_zero, List.set_cons_succ]
            refine wpAnyH_ready (rs := [22]) (by kernel_rfl) (by simp) ?_
            refine AllReadyH.cons rfl (fun K hK => ?_) AllReadyH.nil
            have hJ : ∀ v1 v2 v3 v4, IsB w4_14_5_15_17_20 w4_14_5_15_17_20.heap.size v1 (puts 4 [cum, win]) → IsB w4_14_5_15_17_20 w4_14_5_15_17_20.heap.size v2 (puts 2 [u32of gs.length, u32of ds.length]) → IsB w4_14_5_15_17_20 w4_14_5_15_17_20.heap.size v3 (puts 2 bs) → IsB w4_14_5_15_17_20 w4_14_5_15_17_20.heap.size v4 (puts 4 ds) → Calls Tryz.prog 46 #[.slice (some ⟨w4_14_5_15_17_20.heap.size, 0, none⟩) 4 4] (w4_14_5_15_17_20.alloc (.cells #[v1, v2, v3, v4] 30)) fun e w' => ∃ A' c', e = .returned (.slice A' sb.length c') ∧ w'.ownsRow w4_14_5_15_17_20.heap.size 5 1 (.slice A' sb.length c') sb.length (sb.map bv) ∧ Below w4_14_5_15_17_20.heap.size w4_14_5_15_17_20 w' := fun v1 v2 v3 v4 h1 h2 h3 h4 => by
              have h9 := djoin_any v1 v2 v3 v4 _ _ _ _ w4_14_5_15_17_20 h1 h2 h3 h4 sb.length (by have h8 := congrArg List.length HSB.out; simp only [List.length_append] at h8; omega) (by have h8 := HSL.out; omega)
              rw [← HSB.out] at h9
              exact h9
            go_simp
            go_at_call 46; (with_reducible refine (hJ _ _ _ _ I1_4_14_5_15_17_20 I2_4_14_5_15_17_20 I3_4_14_5_15_17_20 I4_4_14_5_15_17_20).mono ?_); rintro e wz ⟨Az, cz, rfl, iz, bz⟩
            have Rz : Below (w.heap.size + 2) wr wz := R4_14_5_15_17_20.trans (bz.mono hs4_14_5_15_17_20)
            have hsz : w.heap.size + 2 ≤ w4_14_5_15_17_20.heap.size := hs4_14_5_15_17_20
            clear hJ
            go_wp2_with fail
            skip
            clear hHeld
            refine hK.out _ _ (KS2.out _ Rz) (fun hHeld => ?_)
            clear hK K
            try simp only [Act.put, List.setIfInBounds_toArray, List.set_cons_zero, List.set_cons_succ]
            refine take_at (i := 23) (v := ?_) (some 61) rfl (by kernel_rfl) (by kernel_rfl) (by kernel_rfl) (fun _ _ _ h => h) (by kernel_rfl) (Or.inl ⟨by kernel_rfl, ?_⟩) (by assumption) ?_
            rotate_left
            · (intro w hSw; (try dsimp only at hSw); go_simp <;> with_reducible rfl)
            simp only [Act.put, List.setIfInBounds_toArray, List.set_cons_zero, List.set_cons_succ]
            refine wpAnyH_ready (rs := [24]) (by kernel_rfl) (by simp) ?_
            refine AllReadyH.cons rfl (fun K hK => ?_) AllReadyH.nil
            have Rz2 := Rz
            obtain ⟨e0, e1, e2, e3⟩ := wh4 (YZ.out _ Rz)
            have f0 := (YZ.out _ Rz).frozen 0
            have f1 := (YZ.out _ Rz).frozen 1
            have f2 := (YZ.out _ Rz).frozen 2
            have f3 := (YZ.out _ Rz).frozen 3
            go_simp
            clear hHeld
            refine hK.out _ _ (KS.out _ (((((Rz.mono (Nat.le_succ (w.heap.size + 1))).setCell (Nat.le_refl _) _).setCell (Nat.le_refl _) _).setCell (Nat.le_refl _) _).setCell (Nat.le_refl _) _)) (fun hHeld => ?_)
            clear hK K
            try simp only [Act.put, List.setIfInBounds_toArray, List.set_cons_zero, List.set_cons_succ]
            refine take_at (i := 25) (v := ?_) (some 3) rfl (by kernel_rfl) (by kernel_rfl) (by kernel_rfl) (fun _ _ _ h => h) (by kernel_rfl) (Or.inl ⟨by kernel_rfl, ?_⟩) (by assumption) ?_
            rotate_left
            · (intro w hSw; (try dsimp only at hSw); go_simp <;> with_reducible rfl)
            simp only [Act.put, List.setIfInBounds_toArray, List.set_cons_zero, List.set_cons_succ]
            refine wpAnyH_done (by kernel_rfl) ?_ _
            go_wp2_with fail
            (try simp only [Exit.inBlock, Exit.then])
            refine bodyPost_ret (results_row_tmp rfl _ _ (w.heap.size + 1) 33 #[.int .u8 3, .int .u8 0, .slice Az sb.length cz, .slice none 0 0] _ rfl (((((YZ.out _ Rz).set_ 0 _).set_ 1 _).set_ 2 _).set_ 3 _) Tryz.underlying33 rfl (by kernel_rfl)) rfl ?_
            refine ⟨HBr.out.trans ((((((Rz.mono (Nat.le_succ (w.heap.size + 1))).setCell (p := ⟨w.heap.size + 1, 0, none⟩) (Nat.le_refl _) _).setCell (p := ⟨w.heap.size + 1, 1, none⟩) (Nat.le_refl _) _).setCell (p := ⟨w.heap.size + 1, 2, none⟩) (Nat.le_refl _) _).setCell (p := ⟨w.heap.size + 1, 3, none⟩) (Nat.le_refl _) _).mono (Nat.le_succ _)), ?_⟩
            have y9 := YZ.out _ Rz
            first | exact .inl ⟨trivial, Az, cz, by rw [HCV.out]; rfl, own_base (own_set13 (own_set13 (own_set13 (own_set13 iz y9 (by decide)) (y9.set_ 0 _) (by decide)) ((y9.set_ 0 _).set_ 1 _) (by decide)) (((y9.set_ 0 _).set_ 1 _).set_ 2 _) (by decide)) (Nat.le_trans (Nat.le_add_right _ _) hsz)⟩ | exact .inl ⟨Az, cz, by rw [HCV.out]; rfl, own_base (own_set13 (own_set13 (own_set13 (own_set13 iz y9 (by decide)) (y9.set_ 0 _) (by decide)) ((y9.set_ 0 _).set_ 1 _) (by decide)) (((y9.set_ 0 _).set_ 1 _).set_ 2 _) (by decide)) (Nat.le_trans (Nat.le_add_right _ _) hsz)⟩ | exact ⟨Az, cz, by rw [HCV.out]; rfl, own_base (own_set13 (own_set13 (own_set13 (own_set13 iz y9 (by decide)) (y9.set_ 0 _) (by decide)) ((y9.set_ 0 _).set_ 1 _) (by decide)) (((y9.set_ 0 _).set_ 1 _).set_ 2 _) (by decide)) (Nat.le_trans (Nat.le_add_right _ _) hsz)⟩
        · go_simp
          (try rw [HEG2.out, HED2.out])
          (try rw [HEG.out, HED.out])
          have b14 : Below wr.heap.size wr (wr.alloc (.cells #[uv (u32of gs.length), uv (u32of ds.length)] 22)).drew := below_drew ((Below.refl _ _).alloc (Nat.le_refl _) _)
          have L2_14 : Lies (wr.alloc (.cells #[uv (u32of gs.length), uv (u32of ds.length)] 22)).drew (wr.alloc (.cells #[uv (u32of gs.length), uv (u32of ds.length)] 22)).drew.heap.size (some ⟨wr.heap.size, 0, none⟩) ([u32of gs.length, u32of ds.length].map uv) := ((lies_new wr [u32of gs.length, u32of ds.length]).below (below_drew (Below.refl _ _))).more (by show _ ≤ (wr.alloc _).heap.size; simp)
          have L3_14 := (hlb.below b14).more b14.size
          have L4_14 := (hld.below b14).more b14.size
          have R14 : Below (w.heap.size + 2) wr (wr.alloc (.cells #[uv (u32of gs.length), uv (u32of ds.length)] 22)).drew := (Below.refl (w.heap.size + 2) wr).trans (b14.mono hs0)
          have hs14 : w.heap.size + 2 ≤ (wr.alloc (.cells #[uv (u32of gs.length), uv (u32of ds.length)] 22)).drew.heap.size := Nat.le_trans hs0 b14.size
          generalize (wr.alloc (.cells #[uv (u32of gs.length), uv (u32of ds.length)] 22)).drew = w14 at *
          clear hHeld
          refine hK.out _ _ (KS2.out _ R14) (fun hHeld => ?_)
          clear hK K
          try simp only [Act.put, List.setIfInBounds_toArray, List.set_cons_zero, List.set_cons_succ]
          refine wpAnyH_ready (rs := [4]) (by kernel_rfl) (by simp) ?_
          refine AllReadyH.cons rfl (fun K hK => ?_) AllReadyH.nil
          go_simp
          have b14_4 : Below w14.heap.size w14 (w14.alloc (.cells #[uv cum, uv win] 22)) := (Below.refl _ _).alloc (Nat.le_refl _) _
          have L1_14_4 : Lies (w14.alloc (.cells #[uv cum, uv win] 22)) (w14.alloc (.cells #[uv cum, uv win] 22)).heap.size (some ⟨w14.heap.size, 0, none⟩) ([cum, win].map uv) := (lies_new w14 [cum, win]).more (by simp)
          have L2_14_4 := (L2_14.below b14_4).more b14_4.size
          have L3_14_4 := (L3_14.below b14_4).more b14_4.size
          have L4_14_4 := (L4_14.below b14_4).more b14_4.size
          have R14_4 : Below (w.heap.size + 2) wr (w14.alloc (.cells #[uv cum, uv win] 22)) := R14.trans (b14_4.mono hs14)
          have hs14_4 : w.heap.size + 2 ≤ (w14.alloc (.cells #[uv cum, uv win] 22)).heap.size := Nat.le_trans hs14 b14_4.size
          generalize (w14.alloc (.cells #[uv cum, uv win] 22)) = w14_4 at *
          clear hHeld
          refine hK.out _ _ (KS2.out _ R14_4) (fun hHeld => ?_)
          clear hK K
          try simp only [Act.put, List.setIfInBounds_toArray, List.set_cons_zero, List.set_cons_succ]
          refine wpAnyH_ready (rs := [5]) (by kernel_rfl) (by simp) ?_
          refine AllReadyH.cons rfl (fun K hK => ?_) AllReadyH.nil
          have hP14_4_5 : Calls Tryz.prog 47 #[.int .i64 4, .slice (some ⟨w14.heap.size, 0, none⟩) 2 2] w14_4 fun e w' => ∃ A' c', e = .returned (.slice A' 8 c') ∧ IsB w' w'.heap.size (.slice A' 8 c') (puts 4 [cum, win]) ∧ Below w14_4.heap.size w14_4 w' := by
            have h9 := sput_lies 4 (.inr (.inr rfl)) (some ⟨w14.heap.size, 0, none⟩) 2 [cum, win] (by simp) w14_4 L1_14_4 8 (by simp)
            skip
            exact h9
          go_simp
          go_at_call 47; (with_reducible refine hP14_4_5.mono ?_); rintro e w14_4_5 ⟨A1_14_4_5, c1_14_4_5, rfl, I1_14_4_5, b14_4_5⟩
          go_wp2_with fail
          have L2_14_4_5 := (L2_14_4.below b14_4_5).more b14_4_5.size
          have L3_14_4_5 := (L3_14_4.below b14_4_5).more b14_4_5.size
          have L4_14_4_5 := (L4_14_4.below b14_4_5).more b14_4_5.size
          have R14_4_5 : Below (w.heap.size + 2) wr w14_4_5 := R14_4.trans (b14_4_5.mono hs14_4)
          have hs14_4_5 : w.heap.size + 2 ≤ w14_4_5.heap.size := Nat.le_trans hs14_4 b14_4_5.size
          clear hP14_4_5
          clear hHeld
          refine hK.out _ _ (KS2.out _ R14_4_5) (fun hHeld => ?_)
          clear hK K
          try simp only [Act.put, List.setIfInBounds_toArray, List.set_cons_zero, List.set_cons_succ]
          refine wpAnyH_ready (rs := [15]) (by kernel_rfl) (by simp) ?_
          refine AllReadyH.cons rfl (fun K hK => ?_) AllReadyH.nil
          have hP14_4_5_15 : Calls Tryz.prog 47 #[.int .i64 2, .slice (some ⟨wr.heap.size, 0, none⟩) 2 2] w14_4_5 fun e w' => ∃ A' c', e = .returned (.slice A' 4 c') ∧ IsB w' w'.heap.size (.slice A' 4 c') (puts 2 [u32of gs.length, u32of ds.length]) ∧ Below w14_4_5.heap.size w14_4_5 w' := by
            have h9 := sput_lies 2 (.inr (.inl rfl)) (some ⟨wr.heap.size, 0, none⟩) 2 [u32of gs.length, u32of ds.length] (by simp) w14_4_5 L2_14_4_5 4 (by simp)
            skip
            exact h9
          go_simp
          go_at_call 47; (with_reducible refine hP14_4_5_15.mono ?_); rintro e w14_4_5_15 ⟨A2_14_4_5_15, c2_14_4_5_15, rfl, I2_14_4_5_15, b14_4_5_15⟩
          go_wp2_with fail
          have L3_14_4_5_15 := (L3_14_4_5.below b14_4_5_15).more b14_4_5_15.size
          have L4_14_4_5_15 := (L4_14_4_5.below b14_4_5_15).more b14_4_5_15.size
          have I1_14_4_5_15 := I1_14_4_5.up13 b14_4_5_15
          have R14_4_5_15 : Below (w.heap.size + 2) wr w14_4_5_15 := R14_4_5.trans (b14_4_5_15.mono hs14_4_5)
          have hs14_4_5_15 : w.heap.size + 2 ≤ w14_4_5_15.heap.size := Nat.le_trans hs14_4_5 b14_4_5_15.size
          clear hP14_4_5_15
          clear hHeld
          refine hK.out _ _ (KS2.out _ R14_4_5_15) (fun hHeld => ?_)
          clear hK K
          try simp only [Act.put, List.setIfInBounds_toArray, List.set_cons_zero, List.set_cons_succ]
          refine wpAnyH_ready (rs := [17]) (by kernel_rfl) (by simp) ?_
          refine AllReadyH.cons rfl (fun K hK => ?_) AllReadyH.nil
          have hP14_4_5_15_17 : Calls Tryz.prog 47 #[.int .i64 2, .slice Al (gs.length * 2) cl] w14_4_5_15 fun e w' => ∃ A' c', e = .returned (.slice A' (gs.length * 4) c') ∧ IsB w' w'.heap.size (.slice A' (gs.length * 4) c') (puts 2 bs) ∧ Below w14_4_5_15.heap.size w14_4_5_15 w' := by
            have h9 := sput_lies 2 (.inr (.inl rfl)) Al cl bs (by rw [HBl.out]; omega) w14_4_5_15 L3_14_4_5_15 (gs.length * 4) (by rw [HBl.out]; omega)
            rw [HBl.out] at h9
            exact h9
          go_simp
          go_at_call 47; (with_reducible refine hP14_4_5_15_17.mono ?_); rintro e w14_4_5_15_17 ⟨A3_14_4_5_15_17, c3_14_4_5_15_17, rfl, I3_14_4_5_15_17, b14_4_5_15_17⟩
          go_wp2_with fail
          have L4_14_4_5_15_17 := (L4_14_4_5_15.below b14_4_5_15_17).more b14_4_5_15_17.size
          have I1_14_4_5_15_17 := I1_14_4_5_15.up13 b14_4_5_15_17
          have I2_14_4_5_15_17 := I2_14_4_5_15.up13 b14_4_5_15_17
          have R14_4_5_15_17 : Below (w.heap.size + 2) wr w14_4_5_15_17 := R14_4_5_15.trans (b14_4_5_15_17.mono hs14_4_5_15)
          have hs14_4_5_15_17 : w.heap.size + 2 ≤ w14_4_5_15_17.heap.size := Nat.le_trans hs14_4_5_15 b14_4_5_15_17.size
          clear hP14_4_5_15_17
          clear hHeld
          refine hK.out _ _ (KS2.out _ R14_4_5_15_17) (fun hHeld => ?_)
          clear hK K
          try simp only [Act.put, List.setIfInBounds_toArray, List.set_cons_zero, List.set_cons_succ]
          refine wpAnyH_ready (rs := [20]) (by kernel_rfl) (by simp) ?_
          refine AllReadyH.cons rfl (fun K hK => ?_) AllReadyH.nil
          have hP14_4_5_15_17_20 : Calls Tryz.prog 47 #[.int .i64 4, .slice D ds.length dc] w14_4_5_15_17 fun e w' => ∃ A' c', e = .returned (.slice A' (ds.length * 4) c') ∧ IsB w' w'.heap.size (.slice A' (ds.length * 4) c') (puts 4 ds) ∧ Below w14_4_5_15_17.heap.size w14_4_5_15_17 w' := by
            have h9 := sput_lies 4 (.inr (.inr rfl)) D dc ds (by omega) w14_4_5_15_17 L4_14_4_5_15_17 (ds.length * 4) (by omega)
            skip
            exact h9
          go_simp
          go_at_call 47; (with_reducible refine hP14_4_5_15_17_20.mono ?_); rintro e w14_4_5_15_17_20 ⟨A4_14_4_5_15_17_20, c4_14_4_5_15_17_20, rfl, I4_14_4_5_15_17_20, b14_4_5_15_17_20⟩
          go_wp2_with fail
          have I1_14_4_5_15_17_20 := I1_14_4_5_15_17.up13 b14_4_5_15_17_20
          have I2_14_4_5_15_17_20 := I2_14_4_5_15_17.up13 b14_4_5_15_17_20
          have I3_14_4_5_15_17_20 := I3_14_4_5_15_17.up13 b14_4_5_15_17_20
          have R14_4_5_15_17_20 : Below (w.heap.size + 2) wr w14_4_5_15_17_20 := R14_4_5_15_17.trans (b14_4_5_15_17_20.mono hs14_4_5_15_17)
          have hs14_4_5_15_17_20 : w.heap.size + 2 ≤ w14_4_5_15_17_20.heap.size := Nat.le_trans hs14_4_5_15_17 b14_4_5_15_17_20.size
          clear hP14_4_5_15_17_20
          clear hHeld
          refine hK.out _ _ (KS2.out _ R14_4_5_15_17_20) (fun hHeld => ?_)
          clear hK K
          try simp only [Act.put, List.setIfInBounds_toArray, List.set_cons_zero, List.set_cons_succ]
          refine wpAnyH_ready (rs := [21]) (by kernel_rfl) (by simp) ?_
          refine AllReadyH.cons rfl (fun K hK => ?_) AllReadyH.nil
          go_simp
          clear hHeld
          refine hK.out _ _ (KS2.out _ (R14_4_5_15_17_20.alloc hs14_4_5_15_17_20 _)) (fun hHeld => ?_)
          clear hK K
          try simp only [Act.put, List.setIfInBounds_toArray, List.set_cons_zero, List.set_cons_succ]
          refine wpAnyH_ready (rs := [22]) (by kernel_rfl) (by simp) ?_
          refine AllReadyH.cons rfl (fun K hK => ?_) AllReadyH.nil
          have hJ : ∀ v1 v2 v3 v4, IsB w14_4_5_15_17_20 w14_4_5_15_17_20.heap.size v1 (puts 4 [cum, win]) → IsB w14_4_5_15_17_20 w14_4_5_15_17_20.heap.size v2 (puts 2 [u32of gs.length, u32of ds.length]) → IsB w14_4_5_15_17_20 w14_4_5_15_17_20.heap.size v3 (puts 2 bs) → IsB w14_4_5_15_17_20 w14_4_5_15_17_20.heap.size v4 (puts 4 ds) → Calls Tryz.prog 46 #[.slice (some ⟨w14_4_5_15_17_20.heap.size, 0, none⟩) 4 4] (w14_4_5_15_17_20.alloc (.cells #[v1, v2, v3, v4] 30)) fun e w' => ∃ A' c', e = .returned (.slice A' sb.length c') ∧ w'.ownsRow w14_4_5_15_17_20.heap.size 5 1 (.slice A' sb.length c') sb.length (sb.map bv) ∧ Below w14_4_5_15_17_20.heap.size w14_4_5_15_17_20 w' := fun v1 v2 v3 v4 h1 h2 h3 h4 => by
            have h9 := djoin_any v1 v2 v3 v4 _ _ _ _ w14_4_5_15_17_20 h1 h2 h3 h4 sb.length (by have h8 := congrArg List.length HSB.out; simp only [List.length_append] at h8; omega) (by have h8 := HSL.out; omega)
            rw [← HSB.out] at h9
            exact h9
          go_simp
          go_at_call 46; (with_reducible refine (hJ _ _ _ _ I1_14_4_5_15_17_20 I2_14_4_5_15_17_20 I3_14_4_5_15_17_20 I4_14_4_5_15_17_20).mono ?_); rintro e wz ⟨Az, cz, rfl, iz, bz⟩
          have Rz : Below (w.heap.size + 2) wr wz := R14_4_5_15_17_20.trans (bz.mono hs14_4_5_15_17_20)
          have hsz : w.heap.size + 2 ≤ w14_4_5_15_17_20.heap.size := hs14_4_5_15_17_20
          clear hJ
          go_wp2_with fail
          skip
          clear hHeld
          refine hK.out _ _ (KS2.out _ Rz) (fun hHeld => ?_)
          clear hK K
          try simp only [Act.put, List.setIfInBounds_toArray, List.set_cons_zero, List.set_cons_succ]
          refine take_at (i := 23) (v := ?_) (some 61) rfl (by kernel_rfl) (by kernel_rfl) (by kernel_rfl) (fun _ _ _ h => h) (by kernel_rfl) (Or.inl ⟨by kernel_rfl, ?_⟩) (by assumption) ?_
          rotate_left
          · (intro w hSw; (try dsimp only at hSw); go_simp <;> with_reducible rfl)
          simp only [Act.put, List.setIfInBounds_toArray, List.set_cons_zero, List.set_cons_succ]
          refine wpAnyH_ready (rs := [24]) (by kernel_rfl) (by simp) ?_
          refine AllReadyH.cons rfl (fun K hK => ?_) AllReadyH.nil
          have Rz2 := Rz
          obtain ⟨e0, e1, e2, e3⟩ := wh4 (YZ.out _ Rz)
          have f0 := (YZ.out _ Rz).frozen 0
          have f1 := (YZ.out _ Rz).frozen 1
          have f2 := (YZ.out _ Rz).frozen 2
          have f3 := (YZ.out _ Rz).frozen 3
          go_simp
          clear hHeld
          refine hK.out _ _ (KS.out _ (((((Rz.mono (Nat.le_succ (w.heap.size + 1))).setCell (Nat.le_refl _) _).setCell (Nat.le_refl _) _).setCell (Nat.le_refl _) _).setCell (Nat.le_refl _) _)) (fun hHeld => ?_)
          clear hK K
          try simp only [Act.put, List.setIfInBounds_toArray, List.set_cons_zero, List.set_cons_succ]
          refine take_at (i := 25) (v := ?_) (some 3) rfl (by kernel_rfl) (by kernel_rfl) (by kernel_rfl) (fun _ _ _ h => h) (by kernel_rfl) (Or.inl ⟨by kernel_rfl, ?_⟩) (by assumption) ?_
          rotate_left
          · (intro w hSw; (try dsimp only at hSw); go_simp <;> with_reducible rfl)
          simp only [Act.put, List.setIfInBounds_toArray, List.set_cons_zero, List.set_cons_succ]
          refine wpAnyH_done (by kernel_rfl) ?_ _
          go_wp2_with fail
          (try simp only [Exit.inBlock, Exit.then])
          refine bodyPost_ret (results_row_tmp rfl _ _ (w.heap.size + 1) 33 #[.int .u8 3, .int .u8 0, .slice Az sb.length cz, .slice none 0 0] _ rfl (((((YZ.out _ Rz).set_ 0 _).set_ 1 _).set_ 2 _).set_ 3 _) Tryz.underlying33 rfl (by kernel_rfl)) rfl ?_
          refine ⟨HBr.out.trans ((((((Rz.mono (Nat.le_succ (w.heap.size + 1))).setCell (p := ⟨w.heap.size + 1, 0, none⟩) (Nat.le_refl _) _).setCell (p := ⟨w.heap.size + 1, 1, none⟩) (Nat.le_refl _) _).setCell (p := ⟨w.heap.size + 1, 2, none⟩) (Nat.le_refl _) _).setCell (p := ⟨w.heap.size + 1, 3, none⟩) (Nat.le_refl _) _).mono (Nat.le_succ _)), ?_⟩
          have y9 := YZ.out _ Rz
          first | exact .inl ⟨trivial, Az, cz, by rw [HCV.out]; rfl, own_base (own_set13 (own_set13 (own_set13 (own_set13 iz y9 (by decide)) (y9.set_ 0 _) (by decide)) ((y9.set_ 0 _).set_ 1 _) (by decide)) (((y9.set_ 0 _).set_ 1 _).set_ 2 _) (by decide)) (Nat.le_trans (Nat.le_add_right _ _) hsz)⟩ | exact .inl ⟨Az, cz, by rw [HCV.out]; rfl, own_base (own_set13 (own_set13 (own_set13 (own_set13 iz y9 (by decide)) (y9.set_ 0 _) (by decide)) ((y9.set_ 0 _).set_ 1 _) (by decide)) (((y9.set_ 0 _).set_ 1 _).set_ 2 _) (by decide)) (Nat.le_trans (Nat.le_add_right _ _) hsz)⟩ | exact ⟨Az, cz, by rw [HCV.out]; rfl, own_base (own_set13 (own_set13 (own_set13 (own_set13 iz y9 (by decide)) (y9.set_ 0 _) (by decide)) ((y9.set_ 0 _).set_ 1 _) (by decide)) (((y9.set_ 0 _).set_ 1 _).set_ 2 _) (by decide)) (Nat.le_trans (Nat.le_add_right _ _) hsz)⟩
end Go.Proofs.YtabljmiiekpgiaaGreatDoor


