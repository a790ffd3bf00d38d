/- Layer 16: skips as data, how they lie in memory; placeOf, sizeOf, Most. They write nothing that was there. -/
/- Layer 16: Compare (of the program). It writes nothing that was there. -/
/- Layer 16: haveChunk. It writes nothing that was there. -/
import Derived.Test.YtmohbkniekeafaaGreatDoorTSKJ
import Derived.Test.YtmohbkniekeafaaGreatDoorTNS
import Derived.BigGuard
import Derived.Deep.Cut
import Derived.Test.YtmohbkniekeafaaGreatDoorTNF
import Derived.Deep.RegionHeld3



namespace Go.Proofs.YtmohbkniekeafaaGreatDoor
open Go.RowKit

set_option linter.unusedSimpArgs false
structure Fs where
  st : UInt16
  un : Bool
  sq : UInt32
def fsFlat (l : List Fs) : List Value := l.flatMap fun s => [hv s.st, .bool s.un, uv s.sq]
abbrev fsCells (s : Fs) : Array Value := #[hv s.st, .bool s.un, uv s.sq]
abbrev fsV (s : Fs) : Value := .agg #[hv s.st, .bool s.un, uv s.sq]
structure FsL (w : World) (B : Nat) (A : Option Addr) (c : Nat) (l : List Fs) : Prop where
  lies : Lies w B A (fsFlat l)
  c1 : l.length ≤ c
  c2 : c ≤ maxLen
theorem fsFlat_len (l : List Fs) : (fsFlat l).length = l.length * 3 := by
  induction l with
  | nil => rfl
  | cons s l ih => simp only [fsFlat, List.flatMap_cons, List.length_append, List.length_cons, List.length_nil] at ih ⊢; omega
theorem fsFlat_snoc (l : List Fs) (s : Fs) : fsFlat (l ++ [s]) = fsFlat l ++ [hv s.st, .bool s.un, uv s.sq] := by simp [fsFlat]
theorem fsFlat_at {l : List Fs} : ∀ {k : Nat} {s : Fs}, l[k]? = some s → (fsFlat l)[k * 3]? = some (hv s.st) ∧ (fsFlat l)[k * 3 + 1]? = some (.bool s.un) ∧ (fsFlat l)[k * 3 + 2]? = some (uv s.sq) := by
  induction l with
  | nil => intro k s h; simp at h
  | cons x l ih =>
    intro k s h
    have e : fsFlat (x :: l) = hv x.st :: .bool x.un :: uv x.sq :: fsFlat l := rfl
    cases k with
    | zero =>
      simp only [List.getElem?_cons_zero, Option.some.injEq] at h
      subst h
      rw [e]
      exact ⟨rfl, rfl, rfl⟩
    | succ k =>
      have h2 := ih (k := k) (s := s) (by simpa using h)
      rw [e, show (k + 1) * 3 = k * 3 + 1 + 1 + 1 by omega, show k * 3 + 1 + 1 + 1 + 1 = (k * 3 + 1) + 1 + 1 + 1 by omega, show k * 3 + 1 + 1 + 1 + 2 = (k * 3 + 2) + 1 + 1 + 1 by omega]
      simpa using h2
section
variable {w w' : World} {B B' c : Nat} {A : Option Addr} {l : List Fs}
theorem FsL.below (h : FsL w B A c l) (hb : Below B w w') : FsL w' B A c l := ⟨h.lies.below hb, h.c1, h.c2⟩
theorem FsL.more (h : FsL w B A c l) (hB : B ≤ B') : FsL w B' A c l := ⟨h.lies.more hB, h.c1, h.c2⟩
theorem FsL.on (h : FsL w w.heap.size A c l) (hb : Below w.heap.size w w') : FsL w' w'.heap.size A c l := (h.below hb).more hb.size
theorem FsL.at_ (h : FsL w B A c l) {k : Nat} {s : Fs} (hs : l[k]? = some s) : ∃ ad, A = some ad ∧ ad.block < B ∧ w.cell? (ad.add (k * 3)) = some (hv s.st) ∧ w.cell? ⟨(ad.add (k * 3)).block, (ad.add (k * 3)).off + 1, none⟩ = some (.bool s.un) ∧ w.cell? ⟨(ad.add (k * 3)).block, (ad.add (k * 3)).off + 2, none⟩ = some (uv s.sq) := by
  have hlt := (List.getElem?_eq_some_iff.1 hs).1
  obtain ⟨ad, h1, h2, h3⟩ := h.lies (fun e => by
    have hl := fsFlat_len l
    rw [e, List.length_nil] at hl
    omega)
  obtain ⟨e1, e2, e3⟩ := fsFlat_at hs
  have h4 := h3 _ _ e2
  have h5 := h3 _ _ e3
  rw [← add_add', add_pos (by omega)] at h4 h5
  exact ⟨ad, h1, h2, h3 _ _ e1, h4, h5⟩
end
def unN (b : Bool) : UInt16 := if b then 1 else 0
theorem wh3 {w : World} {g : Nat} {t : TypeId} {a b c : Value} (h : Whole w g t #[a, b, c]) : w.cell? ⟨g, 0, none⟩ = some a ∧ w.cell? ⟨g, 1, none⟩ = some b ∧ w.cell? ⟨g, 2, none⟩ = some c := ⟨by rw [h.cell]; rfl, by rw [h.cell]; rfl, by rw [h.cell]; rfl⟩
theorem wh2 {w : World} {g : Nat} {t : TypeId} {a b : Value} (h : Whole w g t #[a, b]) : w.cell? ⟨g, 0, none⟩ = some a ∧ w.cell? ⟨g, 1, none⟩ = some b := ⟨by rw [h.cell]; rfl, by rw [h.cell]; rfl⟩
set_option maxRecDepth 100000 in
set_option maxHeartbeats 4000000 in
theorem place_any (s : Fs) (w : World) : Calls Tryz.prog 96 #[fsV s] w fun e w' => e = .returned (.agg #[hv s.st, hv (unN s.un)]) ∧ Below w.heap.size w w' := by
  have b0 : Below w.heap.size w ((w.alloc (.cells (fsCells s) 70)).alloc (.cells #[.int .u16 0, .int .u16 0] 140)) := ((Below.refl _ w).alloc (Nat.le_refl _) _).alloc (by simp) _
  have x0 := (Whole.new w 70 (fsCells s)).alloc (.cells #[.int .u16 0, .int .u16 0] 140)
  have y0 := Whole.new (w.alloc (.cells (fsCells s) 70)) 140 #[.int .u16 0, .int .u16 0]
  rw [World.size_alloc] at y0
  have hz : w.heap.size + 2 = ((w.alloc (.cells (fsCells s) 70)).alloc (.cells #[.int .u16 0, .int .u16 0] 140)).heap.size := by simp
  obtain ⟨st, un, sq⟩ := s
  simp only [fsV, fsCells] at *
  obtain ⟨q0, q1, q2⟩ := wh3 x0
  go_enter Tryz.func96, Tryz.ntmps96
  go_upto_region 1 with fail
  generalize (w.alloc (.cells #[hv st, .bool un, uv sq] 70)).alloc (.cells #[.int .u16 0, .int .u16 0] 140) = wa at *
  go_upto_region 2 with fail
  have b1 := b0.alloc b0.size (.cells #[hv st, .int .u16 0] 140)
  have x1 := x0.alloc (.cells #[hv st, .int .u16 0] 140)
  have y1 := y0.alloc (.cells #[hv st, .int .u16 0] 140)
  have z1 := Whole.new wa 140 #[hv st, .int .u16 0]
  rw [← hz] at z1 ⊢
  generalize wa.alloc (.cells #[hv st, .int .u16 0] 140) = wb at *
  clear q0 q1 q2 x0 y0 b0 hz
  obtain ⟨q0, q1, q2⟩ := wh3 x1
  obtain ⟨r0, r1⟩ := wh2 z1
  obtain ⟨t0, t1⟩ := wh2 y1
  have f0 := y1.frozen 0
  have f1 := y1.frozen 1
  have fz := z1.frozen 1
  cases un with
  | false =>
    go_wp2_with fail
    refine bodyPost_ret (results_row13 rfl _ _ (w.heap.size + 1) 140 _ _ rfl ((y1.set_ 0 _).set_ 1 _) Tryz.underlying140 rfl (by kernel_rfl)) rfl ?_
    exact ⟨rfl, (b1.setCell (p := ⟨w.heap.size + 1, 0, none⟩) (Nat.le_succ _) _).setCell (p := ⟨w.heap.size + 1, 1, none⟩) (Nat.le_succ _) _⟩
  | true =>
    go_upto_region 4 with fail
    have z2 := z1.set_ 1 (.int .u16 1)
    have y2 := y1.far (p := ⟨w.heap.size + 2, 1, none⟩) (by show w.heap.size + 1 ≠ w.heap.size + 2; omega) (.int .u16 1)
    have b2 := b1.setCell (p := ⟨w.heap.size + 2, 1, none⟩) (by show w.heap.size ≤ w.heap.size + 2; omega) (.int .u16 1)
    generalize wb.setCell ⟨w.heap.size + 2, 1, none⟩ (.int .u16 1) = wc at *
    clear q0 q1 q2 r0 r1 t0 t1 f0 f1 fz z1 y1 x1 b1
    obtain ⟨r0, r1⟩ := wh2 z2
    obtain ⟨t0, t1⟩ := wh2 y2
    have f0 := y2.frozen 0
    have f1 := y2.frozen 1
    go_wp2_with fail
    refine bodyPost_ret (results_row13 rfl _ _ (w.heap.size + 1) 140 _ _ rfl ((y2.set_ 0 _).set_ 1 _) Tryz.underlying140 rfl (by kernel_rfl)) rfl ?_
    exact ⟨rfl, (b2.setCell (p := ⟨w.heap.size + 1, 0, none⟩) (Nat.le_succ _) _).setCell (p := ⟨w.heap.size + 1, 1, none⟩) (Nat.le_succ _) _⟩
def unitN (b : Bool) : Nat := if b then 8 else 4
theorem sizeOf_any (b : Bool) (w : World) : Calls Tryz.prog 72 #[.bool b] w fun e w' => e = .returned (.int .i64 ((unitN b : Nat) : Int)) ∧ w = w' := by
  cases b
  all_goals
    go_enter Tryz.func72, Tryz.ntmps72
    go_wp2_with fail
    go_ret
    exact ⟨rfl, rfl⟩
def mostN (b : Bool) (n : Nat) : Nat := if n < 8 then 0 else (n - 8) / unitN b
theorem fmost_any (b : Bool) (n : Nat) (hn : n ≤ 1000000) (w : World) : Calls Tryz.prog 38 #[.bool b, .int .i64 (n : Int)] w fun e w' => e = .returned (.int .i64 ((mostN b n : Nat) : Int)) ∧ w = w' := by
  have hS := sizeOf_any b w
  by_cases h8 : n < 8
  · have hi : (n : Int) < 8 := by omega
    have e : mostN b n = 0 := by unfold mostN; rw [if_pos h8]
    rw [e]
    clear h8 e hS
    go_enter Tryz.func38, Tryz.ntmps38
    go_wp2_with fail
    go_ret
    exact ⟨rfl, rfl⟩
  · obtain ⟨m, rfl⟩ : ∃ m, n = m + 8 := ⟨n - 8, by omega⟩
    have hi : ¬ ((m + 8 : Nat) : Int) < 8 := by omega
    have e : mostN b (m + 8) = m / unitN b := by unfold mostN; rw [if_neg h8]; rfl
    have hu : unitN b = 4 ∨ unitN b = 8 := by cases b <;> simp [unitN]
    have hq : (((m / unitN b : Nat) : Int)) = (m : Int) / ((unitN b : Nat) : Int) := by simp
    have hq2 : (m : Int).tdiv ((unitN b : Nat) : Int) = (((m / unitN b : Nat) : Int)) := by rw [Int.tdiv_eq_ediv_of_nonneg (by omega)]; simp
    rw [e]
    have HQ := Lib.hid (And.intro hq hq2)
    clear h8 e hq hq2
    generalize unitN b = u at *
    have hu0 : (u : Int) ≠ 0 := by omega
    go_enter Tryz.func38, Tryz.ntmps38
    go_wp2_with fail
    refine hS.mono ?_
    rintro e w1 ⟨rfl, rfl⟩
    go_wp2_with fail
    go_ret
    refine ⟨?_, rfl⟩
    show Ending.returned (.int .i64 (((m : Int) + 8 - 4 - 4) / (u : Int))) = _
    rw [show (m : Int) + 8 - 4 - 4 = m by omega, HQ.out.1]
end Go.Proofs.YtmohbkniekeafaaGreatDoor






namespace Go.Proofs.YtmohbkniekeafaaGreatDoor
open Go.RowKit

set_option linter.unusedSimpArgs false
def cmp16 (a b : UInt16) : Int := if a.toNat < b.toNat then -1 else if b.toNat < a.toNat then 1 else 0
/-- how two skips are compared -/
def fcmp (a b : Fs) : Int := if cmp16 a.st b.st ≠ 0 then cmp16 a.st b.st else cmp16 (unN a.un) (unN b.un)
theorem nan16 (x : UInt16) (w : World) : Calls Tryz.prog 172 #[hv x] w fun e w' => e = .returned (.bool false) ∧ w' = w := by
  have h : ((x.toNat : Int) != (x.toNat : Int)) = false := by simp
  go_enter Tryz.func172, Tryz.ntmps172
  go_wp2_with fail
  go_ret
  exact ⟨rfl, rfl⟩
theorem cmp16_any (a b : UInt16) (w : World) : Calls Tryz.prog 143 #[hv a, hv b] w fun e w' => e = .returned (.int .i64 (cmp16 a b)) ∧ w' = w := by
  have HN := Lib.hid nan16
  by_cases h1 : a.toNat < b.toNat
  · have e : cmp16 a b = -1 := by unfold cmp16; rw [if_pos h1]
    rw [e]
    have hi : (a.toNat : Int) < (b.toNat : Int) := by omega
    clear h1 e
    go_enter Tryz.func143, Tryz.ntmps143
    go_wp2_with fail
    refine (HN.out _ _).mono ?_
    rintro e w1 ⟨rfl, rfl⟩
    go_wp2_with fail
    refine (HN.out _ _).mono ?_
    rintro e w1 ⟨rfl, rfl⟩
    go_wp2_with fail
    go_ret
    exact ⟨rfl, rfl⟩
  · by_cases h2 : b.toNat < a.toNat
    · have e : cmp16 a b = 1 := by unfold cmp16; rw [if_neg h1, if_pos h2]
      rw [e]
      have hi : ¬ (a.toNat : Int) < (b.toNat : Int) := by omega
      have hj : (b.toNat : Int) < (a.toNat : Int) := by omega
      clear h1 h2 e
      go_enter Tryz.func143, Tryz.ntmps143
      go_wp2_with fail
      refine (HN.out _ _).mono ?_
      rintro e w1 ⟨rfl, rfl⟩
      go_wp2_with fail
      refine (HN.out _ _).mono ?_
      rintro e w1 ⟨rfl, rfl⟩
      go_wp2_with fail
      go_ret
      exact ⟨rfl, rfl⟩
    · have e : cmp16 a b = 0 := by unfold cmp16; rw [if_neg h1, if_neg h2]
      rw [e]
      have hi : ¬ (a.toNat : Int) < (b.toNat : Int) := by omega
      have hj : ¬ (b.toNat : Int) < (a.toNat : Int) := by omega
      clear h1 h2 e
      go_enter Tryz.func143, Tryz.ntmps143
      go_wp2_with fail
      refine (HN.out _ _).mono ?_
      rintro e w1 ⟨rfl, rfl⟩
      go_wp2_with fail
      refine (HN.out _ _).mono ?_
      rintro e w1 ⟨rfl, rfl⟩
      go_wp2_with fail
      go_ret
      exact ⟨rfl, rfl⟩
set_option maxRecDepth 100000 in
set_option maxHeartbeats 4000000 in
theorem scmp16_any (a0 a1 b0 b1 : UInt16) (g h : Nat) (w : World) (hg : Whole w g 140 #[hv a0, hv a1]) (hh : Whole w h 140 #[hv b0, hv b1]) :
    Calls Tryz.prog 99 #[.slice (some ⟨g, 0, none⟩) 2 2, .slice (some ⟨h, 0, none⟩) 2 2] w fun e w' => e = .returned (.int .i64 (if cmp16 a0 b0 ≠ 0 then cmp16 a0 b0 else cmp16 a1 b1)) ∧ w' = w := by
  have HC := Lib.hid cmp16_any
  obtain ⟨p0, p1⟩ := wh2 hg
  obtain ⟨q0, q1⟩ := wh2 hh
  obtain ⟨r, hr⟩ : ∃ r, r = (if cmp16 a0 b0 ≠ 0 then cmp16 a0 b0 else cmp16 a1 b1) := ⟨_, rfl⟩
  rw [← hr]
  have HR := Lib.hid hr
  have H0 := Lib.hid (fun V => HC.out a0 b0 V)
  have H1 := Lib.hid (fun V => HC.out a1 b1 V)
  clear hr hg hh HC
  generalize cmp16 a0 b0 = x at *
  generalize cmp16 a1 b1 = y at *
  go_enter Tryz.func99, Tryz.ntmps99
  go_wp2_with fail
  go_loopw [11] (fun i wr => ∃ j : Nat, j ≤ 2 ∧ i = .int .i64 (j : Int) ∧ Hid (1 ≤ j → x = 0) ∧ Hid (2 ≤ j → y = 0) ∧ wr = w) (fun i _ => 2 - (intOf i).toNat)
  case atStart => exact ⟨0, Nat.zero_le _, rfl, Lib.hid (fun h => by omega), Lib.hid (fun h => by omega), rfl⟩
  case round =>
    obtain ⟨j, hj, rfl, hx, hy, rfl⟩ := hrel
    have hc : j = 0 ∨ j = 1 ∨ j = 2 := by omega
    rcases hc with rfl | rfl | rfl
    · by_cases hx0 : x = 0
      · have hb : (x != 0) = false := by rw [hx0]; rfl
        have HX0 := Lib.hid hx0
        clear hx0
        go_wp2_with fail
        refine (H0.out _).mono ?_
        rintro e w1 ⟨rfl, rfl⟩
        go_wp2_with fail
        go_roundw
        case rel => exact ⟨1, by omega, rfl, Lib.hid (fun _ => HX0.out), Lib.hid (fun h => by omega), by trivial⟩
        case measure => simp [intOf]
      · have hb : (x != 0) = true := by rw [bne_iff_ne]; exact hx0
        have HX0 := Lib.hid hx0
        clear hx0
        go_wp2_with fail
        refine (H0.out _).mono ?_
        rintro e w1 ⟨rfl, rfl⟩
        go_wp2_with fail
        go_ret
        exact ⟨by rw [HR.out, if_pos HX0.out]; rfl, rfl⟩
    · have HX0 := Lib.hid (hx.out (by omega))
      by_cases hy0 : y = 0
      · have hb : (y != 0) = false := by rw [hy0]; rfl
        have HY0 := Lib.hid hy0
        clear hy0
        go_wp2_with fail
        refine (H1.out _).mono ?_
        rintro e w1 ⟨rfl, rfl⟩
        go_wp2_with fail
        go_roundw
        case rel => exact ⟨2, by omega, rfl, Lib.hid (fun _ => HX0.out), Lib.hid (fun _ => HY0.out), by trivial⟩
        case measure => simp [intOf]
      · have hb : (y != 0) = true := by rw [bne_iff_ne]; exact hy0
        have HY0 := Lib.hid hy0
        clear hy0
        go_wp2_with fail
        refine (H1.out _).mono ?_
        rintro e w1 ⟨rfl, rfl⟩
        go_wp2_with fail
        go_ret
        exact ⟨by rw [HR.out, if_neg (by rw [HX0.out]; simp)]; rfl, rfl⟩
    · have HX0 := Lib.hid (hx.out (by omega))
      have HY0 := Lib.hid (hy.out (by omega))
      go_wp2_with fail
      go_ret
      exact ⟨by rw [HR.out, HX0.out, HY0.out]; rfl, rfl⟩
set_option maxRecDepth 100000 in
set_option maxHeartbeats 16000000 in
theorem fcmp_any (a b : Fs) (w : World) : Calls Tryz.prog 36 #[fsV a, fsV b] w fun e w' => e = .returned (.int .i64 (fcmp a b)) ∧ Below w.heap.size w w' := by
  have b0 : Below w.heap.size w ((w.alloc (.cells (fsCells a) 70)).alloc (.cells (fsCells b) 70)) := ((Below.refl _ w).alloc (Nat.le_refl _) _).alloc (by simp) _
  have x0 := (Whole.new w 70 (fsCells a)).alloc (.cells (fsCells b) 70)
  have y0 := Whole.new (w.alloc (.cells (fsCells a) 70)) 70 (fsCells b)
  rw [World.size_alloc] at y0
  have HPa := Lib.hid (place_any a)
  have HPb := Lib.hid (place_any b)
  have HF : Hid (fcmp a b = (if cmp16 a.st b.st ≠ 0 then cmp16 a.st b.st else cmp16 (unN a.un) (unN b.un))) := Lib.hid rfl
  generalize fcmp a b = r at *
  obtain ⟨sa, au, aq⟩ := a
  obtain ⟨sb, bu, bq⟩ := b
  simp only [fsV, fsCells] at *
  generalize unN au = pa at *
  generalize unN bu = pb at *
  have hsz : w.heap.size + 2 ≤ ((w.alloc (.cells #[hv sa, .bool au, uv aq] 70)).alloc (.cells #[hv sb, .bool bu, uv bq] 70)).heap.size := by simp
  go_enter Tryz.func36, Tryz.ntmps36
  go_upto_region 1 with fail
  generalize (w.alloc (.cells #[hv sa, .bool au, uv aq] 70)).alloc (.cells #[hv sb, .bool bu, uv bq] 70) = wa at *
  have KS : Hid (∀ V, Below wa.heap.size wa V → (V.cell? ⟨w.heap.size, 0, none⟩ = some (hv sa) ∧ V.cell? ⟨w.heap.size, 1, none⟩ = some (.bool au) ∧ V.cell? ⟨w.heap.size, 2, none⟩ = some (uv aq)) ∧ (V.cell? ⟨w.heap.size + 1, 0, none⟩ = some (hv sb) ∧ V.cell? ⟨w.heap.size + 1, 1, none⟩ = some (.bool bu) ∧ V.cell? ⟨w.heap.size + 1, 2, none⟩ = some (uv bq))) := Lib.hid (fun V hV => ⟨wh3 (x0.below hV x0.lt), wh3 (y0.below hV y0.lt)⟩)
  clear x0 y0
  refine cut_post (fun QQ => ∀ (u7 u9 : Value) (g5 g6 : Nat) (W : World), Whole W g5 140 #[hv sa, hv pa] → Whole W g6 140 #[hv sb, hv pb] → Below wa.heap.size wa W → QQ Exit.normal { tmps := #[.agg #[hv sa, .bool au, uv aq], .agg #[hv sb, .bool bu, uv bq], .pointer (some ⟨w.heap.size, 0, none⟩), .pointer (some ⟨w.heap.size + 1, 0, none⟩), .int .i64 0, .pointer (some ⟨g5, 0, none⟩), .pointer (some ⟨g6, 0, none⟩), u7, .agg #[hv sa, hv pa], u9, .agg #[hv sb, hv pb], undef, undef, undef], defers := [] } W) ?_ (fun hT => ?_)
  rotate_left
  · refine wp_region_held_drew (S := (fun V => (V.cell? ⟨w.heap.size, 0, none⟩ = some (hv sa) ∧ V.cell? ⟨w.heap.size, 1, none⟩ = some (.bool au) ∧ V.cell? ⟨w.heap.size, 2, none⟩ = some (uv aq)) ∧ (V.cell? ⟨w.heap.size + 1, 0, none⟩ = some (hv sb) ∧ V.cell? ⟨w.heap.size + 1, 1, none⟩ = some (.bool bu) ∧ V.cell? ⟨w.heap.size + 1, 2, none⟩ = some (uv bq)))) (by kernel_rfl) (KS.out _ (below_drew (Below.refl _ _))) (fun hHeld => ?_)
    refine take_at (i := 0) (v := ?_) (some 7) rfl (by kernel_rfl) (by kernel_rfl) (by kernel_rfl) (fun _ _ _ h => h) (by kernel_rfl) (Or.inl ⟨by kernel_rfl, ?_⟩) (by assumption) ?_
    rotate_left
    · (intro w hSw; (try dsimp only at hSw); go_simp <;> with_reducible rfl)
    simp only [Act.put, List.setIfInBounds_toArray, List.set_cons_zero, List.set_cons_succ]
    refine take_at (i := 2) (v := ?_) (some 9) rfl (by kernel_rfl) (by kernel_rfl) (by kernel_rfl) (fun _ _ _ h => h) (by kernel_rfl) (Or.inl ⟨by kernel_rfl, ?_⟩) (by assumption) ?_
    rotate_left
    · (intro w hSw; (try dsimp only at hSw); go_simp <;> with_reducible rfl)
    simp only [Act.put, List.setIfInBounds_toArray, List.set_cons_zero, List.set_cons_succ]
    refine wpAnyH_ready (rs := [1, 4, 5]) (by kernel_rfl) (by simp) ?_
    refine AllReadyH.cons rfl (fun K hK => ?_) (AllReadyH.cons rfl (fun K hK => ?_) (AllReadyH.cons rfl (fun K hK => ?_) AllReadyH.nil))
    · go_simp
      (with_reducible refine (HPa.out wa.drew).mono ?_); rintro e v1 ⟨rfl, b1⟩
      go_wp2_with fail
      have R1 : Below wa.heap.size wa v1 := (below_drew (Below.refl wa.heap.size wa)).trans (b1.mono (below_drew (Below.refl wa.heap.size wa)).size)
      clear hHeld
      refine hK.out _ _ (KS.out _ R1) (fun hHeld => ?_)
      clear hK K
      try simp only [Act.put, List.setIfInBounds_toArray, List.set_cons_zero, List.set_cons_succ]
      refine wpAnyH_ready (rs := [3, 4, 5]) (by kernel_rfl) (by simp) ?_
      refine AllReadyH.cons rfl (fun K hK => ?_) (AllReadyH.cons rfl (fun K hK => ?_) (AllReadyH.cons rfl (fun K hK => ?_) AllReadyH.nil))
      · go_simp
        (with_reducible refine (HPb.out v1).mono ?_); rintro e v2 ⟨rfl, b2⟩
        go_wp2_with fail
        have R2 : Below wa.heap.size wa v2 := R1.trans (b2.mono R1.size)
        clear hHeld
        refine hK.out _ _ (KS.out _ R2) (fun hHeld => ?_)
        clear hK K
        try simp only [Act.put, List.setIfInBounds_toArray, List.set_cons_zero, List.set_cons_succ]
        refine wpAnyH_ready (rs := [4, 5]) (by kernel_rfl) (by simp) ?_
        refine AllReadyH.cons rfl (fun K hK => ?_) (AllReadyH.cons rfl (fun K hK => ?_) AllReadyH.nil)
        · go_simp
          obtain ⟨g5, hg5⟩ : ∃ g5, g5 = v2.heap.size := ⟨_, rfl⟩
          have y5 : Whole (v2.alloc (.cells #[.int .u16 0, .int .u16 0] 140)) g5 140 #[.int .u16 0, .int .u16 0] := by rw [hg5]; exact Whole.new v2 140 #[.int .u16 0, .int .u16 0]
          have lg5 : wa.heap.size ≤ g5 := by rw [hg5]; exact R2.size
          have R3 : Below wa.heap.size wa (v2.alloc (.cells #[.int .u16 0, .int .u16 0] 140)) := R2.alloc R2.size _
          rw [← hg5]
          clear hg5
          generalize (v2.alloc (.cells #[.int .u16 0, .int .u16 0] 140)) = v3 at *
          clear hHeld
          refine hK.out _ _ (KS.out _ R3) (fun hHeld => ?_)
          clear hK K
          try simp only [Act.put, List.setIfInBounds_toArray, List.set_cons_zero, List.set_cons_succ]
          refine wpAnyH_ready (rs := [5]) (by kernel_rfl) (by simp) ?_
          refine AllReadyH.cons rfl (fun K hK => ?_) AllReadyH.nil
          go_simp
          obtain ⟨g6, hg6⟩ : ∃ g6, g6 = v3.heap.size := ⟨_, rfl⟩
          have y6 : Whole (v3.alloc (.cells #[.int .u16 0, .int .u16 0] 140)) g6 140 #[.int .u16 0, .int .u16 0] := by rw [hg6]; exact Whole.new v3 140 #[.int .u16 0, .int .u16 0]
          have lg6 : wa.heap.size ≤ g6 := by rw [hg6]; exact R3.size
          have R4 : Below wa.heap.size wa (v3.alloc (.cells #[.int .u16 0, .int .u16 0] 140)) := R3.alloc R3.size _
          have n56 : g6 ≠ g5 := by have := y5.lt; omega
          have y5 := y5.alloc (.cells #[.int .u16 0, .int .u16 0] 140)
          rw [← hg6]
          clear hg6
          generalize (v3.alloc (.cells #[.int .u16 0, .int .u16 0] 140)) = v4 at *
          clear hHeld
          refine hK.out _ _ (KS.out _ R4) (fun hHeld => ?_)
          clear hK K
          try simp only [Act.put, List.setIfInBounds_toArray, List.set_cons_zero, List.set_cons_succ]
          refine wpAnyH_ready (rs := [6]) (by kernel_rfl) (by simp) ?_
          refine AllReadyH.cons rfl (fun K hK => ?_) AllReadyH.nil
          have f50 := y5.frozen 0
          have f51 := y5.frozen 1
          obtain ⟨c50, c51⟩ := wh2 y5
          go_simp
          have z5 := (y5.set_ 0 (hv sa)).set_ 1 (hv pa)
          have n56' : g6 ≠ g5 := by omega
          have z6 := (y6.far (p := ⟨g5, 0, none⟩) n56' (hv sa)).far (p := ⟨g5, 1, none⟩) n56' (hv pa)
          have R5 := (R4.setCell (p := ⟨g5, 0, none⟩) lg5 (hv sa)).setCell (p := ⟨g5, 1, none⟩) lg5 (hv pa)
          generalize (v4.setCell ⟨g5, 0, none⟩ (hv sa)).setCell ⟨g5, 1, none⟩ (hv pa) = v5 at *
          clear f50 f51 c50 c51 y5 y6
          clear hHeld
          refine hK.out _ _ (KS.out _ R5) (fun hHeld => ?_)
          clear hK K
          try simp only [Act.put, List.setIfInBounds_toArray, List.set_cons_zero, List.set_cons_succ]
          refine wpAnyH_ready (rs := [7]) (by kernel_rfl) (by simp) ?_
          refine AllReadyH.cons rfl (fun K hK => ?_) AllReadyH.nil
          have f60 := z6.frozen 0
          have f61 := z6.frozen 1
          obtain ⟨c60, c61⟩ := wh2 z6
          go_simp
          have y6 := (z6.set_ 0 (hv sb)).set_ 1 (hv pb)
          have n65' : g5 ≠ g6 := by omega
          have y5 := (z5.far (p := ⟨g6, 0, none⟩) n65' (hv sb)).far (p := ⟨g6, 1, none⟩) n65' (hv pb)
          have R6 := (R5.setCell (p := ⟨g6, 0, none⟩) lg6 (hv sb)).setCell (p := ⟨g6, 1, none⟩) lg6 (hv pb)
          clear hHeld
          refine hK.out _ _ (KS.out _ R6) (fun hHeld => ?_)
          clear hK K
          try simp only [Act.put, List.setIfInBounds_toArray, List.set_cons_zero, List.set_cons_succ]
          refine wpAnyH_done (by kernel_rfl) ?_ _
          exact hT _ _ g5 g6 _ y5 y6 R6
        · go_simp
          obtain ⟨g6, hg6⟩ : ∃ g6, g6 = v2.heap.size := ⟨_, rfl⟩
          have y6 : Whole (v2.alloc (.cells #[.int .u16 0, .int .u16 0] 140)) g6 140 #[.int .u16 0, .int .u16 0] := by rw [hg6]; exact Whole.new v2 140 #[.int .u16 0, .int .u16 0]
          have lg6 : wa.heap.size ≤ g6 := by rw [hg6]; exact R2.size
          have R3 : Below wa.heap.size wa (v2.alloc (.cells #[.int .u16 0, .int .u16 0] 140)) := R2.alloc R2.size _
          rw [← hg6]
          clear hg6
          generalize (v2.alloc (.cells #[.int .u16 0, .int .u16 0] 140)) = v3 at *
          clear hHeld
          refine hK.out _ _ (KS.out _ R3) (fun hHeld => ?_)
          clear hK K
          try simp only [Act.put, List.setIfInBounds_toArray, List.set_cons_zero, List.set_cons_succ]
          refine wpAnyH_ready (rs := [4]) (by kernel_rfl) (by simp) ?_
          refine AllReadyH.cons rfl (fun K hK => ?_) AllReadyH.nil
          go_simp
          obtain ⟨g5, hg5⟩ : ∃ g5, g5 = v3.heap.size := ⟨_, rfl⟩
          have y5 : Whole (v3.alloc (.cells #[.int .u16 0, .int .u16 0] 140)) g5 140 #[.int .u16 0, .int .u16 0] := by rw [hg5]; exact Whole.new v3 140 #[.int .u16 0, .int .u16 0]
          have lg5 : wa.heap.size ≤ g5 := by rw [hg5]; exact R3.size
          have R4 : Below wa.heap.size wa (v3.alloc (.cells #[.int .u16 0, .int .u16 0] 140)) := R3.alloc R3.size _
          have n56 : g5 ≠ g6 := by have := y6.lt; omega
          have y6 := y6.alloc (.cells #[.int .u16 0, .int .u16 0] 140)
          rw [← hg5]
          clear hg5
          generalize (v3.alloc (.cells #[.int .u16 0, .int .u16 0] 140)) = v4 at *
          clear hHeld
          refine hK.out _ _ (KS.out _ R4) (fun hHeld => ?_)
          clear hK K
          try simp only [Act.put, List.setIfInBounds_toArray, List.set_cons_zero, List.set_cons_succ]
          refine wpAnyH_ready (rs := [6]) (by kernel_rfl) (by simp) ?_
          refine AllReadyH.cons rfl (fun K hK => ?_) AllReadyH.nil
          have f50 := y5.frozen 0
          have f51 := y5.frozen 1
          obtain ⟨c50, c51⟩ := wh2 y5
          go_simp
          have z5 := (y5.set_ 0 (hv sa)).set_ 1 (hv pa)
          have n56' : g6 ≠ g5 := by omega
          have z6 := (y6.far (p := ⟨g5, 0, none⟩) n56' (hv sa)).far (p := ⟨g5, 1, none⟩) n56' (hv pa)
          have R5 := (R4.setCell (p := ⟨g5, 0, none⟩) lg5 (hv sa)).setCell (p := ⟨g5, 1, none⟩) lg5 (hv pa)
          generalize (v4.setCell ⟨g5, 0, none⟩ (hv sa)).setCell ⟨g5, 1, none⟩ (hv pa) = v5 at *
          clear f50 f51 c50 c51 y5 y6
          clear hHeld
          refine hK.out _ _ (KS.out _ R5) (fun hHeld => ?_)
          clear hK K
          try simp only [Act.put, List.setIfInBounds_toArray, List.set_cons_zero, List.set_cons_succ]
          refine wpAnyH_ready (rs := [7]) (by kernel_rfl) (by simp) ?_
          refine AllReadyH.cons rfl (fun K hK => ?_) AllReadyH.nil
          have f60 := z6.frozen 0
          have f61 := z6.frozen 1
          obtain ⟨c60, c61⟩ := wh2 z6
          go_simp
          have y6 := (z6.set_ 0 (hv sb)).set_ 1 (hv pb)
          have n65' : g5 ≠ g6 := by omega
          have y5 := (z5.far (p := ⟨g6, 0, none⟩) n65' (hv sb)).far (p := ⟨g6, 1, none⟩) n65' (hv pb)
          have R6 := (R5.setCell (p := ⟨g6, 0, none⟩) lg6 (hv sb)).setCell (p := ⟨g6, 1, none⟩) lg6 (hv pb)
          clear hHeld
          refine hK.out _ _ (KS.out _ R6) (fun hHeld => ?_)
          clear hK K
          try simp only [Act.put, List.setIfInBounds_toArray, List.set_cons_zero, List.set_cons_succ]
          refine wpAnyH_done (by kernel_rfl) ?_ _
          exact hT _ _ g5 g6 _ y5 y6 R6
      · go_simp
        obtain ⟨g5, hg5⟩ : ∃ g5, g5 = v1.heap.size := ⟨_, rfl⟩
        have y5 : Whole (v1.alloc (.cells #[.int .u16 0, .int .u16 0] 140)) g5 140 #[.int .u16 0, .int .u16 0] := by rw [hg5]; exact Whole.new v1 140 #[.int .u16 0, .int .u16 0]
        have lg5 : wa.heap.size ≤ g5 := by rw [hg5]; exact R1.size
        have R2 : Below wa.heap.size wa (v1.alloc (.cells #[.int .u16 0, .int .u16 0] 140)) := R1.alloc R1.size _
        rw [← hg5]
        clear hg5
        generalize (v1.alloc (.cells #[.int .u16 0, .int .u16 0] 140)) = v2 at *
        clear hHeld
        refine hK.out _ _ (KS.out _ R2) (fun hHeld => ?_)
        clear hK K
        try simp only [Act.put, List.setIfInBounds_toArray, List.set_cons_zero, List.set_cons_succ]
        refine wpAnyH_ready (rs := [3, 5]) (by kernel_rfl) (by simp) ?_
        refine AllReadyH.cons rfl (fun K hK => ?_) (AllReadyH.cons rfl (fun K hK => ?_) AllReadyH.nil)
        · go_simp
          (with_reducible refine (HPb.out v2).mono ?_); rintro e v3 ⟨rfl, b3⟩
          go_wp2_with fail
          have R3 : Below wa.heap.size wa v3 := R2.trans (b3.mono R2.size)
          have y5 := y5.below b3 y5.lt
          clear hHeld
          refine hK.out _ _ (KS.out _ R3) (fun hHeld => ?_)
          clear hK K
          try simp only [Act.put, List.setIfInBounds_toArray, List.set_cons_zero, List.set_cons_succ]
          refine wpAnyH_ready (rs := [5]) (by kernel_rfl) (by simp) ?_
          refine AllReadyH.cons rfl (fun K hK => ?_) AllReadyH.nil
          go_simp
          obtain ⟨g6, hg6⟩ : ∃ g6, g6 = v3.heap.size := ⟨_, rfl⟩
          have y6 : Whole (v3.alloc (.cells #[.int .u16 0, .int .u16 0] 140)) g6 140 #[.int .u16 0, .int .u16 0] := by rw [hg6]; exact Whole.new v3 140 #[.int .u16 0, .int .u16 0]
          have lg6 : wa.heap.size ≤ g6 := by rw [hg6]; exact R3.size
          have R4 : Below wa.heap.size wa (v3.alloc (.cells #[.int .u16 0, .int .u16 0] 140)) := R3.alloc R3.size _
          have n56 : g6 ≠ g5 := by have := y5.lt; omega
          have y5 := y5.alloc (.cells #[.int .u16 0, .int .u16 0] 140)
          rw [← hg6]
          clear hg6
          generalize (v3.alloc (.cells #[.int .u16 0, .int .u16 0] 140)) = v4 at *
          clear hHeld
          refine hK.out _ _ (KS.out _ R4) (fun hHeld => ?_)
          clear hK K
          try simp only [Act.put, List.setIfInBounds_toArray, List.set_cons_zero, List.set_cons_succ]
          refine wpAnyH_ready (rs := [6]) (by kernel_rfl) (by simp) ?_
          refine AllReadyH.cons rfl (fun K hK => ?_) AllReadyH.nil
          have f50 := y5.frozen 0
          have f51 := y5.frozen 1
          obtain ⟨c50, c51⟩ := wh2 y5
          go_simp
          have z5 := (y5.set_ 0 (hv sa)).set_ 1 (hv pa)
          have n56' : g6 ≠ g5 := by omega
          have z6 := (y6.far (p := ⟨g5, 0, none⟩) n56' (hv sa)).far (p := ⟨g5, 1, none⟩) n56' (hv pa)
          have R5 := (R4.setCell (p := ⟨g5, 0, none⟩) lg5 (hv sa)).setCell (p := ⟨g5, 1, none⟩) lg5 (hv pa)
          generalize (v4.setCell ⟨g5, 0, none⟩ (hv sa)).setCell ⟨g5, 1, none⟩ (hv pa) = v5 at *
          clear f50 f51 c50 c51 y5 y6
          clear hHeld
          refine hK.out _ _ (KS.out _ R5) (fun hHeld => ?_)
          clear hK K
          try simp only [Act.put, List.setIfInBounds_toArray, List.set_cons_zero, List.set_cons_succ]
          refine wpAnyH_ready (rs := [7]) (by kernel_rfl) (by simp) ?_
          refine AllReadyH.cons rfl (fun K hK => ?_) AllReadyH.nil
          have f60 := z6.frozen 0
          have f61 := z6.frozen 1
          obtain ⟨c60, c61⟩ := wh2 z6
          go_simp
          have y6 := (z6.set_ 0 (hv sb)).set_ 1 (hv pb)
          have n65' : g5 ≠ g6 := by omega
          have y5 := (z5.far (p := ⟨g6, 0, none⟩) n65' (hv sb)).far (p := ⟨g6, 1, none⟩) n65' (hv pb)
          have R6 := (R5.setCell (p := ⟨g6, 0, none⟩) lg6 (hv sb)).setCell (p := ⟨g6, 1, none⟩) lg6 (hv pb)
          clear hHeld
          refine hK.out _ _ (KS.out _ R6) (fun hHeld => ?_)
          clear hK K
          try simp only [Act.put, List.setIfInBounds_toArray, List.set_cons_zero, List.set_cons_succ]
          refine wpAnyH_done (by kernel_rfl) ?_ _
          exact hT _ _ g5 g6 _ y5 y6 R6
        · go_simp
          obtain ⟨g6, hg6⟩ : ∃ g6, g6 = v2.heap.size := ⟨_, rfl⟩
          have y6 : Whole (v2.alloc (.cells #[.int .u16 0, .int .u16 0] 140)) g6 140 #[.int .u16 0, .int .u16 0] := by rw [hg6]; exact Whole.new v2 140 #[.int .u16 0, .int .u16 0]
          have lg6 : wa.heap.size ≤ g6 := by rw [hg6]; exact R2.size
          have R3 : Below wa.heap.size wa (v2.alloc (.cells #[.int .u16 0, .int .u16 0] 140)) := R2.alloc R2.size _
          have n56 : g6 ≠ g5 := by have := y5.lt; omega
          have y5 := y5.alloc (.cells #[.int .u16 0, .int .u16 0] 140)
          rw [← hg6]
          clear hg6
          generalize (v2.alloc (.cells #[.int .u16 0, .int .u16 0] 140)) = v3 at *
          clear hHeld
          refine hK.out _ _ (KS.out _ R3) (fun hHeld => ?_)
          clear hK K
          try simp only [Act.put, List.setIfInBounds_toArray, List.set_cons_zero, List.set_cons_succ]
          refine wpAnyH_ready (rs := [3]) (by kernel_rfl) (by simp) ?_
          refine AllReadyH.cons rfl (fun K hK => ?_) AllReadyH.nil
          go_simp
          (with_reducible refine (HPb.out v3).mono ?_); rintro e v4 ⟨rfl, b4⟩
          go_wp2_with fail
          have R4 : Below wa.heap.size wa v4 := R3.trans (b4.mono R3.size)
          have y5 := y5.below b4 y5.lt
          have y6 := y6.below b4 y6.lt
          clear hHeld
          refine hK.out _ _ (KS.out _ R4) (fun hHeld => ?_)
          clear hK K
          try simp only [Act.put, List.setIfInBounds_toArray, List.set_cons_zero, List.set_cons_succ]
          refine wpAnyH_ready (rs := [6]) (by kernel_rfl) (by simp) ?_
          refine AllReadyH.cons rfl (fun K hK => ?_) AllReadyH.nil
          have f50 := y5.frozen 0
          have f51 := y5.frozen 1
          obtain ⟨c50, c51⟩ := wh2 y5
          go_simp
          have z5 := (y5.set_ 0 (hv sa)).set_ 1 (hv pa)
          have n56' : g6 ≠ g5 := by omega
          have z6 := (y6.far (p := ⟨g5, 0, none⟩) n56' (hv sa)).far (p := ⟨g5, 1, none⟩) n56' (hv pa)
          have R5 := (R4.setCell (p := ⟨g5, 0, none⟩) lg5 (hv sa)).setCell (p := ⟨g5, 1, none⟩) lg5 (hv pa)
          generalize (v4.setCell ⟨g5, 0, none⟩ (hv sa)).setCell ⟨g5, 1, none⟩ (hv pa) = v5 at *
          clear f50 f51 c50 c51 y5 y6
          clear hHeld
          refine hK.out _ _ (KS.out _ R5) (fun hHeld => ?_)
          clear hK K
          try simp only [Act.put, List.setIfInBounds_toArray, List.set_cons_zero, List.set_cons_succ]
          refine wpAnyH_ready (rs := [7]) (by kernel_rfl) (by simp) ?_
          refine AllReadyH.cons rfl (fun K hK => ?_) AllReadyH.nil
          have f60 := z6.frozen 0
          have f61 := z6.frozen 1
          obtain ⟨c60, c61⟩ := wh2 z6
          go_simp
          have y6 := (z6.set_ 0 (hv sb)).set_ 1 (hv pb)
          have n65' : g5 ≠ g6 := by omega
          have y5 := (z5.far (p := ⟨g6, 0, none⟩) n65' (hv sb)).far (p := ⟨g6, 1, none⟩) n65' (hv pb)
          have R6 := (R5.setCell (p := ⟨g6, 0, none⟩) lg6 (hv sb)).setCell (p := ⟨g6, 1, none⟩) lg6 (hv pb)
          clear hHeld
          refine hK.out _ _ (KS.out _ R6) (fun hHeld => ?_)
          clear hK K
          try simp only [Act.put, List.setIfInBounds_toArray, List.set_cons_zero, List.set_cons_succ]
          refine wpAnyH_done (by kernel_rfl) ?_ _
          exact hT _ _ g5 g6 _ y5 y6 R6
      · go_simp
        obtain ⟨g6, hg6⟩ : ∃ g6, g6 = v1.heap.size := ⟨_, rfl⟩
        have y6 : Whole (v1.alloc (.cells #[.int .u16 0, .int .u16 0] 140)) g6 140 #[.int .u16 0, .int .u16 0] := by rw [hg6]; exact Whole.new v1 140 #[.int .u16 0, .int .u16 0]
        have lg6 : wa.heap.size ≤ g6 := by rw [hg6]; exact R1.size
        have R2 : Below wa.heap.size wa (v1.alloc (.cells #[.int .u16 0, .int .u16 0] 140)) := R1.alloc R1.size _
        rw [← hg6]
        clear hg6
        generalize (v1.alloc (.cells #[.int .u16 0, .int .u16 0] 140)) = v2 at *
        clear hHeld
        refine hK.out _ _ (KS.out _ R2) (fun hHeld => ?_)
        clear hK K
        try simp only [Act.put, List.setIfInBounds_toArray, List.set_cons_zero, List.set_cons_succ]
        refine wpAnyH_ready (rs := [3, 4]) (by kernel_rfl) (by simp) ?_
        refine AllReadyH.cons rfl (fun K hK => ?_) (AllReadyH.cons rfl (fun K hK => ?_) AllReadyH.nil)
        · go_simp
          (with_reducible refine (HPb.out v2).mono ?_); rintro e v3 ⟨rfl, b3⟩
          go_wp2_with fail
          have R3 : Below wa.heap.size wa v3 := R2.trans (b3.mono R2.size)
          have y6 := y6.below b3 y6.lt
          clear hHeld
          refine hK.out _ _ (KS.out _ R3) (fun hHeld => ?_)
          clear hK K
          try simp only [Act.put, List.setIfInBounds_toArray, List.set_cons_zero, List.set_cons_succ]
          refine wpAnyH_ready (rs := [4]) (by kernel_rfl) (by simp) ?_
          refine AllReadyH.cons rfl (fun K hK => ?_) AllReadyH.nil
          go_simp
          obtain ⟨g5, hg5⟩ : ∃ g5, g5 = v3.heap.size := ⟨_, rfl⟩
          have y5 : Whole (v3.alloc (.cells #[.int .u16 0, .int .u16 0] 140)) g5 140 #[.int .u16 0, .int .u16 0] := by rw [hg5]; exact Whole.new v3 140 #[.int .u16 0, .int .u16 0]
          have lg5 : wa.heap.size ≤ g5 := by rw [hg5]; exact R3.size
          have R4 : Below wa.heap.size wa (v3.alloc (.cells #[.int .u16 0, .int .u16 0] 140)) := R3.alloc R3.size _
          have n56 : g5 ≠ g6 := by have := y6.lt; omega
          have y6 := y6.alloc (.cells #[.int .u16 0, .int .u16 0] 140)
          rw [← hg5]
          clear hg5
          generalize (v3.alloc (.cells #[.int .u16 0, .int .u16 0] 140)) = v4 at *
          clear hHeld
          refine hK.out _ _ (KS.out _ R4) (fun hHeld => ?_)
          clear hK K
          try simp only [Act.put, List.setIfInBounds_toArray, List.set_cons_zero, List.set_cons_succ]
          refine wpAnyH_ready (rs := [6]) (by kernel_rfl) (by simp) ?_
          refine AllReadyH.cons rfl (fun K hK => ?_) AllReadyH.nil
          have f50 := y5.frozen 0
          have f51 := y5.frozen 1
          obtain ⟨c50, c51⟩ := wh2 y5
          go_simp
          have z5 := (y5.set_ 0 (hv sa)).set_ 1 (hv pa)
          have n56' : g6 ≠ g5 := by omega
          have z6 := (y6.far (p := ⟨g5, 0, none⟩) n56' (hv sa)).far (p := ⟨g5, 1, none⟩) n56' (hv pa)
          have R5 := (R4.setCell (p := ⟨g5, 0, none⟩) lg5 (hv sa)).setCell (p := ⟨g5, 1, none⟩) lg5 (hv pa)
          generalize (v4.setCell ⟨g5, 0, none⟩ (hv sa)).setCell ⟨g5, 1, none⟩ (hv pa) = v5 at *
          clear f50 f51 c50 c51 y5 y6
          clear hHeld
          refine hK.out _ _ (KS.out _ R5) (fun hHeld => ?_)
          clear hK K
          try simp only [Act.put, List.setIfInBounds_toArray, List.set_cons_zero, List.set_cons_succ]
          refine wpAnyH_ready (rs := [7]) (by kernel_rfl) (by simp) ?_
          refine AllReadyH.cons rfl (fun K hK => ?_) AllReadyH.nil
          have f60 := z6.frozen 0
          have f61 := z6.frozen 1
          obtain ⟨c60, c61⟩ := wh2 z6
          go_simp
          have y6 := (z6.set_ 0 (hv sb)).set_ 1 (hv pb)
          have n65' : g5 ≠ g6 := by omega
          have y5 := (z5.far (p := ⟨g6, 0, none⟩) n65' (hv sb)).far (p := ⟨g6, 1, none⟩) n65' (hv pb)
          have R6 := (R5.setCell (p := ⟨g6, 0, none⟩) lg6 (hv sb)).setCell (p := ⟨g6, 1, none⟩) lg6 (hv pb)
          clear hHeld
          refine hK.out _ _ (KS.out _ R6) (fun hHeld => ?_)
          clear hK K
          try simp only [Act.put, List.setIfInBounds_toArray, List.set_cons_zero, List.set_cons_succ]
          refine wpAnyH_done (by kernel_rfl) ?_ _
          exact hT _ _ g5 g6 _ y5 y6 R6
        · go_simp
          obtain ⟨g5, hg5⟩ : ∃ g5, g5 = v2.heap.size := ⟨_, rfl⟩
          have y5 : Whole (v2.alloc (.cells #[.int .u16 0, .int .u16 0] 140)) g5 140 #[.int .u16 0, .int .u16 0] := by rw [hg5]; exact Whole.new v2 140 #[.int .u16 0, .int .u16 0]
          have lg5 : wa.heap.size ≤ g5 := by rw [hg5]; exact R2.size
          have R3 : Below wa.heap.size wa (v2.alloc (.cells #[.int .u16 0, .int .u16 0] 140)) := R2.alloc R2.size _
          have n56 : g5 ≠ g6 := by have := y6.lt; omega
          have y6 := y6.alloc (.cells #[.int .u16 0, .int .u16 0] 140)
          rw [← hg5]
          clear hg5
          generalize (v2.alloc (.cells #[.int .u16 0, .int .u16 0] 140)) = v3 at *
          clear hHeld
          refine hK.out _ _ (KS.out _ R3) (fun hHeld => ?_)
          clear hK K
          try simp only [Act.put, List.setIfInBounds_toArray, List.set_cons_zero, List.set_cons_succ]
          refine wpAnyH_ready (rs := [3]) (by kernel_rfl) (by simp) ?_
          refine AllReadyH.cons rfl (fun K hK => ?_) AllReadyH.nil
          go_simp
          (with_reducible refine (HPb.out v3).mono ?_); rintro e v4 ⟨rfl, b4⟩
          go_wp2_with fail
          have R4 : Below wa.heap.size wa v4 := R3.trans (b4.mono R3.size)
          have y5 := y5.below b4 y5.lt
          have y6 := y6.below b4 y6.lt
          clear hHeld
          refine hK.out _ _ (KS.out _ R4) (fun hHeld => ?_)
          clear hK K
          try simp only [Act.put, List.setIfInBounds_toArray, List.set_cons_zero, List.set_cons_succ]
          refine wpAnyH_ready (rs := [6]) (by kernel_rfl) (by simp) ?_
          refine AllReadyH.cons rfl (fun K hK => ?_) AllReadyH.nil
          have f50 := y5.frozen 0
          have f51 := y5.frozen 1
          obtain ⟨c50, c51⟩ := wh2 y5
          go_simp
          have z5 := (y5.set_ 0 (hv sa)).set_ 1 (hv pa)
          have n56' : g6 ≠ g5 := by omega
          have z6 := (y6.far (p := ⟨g5, 0, none⟩) n56' (hv sa)).far (p := ⟨g5, 1, none⟩) n56' (hv pa)
          have R5 := (R4.setCell (p := ⟨g5, 0, none⟩) lg5 (hv sa)).setCell (p := ⟨g5, 1, none⟩) lg5 (hv pa)
          generalize (v4.setCell ⟨g5, 0, none⟩ (hv sa)).setCell ⟨g5, 1, none⟩ (hv pa) = v5 at *
          clear f50 f51 c50 c51 y5 y6
          clear hHeld
          refine hK.out _ _ (KS.out _ R5) (fun hHeld => ?_)
          clear hK K
          try simp only [Act.put, List.setIfInBounds_toArray, List.set_cons_zero, List.set_cons_succ]
          refine wpAnyH_ready (rs := [7]) (by kernel_rfl) (by simp) ?_
          refine AllReadyH.cons rfl (fun K hK => ?_) AllReadyH.nil
          have f60 := z6.frozen 0
          have f61 := z6.frozen 1
          obtain ⟨c60, c61⟩ := wh2 z6
          go_simp
          have y6 := (z6.set_ 0 (hv sb)).set_ 1 (hv pb)
          have n65' : g5 ≠ g6 := by omega
          have y5 := (z5.far (p := ⟨g6, 0, none⟩) n65' (hv sb)).far (p := ⟨g6, 1, none⟩) n65' (hv pb)
          have R6 := (R5.setCell (p := ⟨g6, 0, none⟩) lg6 (hv sb)).setCell (p := ⟨g6, 1, none⟩) lg6 (hv pb)
          clear hHeld
          refine hK.out _ _ (KS.out _ R6) (fun hHeld => ?_)
          clear hK K
          try simp only [Act.put, List.setIfInBounds_toArray, List.set_cons_zero, List.set_cons_succ]
          refine wpAnyH_done (by kernel_rfl) ?_ _
          exact hT _ _ g5 g6 _ y5 y6 R6
    · go_simp
      obtain ⟨g5, hg5⟩ : ∃ g5, g5 = wa.heap.size := ⟨_, rfl⟩
      have y5 : Whole (wa.alloc (.cells #[.int .u16 0, .int .u16 0] 140)).drew g5 140 #[.int .u16 0, .int .u16 0] := by rw [hg5]; exact Whole.drew (Whole.new wa 140 #[.int .u16 0, .int .u16 0])
      have lg5 : wa.heap.size ≤ g5 := by rw [hg5]; exact (Below.refl wa.heap.size wa).size
      have R1 : Below wa.heap.size wa (wa.alloc (.cells #[.int .u16 0, .int .u16 0] 140)).drew := below_drew ((Below.refl _ _).alloc (Nat.le_refl _) _)
      rw [← hg5]
      clear hg5
      generalize (wa.alloc (.cells #[.int .u16 0, .int .u16 0] 140)).drew = v1 at *
      clear hHeld
      refine hK.out _ _ (KS.out _ R1) (fun hHeld => ?_)
      clear hK K
      try simp only [Act.put, List.setIfInBounds_toArray, List.set_cons_zero, List.set_cons_succ]
      refine wpAnyH_ready (rs := [1, 5]) (by kernel_rfl) (by simp) ?_
      refine AllReadyH.cons rfl (fun K hK => ?_) (AllReadyH.cons rfl (fun K hK => ?_) AllReadyH.nil)
      · go_simp
        (with_reducible refine (HPa.out v1).mono ?_); rintro e v2 ⟨rfl, b2⟩
        go_wp2_with fail
        have R2 : Below wa.heap.size wa v2 := R1.trans (b2.mono R1.size)
        have y5 := y5.below b2 y5.lt
        clear hHeld
        refine hK.out _ _ (KS.out _ R2) (fun hHeld => ?_)
        clear hK K
        try simp only [Act.put, List.setIfInBounds_toArray, List.set_cons_zero, List.set_cons_succ]
        refine wpAnyH_ready (rs := [3, 5]) (by kernel_rfl) (by simp) ?_
        refine AllReadyH.cons rfl (fun K hK => ?_) (AllReadyH.cons rfl (fun K hK => ?_) AllReadyH.nil)
        · go_simp
          (with_reducible refine (HPb.out v2).mono ?_); rintro e v3 ⟨rfl, b3⟩
          go_wp2_with fail
          have R3 : Below wa.heap.size wa v3 := R2.trans (b3.mono R2.size)
          have y5 := y5.below b3 y5.lt
          clear hHeld
          refine hK.out _ _ (KS.out _ R3) (fun hHeld => ?_)
          clear hK K
          try simp only [Act.put, List.setIfInBounds_toArray, List.set_cons_zero, List.set_cons_succ]
          refine wpAnyH_ready (rs := [5]) (by kernel_rfl) (by simp) ?_
          refine AllReadyH.cons rfl (fun K hK => ?_) AllReadyH.nil
          go_simp
          obtain ⟨g6, hg6⟩ : ∃ g6, g6 = v3.heap.size := ⟨_, rfl⟩
          have y6 : Whole (v3.alloc (.cells #[.int .u16 0, .int .u16 0] 140)) g6 140 #[.int .u16 0, .int .u16 0] := by rw [hg6]; exact Whole.new v3 140 #[.int .u16 0, .int .u16 0]
          have lg6 : wa.heap.size ≤ g6 := by rw [hg6]; exact R3.size
          have R4 : Below wa.heap.size wa (v3.alloc (.cells #[.int .u16 0, .int .u16 0] 140)) := R3.alloc R3.size _
          have n56 : g6 ≠ g5 := by have := y5.lt; omega
          have y5 := y5.alloc (.cells #[.int .u16 0, .int .u16 0] 140)
          rw [← hg6]
          clear hg6
          generalize (v3.alloc (.cells #[.int .u16 0, .int .u16 0] 140)) = v4 at *
          clear hHeld
          refine hK.out _ _ (KS.out _ R4) (fun hHeld => ?_)
          clear hK K
          try simp only [Act.put, List.setIfInBounds_toArray, List.set_cons_zero, List.set_cons_succ]
          refine wpAnyH_ready (rs := [6]) (by kernel_rfl) (by simp) ?_
          refine AllReadyH.cons rfl (fun K hK => ?_) AllReadyH.nil
          have f50 := y5.frozen 0
          have f51 := y5.frozen 1
          obtain ⟨c50, c51⟩ := wh2 y5
          go_simp
          have z5 := (y5.set_ 0 (hv sa)).set_ 1 (hv pa)
          have n56' : g6 ≠ g5 := by omega
          have z6 := (y6.far (p := ⟨g5, 0, none⟩) n56' (hv sa)).far (p := ⟨g5, 1, none⟩) n56' (hv pa)
          have R5 := (R4.setCell (p := ⟨g5, 0, none⟩) lg5 (hv sa)).setCell (p := ⟨g5, 1, none⟩) lg5 (hv pa)
          generalize (v4.setCell ⟨g5, 0, none⟩ (hv sa)).setCell ⟨g5, 1, none⟩ (hv pa) = v5 at *
          clear f50 f51 c50 c51 y5 y6
          clear hHeld
          refine hK.out _ _ (KS.out _ R5) (fun hHeld => ?_)
          clear hK K
          try simp only [Act.put, List.setIfInBounds_toArray, List.set_cons_zero, List.set_cons_succ]
          refine wpAnyH_ready (rs := [7]) (by kernel_rfl) (by simp) ?_
          refine AllReadyH.cons rfl (fun K hK => ?_) AllReadyH.nil
          have f60 := z6.frozen 0
          have f61 := z6.frozen 1
          obtain ⟨c60, c61⟩ := wh2 z6
          go_simp
          have y6 := (z6.set_ 0 (hv sb)).set_ 1 (hv pb)
          have n65' : g5 ≠ g6 := by omega
          have y5 := (z5.far (p := ⟨g6, 0, none⟩) n65' (hv sb)).far (p := ⟨g6, 1, none⟩) n65' (hv pb)
          have R6 := (R5.setCell (p := ⟨g6, 0, none⟩) lg6 (hv sb)).setCell (p := ⟨g6, 1, none⟩) lg6 (hv pb)
          clear hHeld
          refine hK.out _ _ (KS.out _ R6) (fun hHeld => ?_)
          clear hK K
          try simp only [Act.put, List.setIfInBounds_toArray, List.set_cons_zero, List.set_cons_succ]
          refine wpAnyH_done (by kernel_rfl) ?_ _
          exact hT _ _ g5 g6 _ y5 y6 R6
        · go_simp
          obtain ⟨g6, hg6⟩ : ∃ g6, g6 = v2.heap.size := ⟨_, rfl⟩
          have y6 : Whole (v2.alloc (.cells #[.int .u16 0, .int .u16 0] 140)) g6 140 #[.int .u16 0, .int .u16 0] := by rw [hg6]; exact Whole.new v2 140 #[.int .u16 0, .int .u16 0]
          have lg6 : wa.heap.size ≤ g6 := by rw [hg6]; exact R2.size
          have R3 : Below wa.heap.size wa (v2.alloc (.cells #[.int .u16 0, .int .u16 0] 140)) := R2.alloc R2.size _
          have n56 : g6 ≠ g5 := by have := y5.lt; omega
          have y5 := y5.alloc (.cells #[.int .u16 0, .int .u16 0] 140)
          rw [← hg6]
          clear hg6
          generalize (v2.alloc (.cells #[.int .u16 0, .int .u16 0] 140)) = v3 at *
          clear hHeld
          refine hK.out _ _ (KS.out _ R3) (fun hHeld => ?_)
          clear hK K
          try simp only [Act.put, List.setIfInBounds_toArray, List.set_cons_zero, List.set_cons_succ]
          refine wpAnyH_ready (rs := [3]) (by kernel_rfl) (by simp) ?_
          refine AllReadyH.cons rfl (fun K hK => ?_) AllReadyH.nil
          go_simp
          (with_reducible refine (HPb.out v3).mono ?_); rintro e v4 ⟨rfl, b4⟩
          go_wp2_with fail
          have R4 : Below wa.heap.size wa v4 := R3.trans (b4.mono R3.size)
          have y5 := y5.below b4 y5.lt
          have y6 := y6.below b4 y6.lt
          clear hHeld
          refine hK.out _ _ (KS.out _ R4) (fun hHeld => ?_)
          clear hK K
          try simp only [Act.put, List.setIfInBounds_toArray, List.set_cons_zero, List.set_cons_succ]
          refine wpAnyH_ready (rs := [6]) (by kernel_rfl) (by simp) ?_
          refine AllReadyH.cons rfl (fun K hK => ?_) AllReadyH.nil
          have f50 := y5.frozen 0
          have f51 := y5.frozen 1
          obtain ⟨c50, c51⟩ := wh2 y5
          go_simp
          have z5 := (y5.set_ 0 (hv sa)).set_ 1 (hv pa)
          have n56' : g6 ≠ g5 := by omega
          have z6 := (y6.far (p := ⟨g5, 0, none⟩) n56' (hv sa)).far (p := ⟨g5, 1, none⟩) n56' (hv pa)
          have R5 := (R4.setCell (p := ⟨g5, 0, none⟩) lg5 (hv sa)).setCell (p := ⟨g5, 1, none⟩) lg5 (hv pa)
          generalize (v4.setCell ⟨g5, 0, none⟩ (hv sa)).setCell ⟨g5, 1, none⟩ (hv pa) = v5 at *
          clear f50 f51 c50 c51 y5 y6
          clear hHeld
          refine hK.out _ _ (KS.out _ R5) (fun hHeld => ?_)
          clear hK K
          try simp only [Act.put, List.setIfInBounds_toArray, List.set_cons_zero, List.set_cons_succ]
          refine wpAnyH_ready (rs := [7]) (by kernel_rfl) (by simp) ?_
          refine AllReadyH.cons rfl (fun K hK => ?_) AllReadyH.nil
          have f60 := z6.frozen 0
          have f61 := z6.frozen 1
          obtain ⟨c60, c61⟩ := wh2 z6
          go_simp
          have y6 := (z6.set_ 0 (hv sb)).set_ 1 (hv pb)
          have n65' : g5 ≠ g6 := by omega
          have y5 := (z5.far (p := ⟨g6, 0, none⟩) n65' (hv sb)).far (p := ⟨g6, 1, none⟩) n65' (hv pb)
          have R6 := (R5.setCell (p := ⟨g6, 0, none⟩) lg6 (hv sb)).setCell (p := ⟨g6, 1, none⟩) lg6 (hv pb)
          clear hHeld
          refine hK.out _ _ (KS.out _ R6) (fun hHeld => ?_)
          clear hK K
          try simp only [Act.put, List.setIfInBounds_toArray, List.set_cons_zero, List.set_cons_succ]
          refine wpAnyH_done (by kernel_rfl) ?_ _
          exact hT _ _ g5 g6 _ y5 y6 R6
      · go_simp
        obtain ⟨g6, hg6⟩ : ∃ g6, g6 = v1.heap.size := ⟨_, rfl⟩
        have y6 : Whole (v1.alloc (.cells #[.int .u16 0, .int .u16 0] 140)) g6 140 #[.int .u16 0, .int .u16 0] := by rw [hg6]; exact Whole.new v1 140 #[.int .u16 0, .int .u16 0]
        have lg6 : wa.heap.size ≤ g6 := by rw [hg6]; exact R1.size
        have R2 : Below wa.heap.size wa (v1.alloc (.cells #[.int .u16 0, .int .u16 0] 140)) := R1.alloc R1.size _
        have n56 : g6 ≠ g5 := by have := y5.lt; omega
        have y5 := y5.alloc (.cells #[.int .u16 0, .int .u16 0] 140)
        rw [← hg6]
        clear hg6
        generalize (v1.alloc (.cells #[.int .u16 0, .int .u16 0] 140)) = v2 at *
        clear hHeld
        refine hK.out _ _ (KS.out _ R2) (fun hHeld => ?_)
        clear hK K
        try simp only [Act.put, List.setIfInBounds_toArray, List.set_cons_zero, List.set_cons_succ]
        refine wpAnyH_ready (rs := [1]) (by kernel_rfl) (by simp) ?_
        refine AllReadyH.cons rfl (fun K hK => ?_) AllReadyH.nil
        go_simp
        (with_reducible refine (HPa.out v2).mono ?_); rintro e v3 ⟨rfl, b3⟩
        go_wp2_with fail
        have R3 : Below wa.heap.size wa v3 := R2.trans (b3.mono R2.size)
        have y5 := y5.below b3 y5.lt
        have y6 := y6.below b3 y6.lt
        clear hHeld
        refine hK.out _ _ (KS.out _ R3) (fun hHeld => ?_)
        clear hK K
        try simp only [Act.put, List.setIfInBounds_toArray, List.set_cons_zero, List.set_cons_succ]
        refine wpAnyH_ready (rs := [3]) (by kernel_rfl) (by simp) ?_
        refine AllReadyH.cons rfl (fun K hK => ?_) AllReadyH.nil
        go_simp
        (with_reducible refine (HPb.out v3).mono ?_); rintro e v4 ⟨rfl, b4⟩
        go_wp2_with fail
        have R4 : Below wa.heap.size wa v4 := R3.trans (b4.mono R3.size)
        have y5 := y5.below b4 y5.lt
        have y6 := y6.below b4 y6.lt
        clear hHeld
        refine hK.out _ _ (KS.out _ R4) (fun hHeld => ?_)
        clear hK K
        try simp only [Act.put, List.setIfInBounds_toArray, List.set_cons_zero, List.set_cons_succ]
        refine wpAnyH_ready (rs := [6]) (by kernel_rfl) (by simp) ?_
        refine AllReadyH.cons rfl (fun K hK => ?_) AllReadyH.nil
        have f50 := y5.frozen 0
        have f51 := y5.frozen 1
        obtain ⟨c50, c51⟩ := wh2 y5
        go_simp
        have z5 := (y5.set_ 0 (hv sa)).set_ 1 (hv pa)
        have n56' : g6 ≠ g5 := by omega
        have z6 := (y6.far (p := ⟨g5, 0, none⟩) n56' (hv sa)).far (p := ⟨g5, 1, none⟩) n56' (hv pa)
        have R5 := (R4.setCell (p := ⟨g5, 0, none⟩) lg5 (hv sa)).setCell (p := ⟨g5, 1, none⟩) lg5 (hv pa)
        generalize (v4.setCell ⟨g5, 0, none⟩ (hv sa)).setCell ⟨g5, 1, none⟩ (hv pa) = v5 at *
        clear f50 f51 c50 c51 y5 y6
        clear hHeld
        refine hK.out _ _ (KS.out _ R5) (fun hHeld => ?_)
        clear hK K
        try simp only [Act.put, List.setIfInBounds_toArray, List.set_cons_zero, List.set_cons_succ]
        refine wpAnyH_ready (rs := [7]) (by kernel_rfl) (by simp) ?_
        refine AllReadyH.cons rfl (fun K hK => ?_) AllReadyH.nil
        have f60 := z6.frozen 0
        have f61 := z6.frozen 1
        obtain ⟨c60, c61⟩ := wh2 z6
        go_simp
        have y6 := (z6.set_ 0 (hv sb)).set_ 1 (hv pb)
        have n65' : g5 ≠ g6 := by omega
        have y5 := (z5.far (p := ⟨g6, 0, none⟩) n65' (hv sb)).far (p := ⟨g6, 1, none⟩) n65' (hv pb)
        have R6 := (R5.setCell (p := ⟨g6, 0, none⟩) lg6 (hv sb)).setCell (p := ⟨g6, 1, none⟩) lg6 (hv pb)
        clear hHeld
        refine hK.out _ _ (KS.out _ R6) (fun hHeld => ?_)
        clear hK K
        try simp only [Act.put, List.setIfInBounds_toArray, List.set_cons_zero, List.set_cons_succ]
        refine wpAnyH_done (by kernel_rfl) ?_ _
        exact hT _ _ g5 g6 _ y5 y6 R6
    · go_simp
      obtain ⟨g6, hg6⟩ : ∃ g6, g6 = wa.heap.size := ⟨_, rfl⟩
      have y6 : Whole (wa.alloc (.cells #[.int .u16 0, .int .u16 0] 140)).drew g6 140 #[.int .u16 0, .int .u16 0] := by rw [hg6]; exact Whole.drew (Whole.new wa 140 #[.int .u16 0, .int .u16 0])
      have lg6 : wa.heap.size ≤ g6 := by rw [hg6]; exact (Below.refl wa.heap.size wa).size
      have R1 : Below wa.heap.size wa (wa.alloc (.cells #[.int .u16 0, .int .u16 0] 140)).drew := below_drew ((Below.refl _ _).alloc (Nat.le_refl _) _)
      rw [← hg6]
      clear hg6
      generalize (wa.alloc (.cells #[.int .u16 0, .int .u16 0] 140)).drew = v1 at *
      clear hHeld
      refine hK.out _ _ (KS.out _ R1) (fun hHeld => ?_)
      clear hK K
      try simp only [Act.put, List.setIfInBounds_toArray, List.set_cons_zero, List.set_cons_succ]
      refine wpAnyH_ready (rs := [1, 4]) (by kernel_rfl) (by simp) ?_
      refine AllReadyH.cons rfl (fun K hK => ?_) (AllReadyH.cons rfl (fun K hK => ?_) AllReadyH.nil)
      · go_simp
        (with_reducible refine (HPa.out v1).mono ?_); rintro e v2 ⟨rfl, b2⟩
        go_wp2_with fail
        have R2 : Below wa.heap.size wa v2 := R1.trans (b2.mono R1.size)
        have y6 := y6.below b2 y6.lt
        clear hHeld
        refine hK.out _ _ (KS.out _ R2) (fun hHeld => ?_)
        clear hK K
        try simp only [Act.put, List.setIfInBounds_toArray, List.set_cons_zero, List.set_cons_succ]
        refine wpAnyH_ready (rs := [3, 4]) (by kernel_rfl) (by simp) ?_
        refine AllReadyH.cons rfl (fun K hK => ?_) (AllReadyH.cons rfl (fun K hK => ?_) AllReadyH.nil)
        · go_simp
          (with_reducible refine (HPb.out v2).mono ?_); rintro e v3 ⟨rfl, b3⟩
          go_wp2_with fail
          have R3 : Below wa.heap.size wa v3 := R2.trans (b3.mono R2.size)
          have y6 := y6.below b3 y6.lt
          clear hHeld
          refine hK.out _ _ (KS.out _ R3) (fun hHeld => ?_)
          clear hK K
          try simp only [Act.put, List.setIfInBounds_toArray, List.set_cons_zero, List.set_cons_succ]
          refine wpAnyH_ready (rs := [4]) (by kernel_rfl) (by simp) ?_
          refine AllReadyH.cons rfl (fun K hK => ?_) AllReadyH.nil
          go_simp
          obtain ⟨g5, hg5⟩ : ∃ g5, g5 = v3.heap.size := ⟨_, rfl⟩
          have y5 : Whole (v3.alloc (.cells #[.int .u16 0, .int .u16 0] 140)) g5 140 #[.int .u16 0, .int .u16 0] := by rw [hg5]; exact Whole.new v3 140 #[.int .u16 0, .int .u16 0]
          have lg5 : wa.heap.size ≤ g5 := by rw [hg5]; exact R3.size
          have R4 : Below wa.heap.size wa (v3.alloc (.cells #[.int .u16 0, .int .u16 0] 140)) := R3.alloc R3.size _
          have n56 : g5 ≠ g6 := by have := y6.lt; omega
          have y6 := y6.alloc (.cells #[.int .u16 0, .int .u16 0] 140)
          rw [← hg5]
          clear hg5
          generalize (v3.alloc (.cells #[.int .u16 0, .int .u16 0] 140)) = v4 at *
          clear hHeld
          refine hK.out _ _ (KS.out _ R4) (fun hHeld => ?_)
          clear hK K
          try simp only [Act.put, List.setIfInBounds_toArray, List.set_cons_zero, List.set_cons_succ]
          refine wpAnyH_ready (rs := [6]) (by kernel_rfl) (by simp) ?_
          refine AllReadyH.cons rfl (fun K hK => ?_) AllReadyH.nil
          have f50 := y5.frozen 0
          have f51 := y5.frozen 1
          obtain ⟨c50, c51⟩ := wh2 y5
          go_simp
          have z5 := (y5.set_ 0 (hv sa)).set_ 1 (hv pa)
          have n56' : g6 ≠ g5 := by omega
          have z6 := (y6.far (p := ⟨g5, 0, none⟩) n56' (hv sa)).far (p := ⟨g5, 1, none⟩) n56' (hv pa)
          have R5 := (R4.setCell (p := ⟨g5, 0, none⟩) lg5 (hv sa)).setCell (p := ⟨g5, 1, none⟩) lg5 (hv pa)
          generalize (v4.setCell ⟨g5, 0, none⟩ (hv sa)).setCell ⟨g5, 1, none⟩ (hv pa) = v5 at *
          clear f50 f51 c50 c51 y5 y6
          clear hHeld
          refine hK.out _ _ (KS.out _ R5) (fun hHeld => ?_)
          clear hK K
          try simp only [Act.put, List.setIfInBounds_toArray, List.set_cons_zero, List.set_cons_succ]
          refine wpAnyH_ready (rs := [7]) (by kernel_rfl) (by simp) ?_
          refine AllReadyH.cons rfl (fun K hK => ?_) AllReadyH.nil
          have f60 := z6.frozen 0
          have f61 := z6.frozen 1
          obtain ⟨c60, c61⟩ := wh2 z6
          go_simp
          have y6 := (z6.set_ 0 (hv sb)).set_ 1 (hv pb)
          have n65' : g5 ≠ g6 := by omega
          have y5 := (z5.far (p := ⟨g6, 0, none⟩) n65' (hv sb)).far (p := ⟨g6, 1, none⟩) n65' (hv pb)
          have R6 := (R5.setCell (p := ⟨g6, 0, none⟩) lg6 (hv sb)).setCell (p := ⟨g6, 1, none⟩) lg6 (hv pb)
          clear hHeld
          refine hK.out _ _ (KS.out _ R6) (fun hHeld => ?_)
          clear hK K
          try simp only [Act.put, List.setIfInBounds_toArray, List.set_cons_zero, List.set_cons_succ]
          refine wpAnyH_done (by kernel_rfl) ?_ _
          exact hT _ _ g5 g6 _ y5 y6 R6
        · go_simp
          obtain ⟨g5, hg5⟩ : ∃ g5, g5 = v2.heap.size := ⟨_, rfl⟩
          have y5 : Whole (v2.alloc (.cells #[.int .u16 0, .int .u16 0] 140)) g5 140 #[.int .u16 0, .int .u16 0] := by rw [hg5]; exact Whole.new v2 140 #[.int .u16 0, .int .u16 0]
          have lg5 : wa.heap.size ≤ g5 := by rw [hg5]; exact R2.size
          have R3 : Below wa.heap.size wa (v2.alloc (.cells #[.int .u16 0, .int .u16 0] 140)) := R2.alloc R2.size _
          have n56 : g5 ≠ g6 := by have := y6.lt; omega
          have y6 := y6.alloc (.cells #[.int .u16 0, .int .u16 0] 140)
          rw [← hg5]
          clear hg5
          generalize (v2.alloc (.cells #[.int .u16 0, .int .u16 0] 140)) = v3 at *
          clear hHeld
          refine hK.out _ _ (KS.out _ R3) (fun hHeld => ?_)
          clear hK K
          try simp only [Act.put, List.setIfInBounds_toArray, List.set_cons_zero, List.set_cons_succ]
          refine wpAnyH_ready (rs := [3]) (by kernel_rfl) (by simp) ?_
          refine AllReadyH.cons rfl (fun K hK => ?_) AllReadyH.nil
          go_simp
          (with_reducible refine (HPb.out v3).mono ?_); rintro e v4 ⟨rfl, b4⟩
          go_wp2_with fail
          have R4 : Below wa.heap.size wa v4 := R3.trans (b4.mono R3.size)
          have y5 := y5.below b4 y5.lt
          have y6 := y6.below b4 y6.lt
          clear hHeld
          refine hK.out _ _ (KS.out _ R4) (fun hHeld => ?_)
          clear hK K
          try simp only [Act.put, List.setIfInBounds_toArray, List.set_cons_zero, List.set_cons_succ]
          refine wpAnyH_ready (rs := [6]) (by kernel_rfl) (by simp) ?_
          refine AllReadyH.cons rfl (fun K hK => ?_) AllReadyH.nil
          have f50 := y5.frozen 0
          have f51 := y5.frozen 1
          obtain ⟨c50, c51⟩ := wh2 y5
          go_simp
          have z5 := (y5.set_ 0 (hv sa)).set_ 1 (hv pa)
          have n56' : g6 ≠ g5 := by omega
          have z6 := (y6.far (p := ⟨g5, 0, none⟩) n56' (hv sa)).far (p := ⟨g5, 1, none⟩) n56' (hv pa)
          have R5 := (R4.setCell (p := ⟨g5, 0, none⟩) lg5 (hv sa)).setCell (p := ⟨g5, 1, none⟩) lg5 (hv pa)
          generalize (v4.setCell ⟨g5, 0, none⟩ (hv sa)).setCell ⟨g5, 1, none⟩ (hv pa) = v5 at *
          clear f50 f51 c50 c51 y5 y6
          clear hHeld
          refine hK.out _ _ (KS.out _ R5) (fun hHeld => ?_)
          clear hK K
          try simp only [Act.put, List.setIfInBounds_toArray, List.set_cons_zero, List.set_cons_succ]
          refine wpAnyH_ready (rs := [7]) (by kernel_rfl) (by simp) ?_
          refine AllReadyH.cons rfl (fun K hK => ?_) AllReadyH.nil
          have f60 := z6.frozen 0
          have f61 := z6.frozen 1
          obtain ⟨c60, c61⟩ := wh2 z6
          go_simp
          have y6 := (z6.set_ 0 (hv sb)).set_ 1 (hv pb)
          have n65' : g5 ≠ g6 := by omega
          have y5 := (z5.far (p := ⟨g6, 0, none⟩) n65' (hv sb)).far (p := ⟨g6, 1, none⟩) n65' (hv pb)
          have R6 := (R5.setCell (p := ⟨g6, 0, none⟩) lg6 (hv sb)).setCell (p := ⟨g6, 1, none⟩) lg6 (hv pb)
          clear hHeld
          refine hK.out _ _ (KS.out _ R6) (fun hHeld => ?_)
          clear hK K
          try simp only [Act.put, List.setIfInBounds_toArray, List.set_cons_zero, List.set_cons_succ]
          refine wpAnyH_done (by kernel_rfl) ?_ _
          exact hT _ _ g5 g6 _ y5 y6 R6
      · go_simp
        obtain ⟨g5, hg5⟩ : ∃ g5, g5 = v1.heap.size := ⟨_, rfl⟩
        have y5 : Whole (v1.alloc (.cells #[.int .u16 0, .int .u16 0] 140)) g5 140 #[.int .u16 0, .int .u16 0] := by rw [hg5]; exact Whole.new v1 140 #[.int .u16 0, .int .u16 0]
        have lg5 : wa.heap.size ≤ g5 := by rw [hg5]; exact R1.size
        have R2 : Below wa.heap.size wa (v1.alloc (.cells #[.int .u16 0, .int .u16 0] 140)) := R1.alloc R1.size _
        have n56 : g5 ≠ g6 := by have := y6.lt; omega
        have y6 := y6.alloc (.cells #[.int .u16 0, .int .u16 0] 140)
        rw [← hg5]
        clear hg5
        generalize (v1.alloc (.cells #[.int .u16 0, .int .u16 0] 140)) = v2 at *
        clear hHeld
        refine hK.out _ _ (KS.out _ R2) (fun hHeld => ?_)
        clear hK K
        try simp only [Act.put, List.setIfInBounds_toArray, List.set_cons_zero, List.set_cons_succ]
        refine wpAnyH_ready (rs := [1]) (by kernel_rfl) (by simp) ?_
        refine AllReadyH.cons rfl (fun K hK => ?_) AllReadyH.nil
        go_simp
        (with_reducible refine (HPa.out v2).mono ?_); rintro e v3 ⟨rfl, b3⟩
        go_wp2_with fail
        have R3 : Below wa.heap.size wa v3 := R2.trans (b3.mono R2.size)
        have y5 := y5.below b3 y5.lt
        have y6 := y6.below b3 y6.lt
        clear hHeld
        refine hK.out _ _ (KS.out _ R3) (fun hHeld => ?_)
        clear hK K
        try simp only [Act.put, List.setIfInBounds_toArray, List.set_cons_zero, List.set_cons_succ]
        refine wpAnyH_ready (rs := [3]) (by kernel_rfl) (by simp) ?_
        refine AllReadyH.cons rfl (fun K hK => ?_) AllReadyH.nil
        go_simp
        (with_reducible refine (HPb.out v3).mono ?_); rintro e v4 ⟨rfl, b4⟩
        go_wp2_with fail
        have R4 : Below wa.heap.size wa v4 := R3.trans (b4.mono R3.size)
        have y5 := y5.below b4 y5.lt
        have y6 := y6.below b4 y6.lt
        clear hHeld
        refine hK.out _ _ (KS.out _ R4) (fun hHeld => ?_)
        clear hK K
        try simp only [Act.put, List.setIfInBounds_toArray, List.set_cons_zero, List.set_cons_succ]
        refine wpAnyH_ready (rs := [6]) (by kernel_rfl) (by simp) ?_
        refine AllReadyH.cons rfl (fun K hK => ?_) AllReadyH.nil
        have f50 := y5.frozen 0
        have f51 := y5.frozen 1
        obtain ⟨c50, c51⟩ := wh2 y5
        go_simp
        have z5 := (y5.set_ 0 (hv sa)).set_ 1 (hv pa)
        have n56' : g6 ≠ g5 := by omega
        have z6 := (y6.far (p := ⟨g5, 0, none⟩) n56' (hv sa)).far (p := ⟨g5, 1, none⟩) n56' (hv pa)
        have R5 := (R4.setCell (p := ⟨g5, 0, none⟩) lg5 (hv sa)).setCell (p := ⟨g5, 1, none⟩) lg5 (hv pa)
        generalize (v4.setCell ⟨g5, 0, none⟩ (hv sa)).setCell ⟨g5, 1, none⟩ (hv pa) = v5 at *
        clear f50 f51 c50 c51 y5 y6
        clear hHeld
        refine hK.out _ _ (KS.out _ R5) (fun hHeld => ?_)
        clear hK K
        try simp only [Act.put, List.setIfInBounds_toArray, List.set_cons_zero, List.set_cons_succ]
        refine wpAnyH_ready (rs := [7]) (by kernel_rfl) (by simp) ?_
        refine AllReadyH.cons rfl (fun K hK => ?_) AllReadyH.nil
        have f60 := z6.frozen 0
        have f61 := z6.frozen 1
        obtain ⟨c60, c61⟩ := wh2 z6
        go_simp
        have y6 := (z6.set_ 0 (hv sb)).set_ 1 (hv pb)
        have n65' : g5 ≠ g6 := by omega
        have y5 := (z5.far (p := ⟨g6, 0, none⟩) n65' (hv sb)).far (p := ⟨g6, 1, none⟩) n65' (hv pb)
        have R6 := (R5.setCell (p := ⟨g6, 0, none⟩) lg6 (hv sb)).setCell (p := ⟨g6, 1, none⟩) lg6 (hv pb)
        clear hHeld
        refine hK.out _ _ (KS.out _ R6) (fun hHeld => ?_)
        clear hK K
        try simp only [Act.put, List.setIfInBounds_toArray, List.set_cons_zero, List.set_cons_succ]
        refine wpAnyH_done (by kernel_rfl) ?_ _
        exact hT _ _ g5 g6 _ y5 y6 R6
  intro u7 u9 g5 g6 W h5 h6 RW
  have hS := scmp16_any sa pa sb pb g5 g6
  rw [← HF.out] at hS
  have HS := Lib.hid hS
  clear hS
  go_wp2_with fail
  refine wp_region_held_drew (S := (fun _ => True)) (by kernel_rfl) trivial (fun hHeld => ?_)
  refine take_at (i := 0) (v := ?_) (some 11) rfl (by kernel_rfl) (by kernel_rfl) (by kernel_rfl) (fun _ _ _ h => h) (by kernel_rfl) (Or.inl ⟨by kernel_rfl, ?_⟩) (by assumption) ?_
  rotate_left
  · (intro w hSw; (try dsimp only at hSw); go_simp <;> with_reducible rfl)
  simp only [Act.put, List.setIfInBounds_toArray, List.set_cons_zero, List.set_cons_succ]
  refine take_at (i := 1) (v := ?_) (some 12) rfl (by kernel_rfl) (by kernel_rfl) (by kernel_rfl) (fun _ _ _ h => h) (by kernel_rfl) (Or.inl ⟨by kernel_rfl, ?_⟩) (by assumption) ?_
  rotate_left
  · (intro w hSw; (try dsimp only at hSw); go_simp <;> with_reducible rfl)
  simp only [Act.put, List.setIfInBounds_toArray, List.set_cons_zero, List.set_cons_succ]
  refine wpAnyH_ready (rs := [2]) (by kernel_rfl) (by simp) ?_
  refine AllReadyH.cons rfl (fun K hK => ?_) AllReadyH.nil
  go_simp
  (with_reducible refine (HS.out W.drew (Whole.drew h5) (Whole.drew h6)).mono ?_); rintro e wz ⟨rfl, rfl⟩
  go_wp2_with fail
  clear hHeld
  refine hK.out _ _ trivial (fun hHeld => ?_)
  clear hK K
  try simp only [Act.put, List.setIfInBounds_toArray, List.set_cons_zero, List.set_cons_succ]
  refine take_at (i := 3) (v := ?_) (some 4) rfl (by kernel_rfl) (by kernel_rfl) (by kernel_rfl) (fun _ _ _ h => h) (by kernel_rfl) (Or.inl ⟨by kernel_rfl, ?_⟩) (by assumption) ?_
  rotate_left
  · (intro w hSw; (try dsimp only at hSw); go_simp <;> with_reducible rfl)
  simp only [Act.put, List.setIfInBounds_toArray, List.set_cons_zero, List.set_cons_succ]
  refine wpAnyH_done (by kernel_rfl) ?_ _
  go_wp2_with fail
  go_ret
  exact ⟨rfl, b0.trans ((below_drew RW).mono (by omega))⟩
end Go.Proofs.YtmohbkniekeafaaGreatDoor




namespace Go.Proofs.YtmohbkniekeafaaGreatDoor
open Go.RowKit

set_option linter.unusedSimpArgs false
/-- a skip that only an i-forward-tsn chunk may have -/
def onlyB (s : Fs) : Bool := s.un || decide (65535 < s.sq.toNat)
set_option maxHeartbeats 2000000 in
theorem only_any (s : Fs) (w : World) : Calls Tryz.prog 122 #[fsV s] w fun e w' => e = .returned (.bool (onlyB s)) ∧ Below w.heap.size w w' := by
  have b0 : Below w.heap.size w (w.alloc (.cells (fsCells s) 70)) := (Below.refl _ w).alloc (Nat.le_refl _) _
  have x0 := Whole.new w 70 (fsCells s)
  obtain ⟨st, un, sq⟩ := s
  simp only [fsV, fsCells] at *
  obtain ⟨q0, q1, q2⟩ := wh3 x0
  have HR : Hid (onlyB ⟨st, un, sq⟩ = (un || decide ((65535 : Int) < (sq.toNat : Int)))) := by
    unfold Hid onlyB
    congr 1
    congr 1
    exact propext ⟨fun h => by simp only at h; omega, fun h => by simp only; omega⟩
  generalize onlyB ⟨st, un, sq⟩ = r at *
  cases un with
  | true =>
    obtain rfl : r = true := by rw [HR.out]; rfl
    go_enter Tryz.func122, Tryz.ntmps122
    go_wp2_with fail
    go_ret
    exact ⟨rfl, b0⟩
  | false =>
    by_cases h : (65535 : Int) < (sq.toNat : Int)
    · obtain rfl : r = true := by rw [HR.out, decide_eq_true h]; rfl
      clear HR
      go_enter Tryz.func122, Tryz.ntmps122
      go_wp2_with fail
      go_ret
      exact ⟨rfl, b0⟩
    · obtain rfl : r = false := by rw [HR.out, decide_eq_false h]; rfl
      clear HR
      go_enter Tryz.func122, Tryz.ntmps122
      go_wp2_with fail
      go_ret
      exact ⟨rfl, b0⟩
set_option maxRecDepth 100000 in
set_option maxHeartbeats 4000000 in
theorem fidx_any (l : List Fs) (A : Option Addr) (c : Nat) (w : World) (h : FsL w w.heap.size A c l) :
    Calls Tryz.prog 160 #[.slice A l.length c, .func (.func 122) #[] #[]] w fun e w' => ∃ r : Int, e = .returned (.int .i64 r) ∧ decide (0 ≤ r) = l.any onlyB ∧ Below w.heap.size w w' := by
  have hgl : l.length ≤ 9223372036854775807 := by have := h.c1; have := h.c2; unfold maxLen at this; omega
  have HG := Lib.hid h
  clear h
  go_enter Tryz.func160, Tryz.ntmps160
  go_wp2_with fail
  go_loopw [8] (fun i wr => ∃ j : Nat, j ≤ l.length ∧ i = .int .i64 (j : Int) ∧ Below w.heap.size w wr ∧ ∀ s ∈ l.take j, onlyB s = false) (fun i _ => l.length - (intOf i).toNat)
  case atStart => exact ⟨0, Nat.zero_le _, rfl, Below.refl _ _, fun g hg => by simp at hg⟩
  case round =>
    obtain ⟨j, hj, rfl, hbel, hno⟩ := hrel
    by_cases hlt : j < l.length
    · obtain ⟨s, hs⟩ : ∃ s, l[j]? = some s := ⟨_, List.getElem?_eq_getElem hlt⟩
      obtain ⟨ad, rfl, hadb, c0, c1, c2⟩ := (HG.out.on hbel).at_ hs
      have hi1 : (j : Int) < (l.length : Int) := by omega
      have hC := only_any s wr
      have HN := Lib.hid hno
      have HGt := Lib.hid hs
      have HB := Lib.hid hbel
      clear hno hs hbel
      cases hin : onlyB s with
      | true =>
        rw [hin] at hC
        have HI := Lib.hid hin
        clear hin
        go_wp2_with fail
        refine hC.mono ?_
        rintro e w2 ⟨rfl, b2⟩
        go_wp2_with fail
        go_ret
        refine ⟨(j : Int), rfl, ?_, HB.out.trans (b2.mono HB.out.size)⟩
        rw [decide_eq_true (by omega)]
        exact (List.any_eq_true.2 ⟨s, List.mem_of_getElem? HGt.out, HI.out⟩).symm
      | false =>
        rw [hin] at hC
        have HI := Lib.hid hin
        clear hin
        go_wp2_with fail
        refine hC.mono ?_
        rintro e w2 ⟨rfl, b2⟩
        go_wp2_with fail
        go_roundw
        case rel => exact ⟨j + 1, by omega, by go_num, HB.out.trans (b2.mono HB.out.size), fun x hx => by
          rw [take_some HGt.out] at hx
          rcases List.mem_append.1 hx with h | h
          · exact HN.out x h
          · rw [List.mem_singleton.1 h]; exact HI.out⟩
        case measure => simp [intOf]; omega
    · obtain rfl : j = l.length := by omega
      have hi1 : ¬ (l.length : Int) < (l.length : Int) := by omega
      rw [List.take_length] at hno
      have HN := Lib.hid hno
      clear hno
      go_wp2_with fail
      go_ret
      refine ⟨-1, rfl, ?_, hbel⟩
      rw [decide_eq_false (by omega)]
      symm
      rw [List.any_eq_false]
      intro g hg
      rw [HN.out g hg]
      simp
set_option maxRecDepth 100000 in
set_option maxHeartbeats 2000000 in
theorem fcnt_any (l : List Fs) (A : Option Addr) (c : Nat) (w : World) (h : FsL w w.heap.size A c l) :
    Calls Tryz.prog 123 #[.slice A l.length c, .func (.func 122) #[] #[]] w fun e w' => e = .returned (.bool (l.any onlyB)) ∧ Below w.heap.size w w' := by
  have hI := fidx_any l A c w h
  generalize l.any onlyB = r at *
  clear h
  go_enter Tryz.func123, Tryz.ntmps123
  go_wp2_with fail
  refine hI.mono ?_
  rintro e w2 ⟨k, rfl, hk, b2⟩
  have HK := Lib.hid hk
  clear hk hI
  go_wp2_with fail
  go_ret
  exact ⟨by rw [← HK.out]; rfl, b2⟩
/-- whether there is a chunk of skips -/
def haveB (inter : Bool) (l : List Fs) : Bool := decide (l.length ≤ mostN inter 65535) && (inter || !l.any onlyB)
set_option maxRecDepth 100000 in
set_option maxHeartbeats 2000000 in
theorem have_any (inter : Bool) (l : List Fs) (A : Option Addr) (c : Nat) (w : World) (h : FsL w w.heap.size A c l) (_hl : l.length ≤ 100000000) :
    Calls Tryz.prog 67 #[.bool inter, .slice A l.length c] w fun e w' => e = .returned (.bool (haveB inter l)) ∧ Below w.heap.size w w' := by
  have hM := fmost_any inter 65535 (by omega) w
  have hF := fcnt_any l A c w h
  have HR : Hid (haveB inter l = (decide (l.length ≤ mostN inter 65535) && (inter || !l.any onlyB))) := Lib.hid rfl
  generalize haveB inter l = r at *
  generalize mostN inter 65535 = m at *
  generalize l.any onlyB = a at *
  clear h
  by_cases hle : l.length ≤ m
  · have hi : (l.length : Int) ≤ (m : Int) := by omega
    cases inter with
    | true =>
      obtain rfl : r = true := by rw [HR.out, decide_eq_true hle]; rfl
      clear HR hle
      go_enter Tryz.func67, Tryz.ntmps67
      go_wp2_with fail
      refine hM.mono ?_
      rintro e w2 ⟨rfl, rfl⟩
      go_wp2_with fail
      go_ret
      exact ⟨rfl, Below.refl _ _⟩
    | false =>
      obtain rfl : r = !a := by rw [HR.out, decide_eq_true hle]; cases a <;> rfl
      clear HR hle
      go_enter Tryz.func67, Tryz.ntmps67
      go_wp2_with fail
      refine hM.mono ?_
      rintro e w2 ⟨rfl, rfl⟩
      go_wp2_with fail
      refine hF.mono ?_
      rintro e w3 ⟨rfl, b3⟩
      go_wp2_with fail
      go_ret
      exact ⟨rfl, b3⟩
  · have hi : ¬ (l.length : Int) ≤ (m : Int) := by omega
    obtain rfl : r = false := by rw [HR.out, decide_eq_false hle]; rfl
    clear HR hle
    go_enter Tryz.func67, Tryz.ntmps67
    go_wp2_with fail
    refine hM.mono ?_
    rintro e w2 ⟨rfl, rfl⟩
    go_wp2_with fail
    go_ret
    exact ⟨rfl, Below.refl _ _⟩
end Go.Proofs.YtmohbkniekeafaaGreatDoor


