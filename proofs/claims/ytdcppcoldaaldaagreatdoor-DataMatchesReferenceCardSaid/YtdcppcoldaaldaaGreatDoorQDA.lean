/- Layer 13: a description as data, how it lies in memory; typeOf, Most, isDescription, isWhole, the law's few, the reference's Right. They write nothing that was there. -/
/- Layer 13: isWhole, flagsOf. They write nothing that was there. -/
/- Layer 13: flagsOf. They write nothing that was there. -/
import Derived.Test.YtdcppcoldaaldaaGreatDoorQW
import Derived.Test.YtdcppcoldaaldaaGreatDoorQCA
import Derived.BigGuard
import Derived.Deep.QuietTactic
import Derived.BigQuiet
import Derived.Deep.RegionHeld3
import Derived.Deep.Cut






namespace Go.Proofs.YtdcppcoldaaldaaGreatDoor
open Go.RowKit

set_option linter.unusedSimpArgs false
structure Pt where
  inter : Bool
  tsn : UInt32
  st : UInt16
  sq : UInt32
  pr : UInt32
  bg : Bool
  en : Bool
  un : Bool
  nw : Bool
  us : List UInt8
abbrev ptCells (p : Pt) (A : Option Addr) (c : Nat) : Array Value := #[.bool p.inter, uv p.tsn, hv p.st, uv p.sq, uv p.pr, .bool p.bg, .bool p.en, .bool p.un, .bool p.nw, .slice A p.us.length c]
abbrev ptV (p : Pt) (A : Option Addr) (c : Nat) : Value := .agg #[.bool p.inter, uv p.tsn, hv p.st, uv p.sq, uv p.pr, .bool p.bg, .bool p.en, .bool p.un, .bool p.nw, .slice A p.us.length c]
/-- what User reads as -/
structure PtL (w : World) (B : Nat) (A : Option Addr) (c : Nat) (p : Pt) : Prop where
  data : Lies w B A (p.us.map bv)
  dc : p.us.length ≤ c
  dm : c ≤ maxLen
theorem PtL.below {w w' : World} {B c : Nat} {A : Option Addr} {p : Pt} (h : PtL w B A c p) (hb : Below B w w') : PtL w' B A c p := ⟨h.data.below hb, h.dc, h.dm⟩
theorem PtL.more {w : World} {B B' c : Nat} {A : Option Addr} {p : Pt} (h : PtL w B A c p) (hB : B ≤ B') : PtL w B' A c p := ⟨h.data.more hB, h.dc, h.dm⟩
theorem PtL.on {w w' : World} {c : Nat} {A : Option Addr} {p : Pt} (h : PtL w w.heap.size A c p) (hb : Below w.heap.size w w') : PtL w' w'.heap.size A c p := (h.below hb).more hb.size
theorem Whole.cs10 {W : World} {g : Nat} {t : TypeId} {a b c d e f h i j k : Value} (hW : Whole W g t #[a, b, c, d, e, f, h, i, j, k]) : W.cell? ⟨g, 0, none⟩ = some a ∧ W.cell? ⟨g, 1, none⟩ = some b ∧ W.cell? ⟨g, 2, none⟩ = some c ∧ W.cell? ⟨g, 3, none⟩ = some d ∧ W.cell? ⟨g, 4, none⟩ = some e ∧
    W.cell? ⟨g, 5, none⟩ = some f ∧ W.cell? ⟨g, 6, none⟩ = some h ∧ W.cell? ⟨g, 7, none⟩ = some i ∧ W.cell? ⟨g, 8, none⟩ = some j ∧ W.cell? ⟨g, 9, none⟩ = some k := by
  refine ⟨?_, ?_, ?_, ?_, ?_, ?_, ?_, ?_, ?_, ?_⟩ <;> (rw [hW.cell]; rfl)
def tyB (p : Pt) : UInt8 := if p.inter then 64 else 0
set_option maxHeartbeats 1000000 in
theorem typeOf_any (p : Pt) (A : Option Addr) (c : Nat) (w : World) : Calls Tryz.prog 64 #[ptV p A c] w fun e w' => e = .returned (bv (tyB p)) ∧ Below w.heap.size w w' := by
  have b0 : Below w.heap.size w (w.alloc (.cells (ptCells p A c) 34)) := (Below.refl _ w).alloc (Nat.le_refl _) _
  obtain ⟨q0, _⟩ := (Whole.new w 34 (ptCells p A c)).cs10
  unfold tyB
  obtain ⟨inter, tsn, st, sq, pr, bg, en, un, nw, us⟩ := p
  cases inter
  all_goals
    go_enter Tryz.func64, Tryz.ntmps64
    go_wp2_with fail
    go_ret
    exact ⟨rfl, b0⟩
def frontD (b : Bool) : Nat := if b then 20 else 16
def mostD (b : Bool) (n : Int) : Int := if n ≤ (frontD b : Int) then 0 else n - (frontD b : Int)
set_option maxHeartbeats 1000000 in
theorem most_any (b : Bool) (n : Int) (h0 : 0 ≤ n) (h1 : n ≤ 1000000) (w : World) : Calls Tryz.prog 62 #[.bool b, .int .i64 n] w fun e w' => e = .returned (.int .i64 (mostD b n)) ∧ w = w' := by
  unfold mostD frontD
  cases b with
  | true =>
    by_cases h : n ≤ 20
    · rw [if_pos (by simpa using h)]
      go_enter Tryz.func62, Tryz.ntmps62
      go_wp2_with fail
      go_ret
      exact ⟨rfl, rfl⟩
    · rw [if_neg (by simpa using h)]
      go_enter Tryz.func62, Tryz.ntmps62
      go_wp2_with fail
      go_ret
      exact ⟨ret_int (by go_num), rfl⟩
  | false =>
    by_cases h : n ≤ 16
    · rw [if_pos (by simpa using h)]
      go_enter Tryz.func62, Tryz.ntmps62
      go_wp2_with fail
      go_ret
      exact ⟨rfl, rfl⟩
    · rw [if_neg (by simpa using h)]
      go_enter Tryz.func62, Tryz.ntmps62
      go_wp2_with fail
      go_ret
      exact ⟨ret_int (by go_num), rfl⟩
/-- whether there is a chunk that has what p says -/
def desB (p : Pt) : Bool := decide (1 ≤ p.us.length) && (decide (p.us.length ≤ 65535 - frontD p.inter) && (p.inter || decide (p.sq.toNat ≤ 65535)))
set_option maxRecDepth 100000 in
set_option maxHeartbeats 4000000 in
theorem rright_any (p : Pt) (A : Option Addr) (c : Nat) (w : World) : Calls Tryz.prog 18 #[ptV p A c] w fun e w' => e = .returned (.bool (desB p)) ∧ Below w.heap.size w w' := by
  have b0 : Below w.heap.size w (w.alloc (.cells (ptCells p A c) 26)) := (Below.refl _ w).alloc (Nat.le_refl _) _
  obtain ⟨q0, _, _, q3, _, _, _, _, _, q9⟩ := (Whole.new w 26 (ptCells p A c)).cs10
  obtain ⟨inter, tsn, st, sq, pr, bg, en, un, nw, us⟩ := p
  simp only [] at q0 q3 q9 b0 ⊢
  cases inter with
  | true =>
    by_cases h1 : us = []
    · subst h1
      skip
      have HV : Hid (desB ⟨true, tsn, st, sq, pr, bg, en, un, nw, []⟩ = false) := by unfold Hid desB frontD; first | (simp; done) | (simp; omega)
      clear q3
      go_enter Tryz.func18, Tryz.ntmps18
      go_wp2_with fail
      go_ret
      exact ⟨by rw [HV.out]; rfl, b0⟩
    · have hl : 1 ≤ us.length := by cases us with
      | nil => exact absurd rfl h1
      | cons a b => simp
      have g1 : (1 : Int) ≤ (us.length : Int) := by omega
      have g0 : 0 < us.length := by omega
      by_cases h2 : us.length ≤ 65515
      · skip
        have g2 : (us.length : Int) ≤ 65515 := by omega
        have HV : Hid (desB ⟨true, tsn, st, sq, pr, bg, en, un, nw, us⟩ = true) := by unfold Hid desB frontD; first | (simp; done) | (simp; omega)
        clear h2 hl
        go_enter Tryz.func18, Tryz.ntmps18
        go_wp2_with fail
        go_ret
        exact ⟨by rw [HV.out]; rfl, b0⟩
      · skip
        have g2 : ¬ (us.length : Int) ≤ 65515 := by omega
        have HV : Hid (desB ⟨true, tsn, st, sq, pr, bg, en, un, nw, us⟩ = false) := by unfold Hid desB frontD; first | (simp; done) | (simp; omega)
        clear h2 hl
        go_enter Tryz.func18, Tryz.ntmps18
        go_wp2_with fail
        go_ret
        exact ⟨by rw [HV.out]; rfl, b0⟩
  | false =>
    by_cases h1 : us = []
    · subst h1
      by_cases h3 : sq.toNat ≤ 65535
      · skip
        have g3 : (sq.toNat : Int) ≤ 65535 := by omega
        have HV : Hid (desB ⟨false, tsn, st, sq, pr, bg, en, un, nw, []⟩ = false) := by unfold Hid desB frontD; first | (simp; done) | (simp; omega)
        clear h3
        go_enter Tryz.func18, Tryz.ntmps18
        go_wp2_with fail
        go_ret
        exact ⟨by rw [HV.out]; rfl, b0⟩
      · skip
        have g3 : ¬ (sq.toNat : Int) ≤ 65535 := by omega
        have HV : Hid (desB ⟨false, tsn, st, sq, pr, bg, en, un, nw, []⟩ = false) := by unfold Hid desB frontD; first | (simp; done) | (simp; omega)
        clear h3
        go_enter Tryz.func18, Tryz.ntmps18
        go_wp2_with fail
        go_ret
        exact ⟨by rw [HV.out]; rfl, b0⟩
    · have hl : 1 ≤ us.length := by cases us with
      | nil => exact absurd rfl h1
      | cons a b => simp
      have g1 : (1 : Int) ≤ (us.length : Int) := by omega
      have g0 : 0 < us.length := by omega
      by_cases h2 : us.length ≤ 65519
      · by_cases h3 : sq.toNat ≤ 65535
        · skip
          have g2 : (us.length : Int) ≤ 65519 := by omega
          have g3 : (sq.toNat : Int) ≤ 65535 := by omega
          have HV : Hid (desB ⟨false, tsn, st, sq, pr, bg, en, un, nw, us⟩ = true) := by unfold Hid desB frontD; first | (simp; done) | (simp; omega)
          clear h2 h3 hl
          go_enter Tryz.func18, Tryz.ntmps18
          go_wp2_with fail
          go_ret
          exact ⟨by rw [HV.out]; rfl, b0⟩
        · skip
          have g2 : (us.length : Int) ≤ 65519 := by omega
          have g3 : ¬ (sq.toNat : Int) ≤ 65535 := by omega
          have HV : Hid (desB ⟨false, tsn, st, sq, pr, bg, en, un, nw, us⟩ = false) := by unfold Hid desB frontD; first | (simp; done) | (simp; omega)
          clear h2 h3 hl
          go_enter Tryz.func18, Tryz.ntmps18
          go_wp2_with fail
          go_ret
          exact ⟨by rw [HV.out]; rfl, b0⟩
      · by_cases h3 : sq.toNat ≤ 65535
        · skip
          have g2 : ¬ (us.length : Int) ≤ 65519 := by omega
          have g3 : (sq.toNat : Int) ≤ 65535 := by omega
          have HV : Hid (desB ⟨false, tsn, st, sq, pr, bg, en, un, nw, us⟩ = false) := by unfold Hid desB frontD; first | (simp; done) | (simp; omega)
          clear h2 h3 hl
          go_enter Tryz.func18, Tryz.ntmps18
          go_wp2_with fail
          go_ret
          exact ⟨by rw [HV.out]; rfl, b0⟩
        · skip
          have g2 : ¬ (us.length : Int) ≤ 65519 := by omega
          have g3 : ¬ (sq.toNat : Int) ≤ 65535 := by omega
          have HV : Hid (desB ⟨false, tsn, st, sq, pr, bg, en, un, nw, us⟩ = false) := by unfold Hid desB frontD; first | (simp; done) | (simp; omega)
          clear h2 h3 hl
          go_enter Tryz.func18, Tryz.ntmps18
          go_wp2_with fail
          go_ret
          exact ⟨by rw [HV.out]; rfl, b0⟩
/-! ### isDescription -/
theorem most_max (b : Bool) (w : World) : Calls Tryz.prog 62 #[.bool b, .int .i64 65535] w fun e w' => e = .returned (.int .i64 (if b = true then 65515 else 65519)) ∧ w' = w := by
  have h := most_any b 65535 (by omega) (by omega) w
  have e : mostD b 65535 = (if b = true then 65515 else 65519) := by cases b <;> rfl
  rw [e] at h
  exact h.mono fun e w' h => ⟨h.1, h.2.symm⟩
set_option maxRecDepth 100000 in
set_option maxHeartbeats 4000000 in
theorem isDes_any (p : Pt) (A : Option Addr) (c : Nat) (w : World) : Calls Tryz.prog 63 #[ptV p A c] w fun e w' => e = .returned (.bool (desB p)) ∧ Below w.heap.size w w' := by
  have b0 : Below w.heap.size w (w.alloc (.cells (ptCells p A c) 34)) := (Below.refl _ w).alloc (Nat.le_refl _) _
  obtain ⟨q0, _, _, q3, _, _, _, _, _, q9⟩ := (Whole.new w 34 (ptCells p A c)).cs10
  obtain ⟨inter, tsn, st, sq, pr, bg, en, un, nw, us⟩ := p
  simp only [] at q0 q3 q9 b0 ⊢
  have hMT := most_max true
  have hMF := most_max false
  simp only [if_true, Bool.false_eq_true, if_false] at hMT hMF
  cases inter with
  | true =>
    by_cases h1 : us = []
    · subst h1
      skip
      have HV : Hid (desB ⟨true, tsn, st, sq, pr, bg, en, un, nw, []⟩ = false) := by unfold Hid desB frontD; first | (simp; done) | (simp; omega)
      go_enter Tryz.func63, Tryz.ntmps63
      go_wp2_with fail
      generalize w.alloc (.cells #[.bool true, uv tsn, hv st, uv sq, uv pr, .bool bg, .bool en, .bool un, .bool nw, .slice A 0 c] 34) = w0 at *
      go_quiet (first | (go_at_call 62; exact Calls.quiet_of_same (hMT _)) | fail)
      go_wp2_with fail
      go_ret
      exact ⟨by rw [HV.out]; rfl, below_drewN b0 _⟩
    · have hl : 1 ≤ us.length := by cases us with
      | nil => exact absurd rfl h1
      | cons a b => simp
      have g1 : (1 : Int) ≤ (us.length : Int) := by omega
      have g0 : 0 < us.length := by omega
      by_cases h2 : us.length ≤ 65515
      · skip
        have g2 : (us.length : Int) ≤ 65515 := by omega
        have HV : Hid (desB ⟨true, tsn, st, sq, pr, bg, en, un, nw, us⟩ = true) := by unfold Hid desB frontD; first | (simp; done) | (simp; omega)
        clear h2 hl
        go_enter Tryz.func63, Tryz.ntmps63
        go_wp2_with fail
        generalize w.alloc (.cells #[.bool true, uv tsn, hv st, uv sq, uv pr, .bool bg, .bool en, .bool un, .bool nw, .slice A us.length c] 34) = w0 at *
        go_quiet (first | (go_at_call 62; exact Calls.quiet_of_same (hMT _)) | fail)
        go_wp2_with fail
        go_ret
        exact ⟨by rw [HV.out]; rfl, below_drewN b0 _⟩
      · skip
        have g2 : decide ((us.length : Int) ≤ 65515) = false := decide_eq_false (by omega)
        have HV : Hid (desB ⟨true, tsn, st, sq, pr, bg, en, un, nw, us⟩ = false) := by unfold Hid desB frontD; first | (simp; done) | (simp; omega)
        clear h2 hl
        go_enter Tryz.func63, Tryz.ntmps63
        go_wp2_with fail
        generalize w.alloc (.cells #[.bool true, uv tsn, hv st, uv sq, uv pr, .bool bg, .bool en, .bool un, .bool nw, .slice A us.length c] 34) = w0 at *
        go_quiet (first | (go_at_call 62; exact Calls.quiet_of_same (hMT _)) | fail)
        go_wp2_with fail
        go_ret
        exact ⟨by rw [HV.out]; rfl, below_drewN b0 _⟩
  | false =>
    by_cases h1 : us = []
    · subst h1
      skip
      have HV : Hid (desB ⟨false, tsn, st, sq, pr, bg, en, un, nw, []⟩ = false) := by unfold Hid desB frontD; first | (simp; done) | (simp; omega)
      go_enter Tryz.func63, Tryz.ntmps63
      go_wp2_with fail
      generalize w.alloc (.cells #[.bool false, uv tsn, hv st, uv sq, uv pr, .bool bg, .bool en, .bool un, .bool nw, .slice A 0 c] 34) = w0 at *
      go_quiet (first | (go_at_call 62; exact Calls.quiet_of_same (hMF _)) | fail)
      go_wp2_with fail
      go_ret
      exact ⟨by rw [HV.out]; rfl, below_drewN b0 _⟩
    · have hl : 1 ≤ us.length := by cases us with
      | nil => exact absurd rfl h1
      | cons a b => simp
      have g1 : (1 : Int) ≤ (us.length : Int) := by omega
      have g0 : 0 < us.length := by omega
      by_cases h2 : us.length ≤ 65519
      · by_cases h3 : sq.toNat ≤ 65535
        · skip
          have g2 : (us.length : Int) ≤ 65519 := by omega
          have g3 : (sq.toNat : Int) ≤ 65535 := by omega
          have HV : Hid (desB ⟨false, tsn, st, sq, pr, bg, en, un, nw, us⟩ = true) := by unfold Hid desB frontD; first | (simp; done) | (simp; omega)
          clear h2 h3 hl
          go_enter Tryz.func63, Tryz.ntmps63
          go_wp2_with fail
          generalize w.alloc (.cells #[.bool false, uv tsn, hv st, uv sq, uv pr, .bool bg, .bool en, .bool un, .bool nw, .slice A us.length c] 34) = w0 at *
          go_quiet (first | (go_at_call 62; exact Calls.quiet_of_same (hMF _)) | fail)
          go_wp2_with fail
          go_ret
          exact ⟨by rw [HV.out]; rfl, below_drewN b0 _⟩
        · skip
          have g2 : (us.length : Int) ≤ 65519 := by omega
          have g3 : decide ((sq.toNat : Int) ≤ 65535) = false := decide_eq_false (by omega)
          have HV : Hid (desB ⟨false, tsn, st, sq, pr, bg, en, un, nw, us⟩ = false) := by unfold Hid desB frontD; first | (simp; done) | (simp; omega)
          clear h2 h3 hl
          go_enter Tryz.func63, Tryz.ntmps63
          go_wp2_with fail
          generalize w.alloc (.cells #[.bool false, uv tsn, hv st, uv sq, uv pr, .bool bg, .bool en, .bool un, .bool nw, .slice A us.length c] 34) = w0 at *
          go_quiet (first | (go_at_call 62; exact Calls.quiet_of_same (hMF _)) | fail)
          go_wp2_with fail
          go_ret
          exact ⟨by rw [HV.out]; rfl, below_drewN b0 _⟩
      · skip
        have g2 : decide ((us.length : Int) ≤ 65519) = false := decide_eq_false (by omega)
        have HV : Hid (desB ⟨false, tsn, st, sq, pr, bg, en, un, nw, us⟩ = false) := by unfold Hid desB frontD; first | (simp; done) | (simp; omega)
        clear h2 hl
        go_enter Tryz.func63, Tryz.ntmps63
        go_wp2_with fail
        generalize w.alloc (.cells #[.bool false, uv tsn, hv st, uv sq, uv pr, .bool bg, .bool en, .bool un, .bool nw, .slice A us.length c] 34) = w0 at *
        go_quiet (first | (go_at_call 62; exact Calls.quiet_of_same (hMF _)) | fail)
        go_wp2_with fail
        go_ret
        exact ⟨by rw [HV.out]; rfl, below_drewN b0 _⟩
end Go.Proofs.YtdcppcoldaaldaaGreatDoor



namespace Go.Proofs.YtdcppcoldaaldaaGreatDoor
open Go.RowKit

set_option linter.unusedSimpArgs false
def whoB (p : Pt) : Bool := desB p && (p.bg && p.en)
set_option maxRecDepth 100000 in
set_option maxHeartbeats 1000000 in
theorem isWhole13_any (p : Pt) (A : Option Addr) (c : Nat) (w : World) : Calls Tryz.prog 114 #[ptV p A c] w fun e w' => e = .returned (.bool (whoB p)) ∧ Below w.heap.size w w' := by
  have b0 : Below w.heap.size w (w.alloc (.cells (ptCells p A c) 34)) := (Below.refl _ w).alloc (Nat.le_refl _) _
  have x0 := Whole.new w 34 (ptCells p A c)
  have hD := isDes_any p A c (w.alloc (.cells (ptCells p A c) 34))
  unfold whoB
  generalize desB p = d at *
  obtain ⟨inter, tsn, st, sq, pr, bg, en, un, nw, us⟩ := p
  simp only [ptCells, ptV] at *
  cases d with
  | false =>
    obtain ⟨q0, q1, q2, q3, q4, q5, q6, q7, q8, q9⟩ := x0.cs10
    go_enter Tryz.func114, Tryz.ntmps114
    go_wp2_with fail
    refine hD.mono ?_
    rintro e w1 ⟨rfl, b1⟩
    go_wp2_with fail
    go_ret
    exact ⟨rfl, b0.trans (b1.mono b0.size)⟩
  | true =>
    cases bg
    all_goals
      obtain ⟨q0, q1, q2, q3, q4, q5, q6, q7, q8, q9⟩ := x0.cs10
      go_enter Tryz.func114, Tryz.ntmps114
      go_wp2_with fail
      refine hD.mono ?_
      rintro e w1 ⟨rfl, b1⟩
      have x1 := x0.below b1 (by simp)
      obtain ⟨_, _, _, _, _, z5, z6, _⟩ := x1.cs10
      go_wp2_with fail
      go_ret
      exact ⟨rfl, b0.trans (b1.mono b0.size)⟩
theorem wrap8d (z : Int) (h0 : 0 ≤ z) (h1 : z < 256) : IntKind.u8.wrap z = z := by
  unfold IntKind.wrap IntKind.bits
  simp [IntKind.signed]
  omega
theorem or8 (a b : Nat) (ha : a < 256) (hb : b < 256) : bits BinOp.or IntKind.u8 (a : Int) (b : Int) = ((a ||| b : Nat) : Int) := by
  have h : a ||| b < 2 ^ 8 := Nat.or_lt_two_pow (by omega) (by omega)
  show IntKind.u8.wrap (((BitVec.ofInt 8 (a : Int) ||| BitVec.ofInt 8 (b : Int) : BitVec 8).toNat : Nat) : Int) = _
  rw [BitVec.ofInt_natCast, BitVec.ofInt_natCast, BitVec.toNat_or, BitVec.toNat_ofNat, BitVec.toNat_ofNat, Nat.mod_eq_of_lt (by omega : a < 2 ^ 8), Nat.mod_eq_of_lt (by omega : b < 2 ^ 8)]
  exact wrap8d _ (by omega) (by omega)
def orF (on : Bool) (v f : UInt8) : UInt8 := if on then v ||| f else v
set_option maxHeartbeats 1000000 in
theorem set1_any (f v : UInt8) (on : Bool) (g : Nat) (w : World) (h : Whole w g 5 #[bv v]) :
    Calls Tryz.prog 119 #[bv f, .bool on, .pointer (some ⟨g, 0, none⟩)] w fun e w' => e = .returned (.tuple #[]) ∧ Whole w' g 5 #[bv (orF on v f)] ∧ Below g w w' := by
  have hc : w.cell? ⟨g, 0, none⟩ = some (bv v) := by rw [h.cell]; rfl
  have hf := h.frozen 0
  have ho := or8 v.toNat f.toNat v.toNat_lt f.toNat_lt
  have hv : bv (v ||| f) = .int .u8 ((v.toNat ||| f.toNat : Nat) : Int) := by rw [bv, UInt8.toNat_or]
  cases on with
  | false =>
    go_enter Tryz.func119, Tryz.ntmps119
    go_wp2_with fail
    go_end0
    exact ⟨rfl, h, Below.refl _ _⟩
  | true =>
    have hS := h.set_ 0 (.int .u8 ((v.toNat ||| f.toNat : Nat) : Int))
    have hB : Below g w (w.setCell ⟨g, 0, none⟩ (.int .u8 ((v.toNat ||| f.toNat : Nat) : Int))) := (Below.refl g w).setCell (p := ⟨g, 0, none⟩) (Nat.le_refl g) _
    rw [← hv] at hS
    have HS := Lib.hid hS
    clear hS hv
    go_enter Tryz.func119, Tryz.ntmps119
    go_wp2_with fail
    go_end0
    exact ⟨rfl, HS.out, hB⟩
end Go.Proofs.YtdcppcoldaaldaaGreatDoor





namespace Go.Proofs.YtdcppcoldaaldaaGreatDoor
open Go.RowKit

set_option linter.unusedSimpArgs false
theorem below_undrew13 {B : Nat} {w w' : World} (h : Below B w.drew w') : Below B w w' := ⟨h.os, h.tape, h.output, h.size, h.block⟩
def flP (p : Pt) : UInt8 := orF p.nw (orF p.un (orF p.bg (orF p.en 0 1) 2) 4) 8
set_option maxRecDepth 100000 in
set_option maxHeartbeats 4000000 in
theorem flagsOf_any (p : Pt) (A : Option Addr) (c : Nat) (w : World) : Calls Tryz.prog 65 #[ptV p A c] w fun e w' => e = .returned (bv (flP p)) ∧ Below w.heap.size w w' := by
  have b0 : Below w.heap.size w (w.alloc (.cells (ptCells p A c) 34)) := (Below.refl _ w).alloc (Nat.le_refl _) _
  have x0 := Whole.new w 34 (ptCells p A c)
  unfold flP
  obtain ⟨inter, tsn, st, sq, pr, bg, en, un, nw, us⟩ := p
  simp only [ptCells, ptV] at *
  have b1 := b0.alloc b0.size (.cells #[.int .u8 0] 5)
  have x1 := x0.alloc (.cells #[.int .u8 0] 5)
  have y1 := Whole.new (w.alloc (.cells #[.bool inter, uv tsn, hv st, uv sq, uv pr, .bool bg, .bool en, .bool un, .bool nw, .slice A us.length c] 34)) 5 #[.int .u8 0]
  rw [World.size_alloc] at y1
  have hS := fun (f v : UInt8) (on : Bool) (W : World) hW => set1_any f v on (w.heap.size + 1) W hW
  go_enter Tryz.func65, Tryz.ntmps65
  go_upto_region 3 with fail
  generalize (w.alloc (.cells #[.bool inter, uv tsn, hv st, uv sq, uv pr, .bool bg, .bool en, .bool un, .bool nw, .slice A us.length c] 34)).alloc (.cells #[.int .u8 0] 5) = w1 at *
  obtain ⟨_, _, _, _, _, z5, z6, z7, z8, _⟩ := x1.cs10
  go_wp2_with fail
  refine (hS 1 0 en w1 y1).mono ?_
  rintro e w2 ⟨rfl, y2, b2⟩
  have x2 := x1.below b2 (Nat.lt_succ_self _)
  have B2 := b1.trans (b2.mono (Nat.le_succ _))
  clear z5 z6 z7 z8
  obtain ⟨_, _, _, _, _, z5, z6, z7, z8, _⟩ := x2.cs10
  go_wp2_with fail
  refine (hS 2 _ bg w2 y2).mono ?_
  rintro e w3 ⟨rfl, y3, b3⟩
  have x3 := x2.below b3 (Nat.lt_succ_self _)
  have B3 := B2.trans (b3.mono (Nat.le_succ _))
  clear z5 z6 z7 z8
  obtain ⟨_, _, _, _, _, z5, z6, z7, z8, _⟩ := x3.cs10
  go_wp2_with fail
  refine (hS 4 _ un w3 y3).mono ?_
  rintro e w4 ⟨rfl, y4, b4⟩
  have x4 := x3.below b4 (Nat.lt_succ_self _)
  have B4 := B3.trans (b4.mono (Nat.le_succ _))
  clear z5 z6 z7 z8
  obtain ⟨_, _, _, _, _, z5, z6, z7, z8, _⟩ := x4.cs10
  go_wp2_with fail
  refine (hS 8 _ nw w4 y4).mono ?_
  rintro e w5 ⟨rfl, y5, b5⟩
  have B5 := B4.trans (b5.mono (Nat.le_succ _))
  have hc : w5.cell? ⟨w.heap.size + 1, 0, none⟩ = some (bv (orF nw (orF un (orF bg (orF en 0 1) 2) 4) 8)) := by rw [y5.cell]; rfl
  go_wp2_with fail
  go_ret
  exact ⟨rfl, B5⟩
end Go.Proofs.YtdcppcoldaaldaaGreatDoor


