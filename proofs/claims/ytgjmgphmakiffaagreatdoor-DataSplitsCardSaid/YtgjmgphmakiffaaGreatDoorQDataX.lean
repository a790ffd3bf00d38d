/- Layer 13: what an argument that is a description reads as. No condition of its own. -/
import Derived.Test.YtgjmgphmakiffaaGreatDoorQNS
import Derived.Test.YtgjmgphmakiffaaGreatDoorQA
import Derived.Test.YtgjmgphmakiffaaGreatDoorQNodeUO
import Derived.Test.YtgjmgphmakiffaaGreatDoorQCX
import Derived.Test.YtgjmgphmakiffaaGreatDoorQDA
import Derived.ProofKit
import Derived.OpenShut
import Derived.LaidMore
import Derived.LaidHandle
import Derived.Lay
import Derived.Stop.Joined
import Derived.BigGuard
import Derived.BigQuiet
import Derived.ChangeOld
import Derived.Deep.AppendLies
import Derived.Deep.Cut
import Derived.Deep.Draws
import Derived.Deep.QuietTactic
import Derived.Deep.RegionHeld3
import Derived.Deep.Slices
import Derived.Laws.BytesArg
import Derived.Laws.OwnMore
import Derived.Laws.Rows
import Derived.Lib.Hide
import Derived.LoopIn
import Derived.LoopNIn
import Derived.Maps.AppendAt
import Derived.Outline
import Derived.OwnWalkIn
import Derived.RangeFuncBound
import Derived.RangeFuncBox
import Derived.RangeFuncCalls
import Derived.RangeFuncLeaves
import Derived.RangeFuncNested
import Derived.Shelf.Abstract
import Derived.Shelf.RegionOpen
import Derived.ShutString
import Derived.TacticsInMore
import Derived.WalkKit
import Derived.WalkLawsBesides
import Derived.WalkSpells











namespace Go.Proofs.YtgjmgphmakiffaaGreatDoor
open Go.ChangeShapes Go.WideShapes Go.ChangeAt Go.RowKit

set_option linter.unusedSimpArgs false
theorem wf_u32 {n : Int} (h : (Lit.int .u32 n).wf = true) : 0 ≤ n ∧ n < 4294967296 := by
  have := bounds_u32 h
  omega
set_option maxRecDepth 100000 in
set_option maxHeartbeats 4000000 in
theorem rright_any (p : Pt) (A : Option Addr) (c : Nat) (w : World) : Calls Tryz.prog 16 #[ptV p A c] w fun e w' => e = .returned (.bool (desB p)) ∧ Below w.heap.size w w' := by
  have b0 : Below w.heap.size w (w.alloc (.cells (ptCells p A c) 26)) := (Below.refl _ w).alloc (Nat.le_refl _) _
  obtain ⟨q0, _, _, q3, _, _, _, _, _, q9⟩ := (Whole.new w 26 (ptCells p A c)).cs10
  obtain ⟨inter, tsn, st, sq, pr, bg, en, un, nw, us⟩ := p
  simp only [] at q0 q3 q9 b0 ⊢
  cases inter with
  | true =>
    by_cases h1 : us = []
    · subst h1
      skip
      have HV : Hid (desB ⟨true, tsn, st, sq, pr, bg, en, un, nw, []⟩ = false) := by unfold Hid desB frontD; first | (simp; done) | (simp; omega)
      clear q3
      go_enter Tryz.func16, Tryz.ntmps16
      go_wp2_with fail
      go_ret
      exact ⟨by rw [HV.out]; rfl, b0⟩
    · have hl : 1 ≤ us.length := by cases us with
      | nil => exact absurd rfl h1
      | cons a b => simp
      have g1 : (1 : Int) ≤ (us.length : Int) := by omega
      have g0 : 0 < us.length := by omega
      by_cases h2 : us.length ≤ 65515
      · skip
        have g2 : (us.length : Int) ≤ 65515 := by omega
        have HV : Hid (desB ⟨true, tsn, st, sq, pr, bg, en, un, nw, us⟩ = true) := by unfold Hid desB frontD; first | (simp; done) | (simp; omega)
        clear h2 hl
        go_enter Tryz.func16, Tryz.ntmps16
        go_wp2_with fail
        go_ret
        exact ⟨by rw [HV.out]; rfl, b0⟩
      · skip
        have g2 : ¬ (us.length : Int) ≤ 65515 := by omega
        have HV : Hid (desB ⟨true, tsn, st, sq, pr, bg, en, un, nw, us⟩ = false) := by unfold Hid desB frontD; first | (simp; done) | (simp; omega)
        clear h2 hl
        go_enter Tryz.func16, Tryz.ntmps16
        go_wp2_with fail
        go_ret
        exact ⟨by rw [HV.out]; rfl, b0⟩
  | false =>
    by_cases h1 : us = []
    · subst h1
      by_cases h3 : sq.toNat ≤ 65535
      · skip
        have g3 : (sq.toNat : Int) ≤ 65535 := by omega
        have HV : Hid (desB ⟨false, tsn, st, sq, pr, bg, en, un, nw, []⟩ = false) := by unfold Hid desB frontD; first | (simp; done) | (simp; omega)
        clear h3
        go_enter Tryz.func16, Tryz.ntmps16
        go_wp2_with fail
        go_ret
        exact ⟨by rw [HV.out]; rfl, b0⟩
      · skip
        have g3 : ¬ (sq.toNat : Int) ≤ 65535 := by omega
        have HV : Hid (desB ⟨false, tsn, st, sq, pr, bg, en, un, nw, []⟩ = false) := by unfold Hid desB frontD; first | (simp; done) | (simp; omega)
        clear h3
        go_enter Tryz.func16, Tryz.ntmps16
        go_wp2_with fail
        go_ret
        exact ⟨by rw [HV.out]; rfl, b0⟩
    · have hl : 1 ≤ us.length := by cases us with
      | nil => exact absurd rfl h1
      | cons a b => simp
      have g1 : (1 : Int) ≤ (us.length : Int) := by omega
      have g0 : 0 < us.length := by omega
      by_cases h2 : us.length ≤ 65519
      · by_cases h3 : sq.toNat ≤ 65535
        · skip
          have g2 : (us.length : Int) ≤ 65519 := by omega
          have g3 : (sq.toNat : Int) ≤ 65535 := by omega
          have HV : Hid (desB ⟨false, tsn, st, sq, pr, bg, en, un, nw, us⟩ = true) := by unfold Hid desB frontD; first | (simp; done) | (simp; omega)
          clear h2 h3 hl
          go_enter Tryz.func16, Tryz.ntmps16
          go_wp2_with fail
          go_ret
          exact ⟨by rw [HV.out]; rfl, b0⟩
        · skip
          have g2 : (us.length : Int) ≤ 65519 := by omega
          have g3 : ¬ (sq.toNat : Int) ≤ 65535 := by omega
          have HV : Hid (desB ⟨false, tsn, st, sq, pr, bg, en, un, nw, us⟩ = false) := by unfold Hid desB frontD; first | (simp; done) | (simp; omega)
          clear h2 h3 hl
          go_enter Tryz.func16, Tryz.ntmps16
          go_wp2_with fail
          go_ret
          exact ⟨by rw [HV.out]; rfl, b0⟩
      · by_cases h3 : sq.toNat ≤ 65535
        · skip
          have g2 : ¬ (us.length : Int) ≤ 65519 := by omega
          have g3 : (sq.toNat : Int) ≤ 65535 := by omega
          have HV : Hid (desB ⟨false, tsn, st, sq, pr, bg, en, un, nw, us⟩ = false) := by unfold Hid desB frontD; first | (simp; done) | (simp; omega)
          clear h2 h3 hl
          go_enter Tryz.func16, Tryz.ntmps16
          go_wp2_with fail
          go_ret
          exact ⟨by rw [HV.out]; rfl, b0⟩
        · skip
          have g2 : ¬ (us.length : Int) ≤ 65519 := by omega
          have g3 : ¬ (sq.toNat : Int) ≤ 65535 := by omega
          have HV : Hid (desB ⟨false, tsn, st, sq, pr, bg, en, un, nw, us⟩ = false) := by unfold Hid desB frontD; first | (simp; done) | (simp; omega)
          clear h2 h3 hl
          go_enter Tryz.func16, Tryz.ntmps16
          go_wp2_with fail
          go_ret
          exact ⟨by rw [HV.out]; rfl, b0⟩
def few13B (p : Pt) : Bool := decide (p.us.length ≤ 1000)
set_option maxRecDepth 100000 in
set_option maxHeartbeats 1000000 in
theorem few13_any (p : Pt) (A : Option Addr) (c : Nat) (w : World) : Calls Tryz.prog 14 #[ptV p A c] w fun e w' => e = .returned (.bool (few13B p)) ∧ Below w.heap.size w w' := by
  have b0 : Below w.heap.size w (w.alloc (.cells (ptCells p A c) 26)) := (Below.refl _ w).alloc (Nat.le_refl _) _
  have x0 := Whole.new w 26 (ptCells p A c)
  unfold few13B
  obtain ⟨inter, tsn, st, sq, pr, bg, en, un, nw, us⟩ := p
  simp only [ptCells, ptV] at *
  obtain ⟨q0, q1, q2, q3, q4, q5, q6, q7, q8, q9⟩ := x0.cs10
  by_cases h : us.length ≤ 1000
  · rw [decide_eq_true h]
    have h1 : (us.length : Int) ≤ 1000 := by omega
    clear h
    go_enter Tryz.func14, Tryz.ntmps14
    go_wp2_with fail
    go_ret
    exact ⟨rfl, b0⟩
  · rw [decide_eq_false h]
    have h1 : ¬ (us.length : Int) ≤ 1000 := by omega
    clear h
    go_enter Tryz.func14, Tryz.ntmps14
    go_wp2_with fail
    go_ret
    exact ⟨rfl, b0⟩
theorem uv_of13 {z : Int} (h : 0 ≤ z ∧ z < 4294967296) : Value.int .u32 z = uv (UInt32.ofNat z.toNat) := by
  rw [uv, UInt32.toNat_ofNat']
  congr 1
  omega
section
variable {H : Type} {enc : TypeId × Value → H} {w : World} {fuel : Nat} {x : DataW H × List MemPlace}
set_option maxRecDepth 100000 in
set_option maxHeartbeats 2000000 in
/-- ten cells that are a description -/
theorem part_of_trod {u : List Value} (hf : DataW.trod enc Tryz.prog w 0 (fun _ => true) true fuel 26 u = some x) (hl : u.length = 10) :
    ∃ (p : Pt) (A : Option Addr) (c : Nat), u = (ptCells p A c).toList ∧ PtL w w.heap.size A c p := by
  match u, hl with
  | [u0, u1, u2, u3, u4, u5, u6, u7, u8, u9], _ =>
    obtain ⟨xs, n, hn, rfl, hl, hlen, hf⟩ := DataW.trod_struct Tryz.underlying26 hf
    match xs, hlen with
    | [y0, y1, y2, y3, y4, y5, y6, y7, y8, y9], _ =>
      have f0 : DataW.trod enc Tryz.prog w 0 (fun _ => true) true n 4 [u0] = some y0 := by
        have h9 := hf 0 _ rfl
        have e : Tryz.prog.cellsOf 4 = 1 := by kernel_rfl
        have h8 : DataW.trod enc Tryz.prog w 0 (fun _ => true) true n 4 (([u0, u1, u2, u3, u4, u5, u6, u7, u8, u9].drop 0).take (Tryz.prog.cellsOf 4)) = some y0 := h9
        rw [e] at h8
        exact h8
      have f1 : DataW.trod enc Tryz.prog w 0 (fun _ => true) true n 22 [u1] = some y1 := by
        have h9 := hf 1 _ rfl
        have e : Tryz.prog.cellsOf 22 = 1 := by kernel_rfl
        have h8 : DataW.trod enc Tryz.prog w 0 (fun _ => true) true n 22 (([u0, u1, u2, u3, u4, u5, u6, u7, u8, u9].drop 1).take (Tryz.prog.cellsOf 22)) = some y1 := h9
        rw [e] at h8
        exact h8
      have f2 : DataW.trod enc Tryz.prog w 0 (fun _ => true) true n 23 [u2] = some y2 := by
        have h9 := hf 2 _ rfl
        have e : Tryz.prog.cellsOf 23 = 1 := by kernel_rfl
        have h8 : DataW.trod enc Tryz.prog w 0 (fun _ => true) true n 23 (([u0, u1, u2, u3, u4, u5, u6, u7, u8, u9].drop 2).take (Tryz.prog.cellsOf 23)) = some y2 := h9
        rw [e] at h8
        exact h8
      have f3 : DataW.trod enc Tryz.prog w 0 (fun _ => true) true n 22 [u3] = some y3 := by
        have h9 := hf 3 _ rfl
        have e : Tryz.prog.cellsOf 22 = 1 := by kernel_rfl
        have h8 : DataW.trod enc Tryz.prog w 0 (fun _ => true) true n 22 (([u0, u1, u2, u3, u4, u5, u6, u7, u8, u9].drop 3).take (Tryz.prog.cellsOf 22)) = some y3 := h9
        rw [e] at h8
        exact h8
      have f4 : DataW.trod enc Tryz.prog w 0 (fun _ => true) true n 22 [u4] = some y4 := by
        have h9 := hf 4 _ rfl
        have e : Tryz.prog.cellsOf 22 = 1 := by kernel_rfl
        have h8 : DataW.trod enc Tryz.prog w 0 (fun _ => true) true n 22 (([u0, u1, u2, u3, u4, u5, u6, u7, u8, u9].drop 4).take (Tryz.prog.cellsOf 22)) = some y4 := h9
        rw [e] at h8
        exact h8
      have f5 : DataW.trod enc Tryz.prog w 0 (fun _ => true) true n 4 [u5] = some y5 := by
        have h9 := hf 5 _ rfl
        have e : Tryz.prog.cellsOf 4 = 1 := by kernel_rfl
        have h8 : DataW.trod enc Tryz.prog w 0 (fun _ => true) true n 4 (([u0, u1, u2, u3, u4, u5, u6, u7, u8, u9].drop 5).take (Tryz.prog.cellsOf 4)) = some y5 := h9
        rw [e] at h8
        exact h8
      have f6 : DataW.trod enc Tryz.prog w 0 (fun _ => true) true n 4 [u6] = some y6 := by
        have h9 := hf 6 _ rfl
        have e : Tryz.prog.cellsOf 4 = 1 := by kernel_rfl
        have h8 : DataW.trod enc Tryz.prog w 0 (fun _ => true) true n 4 (([u0, u1, u2, u3, u4, u5, u6, u7, u8, u9].drop 6).take (Tryz.prog.cellsOf 4)) = some y6 := h9
        rw [e] at h8
        exact h8
      have f7 : DataW.trod enc Tryz.prog w 0 (fun _ => true) true n 4 [u7] = some y7 := by
        have h9 := hf 7 _ rfl
        have e : Tryz.prog.cellsOf 4 = 1 := by kernel_rfl
        have h8 : DataW.trod enc Tryz.prog w 0 (fun _ => true) true n 4 (([u0, u1, u2, u3, u4, u5, u6, u7, u8, u9].drop 7).take (Tryz.prog.cellsOf 4)) = some y7 := h9
        rw [e] at h8
        exact h8
      have f8 : DataW.trod enc Tryz.prog w 0 (fun _ => true) true n 4 [u8] = some y8 := by
        have h9 := hf 8 _ rfl
        have e : Tryz.prog.cellsOf 4 = 1 := by kernel_rfl
        have h8 : DataW.trod enc Tryz.prog w 0 (fun _ => true) true n 4 (([u0, u1, u2, u3, u4, u5, u6, u7, u8, u9].drop 8).take (Tryz.prog.cellsOf 4)) = some y8 := h9
        rw [e] at h8
        exact h8
      have f9 : DataW.trod enc Tryz.prog w 0 (fun _ => true) true n 24 [u9] = some y9 := by
        have h9 := hf 9 _ rfl
        have e : Tryz.prog.cellsOf 24 = 1 := by kernel_rfl
        have h8 : DataW.trod enc Tryz.prog w 0 (fun _ => true) true n 24 (([u0, u1, u2, u3, u4, u5, u6, u7, u8, u9].drop 9).take (Tryz.prog.cellsOf 24)) = some y9 := h9
        rw [e] at h8
        exact h8
      obtain ⟨z0, g0, _⟩ := DataW.trod_bool Tryz.underlying4 f0
      obtain rfl := (List.cons.inj g0).1
      obtain ⟨z1, g1, _, wz1⟩ := DataW.trod_int Tryz.underlying22 f1
      obtain rfl := (List.cons.inj g1).1
      obtain ⟨z2, g2, _, wz2⟩ := DataW.trod_int Tryz.underlying23 f2
      obtain rfl := (List.cons.inj g2).1
      obtain ⟨z3, g3, _, wz3⟩ := DataW.trod_int Tryz.underlying22 f3
      obtain rfl := (List.cons.inj g3).1
      obtain ⟨z4, g4, _, wz4⟩ := DataW.trod_int Tryz.underlying22 f4
      obtain rfl := (List.cons.inj g4).1
      obtain ⟨z5, g5, _⟩ := DataW.trod_bool Tryz.underlying4 f5
      obtain rfl := (List.cons.inj g5).1
      obtain ⟨z6, g6, _⟩ := DataW.trod_bool Tryz.underlying4 f6
      obtain rfl := (List.cons.inj g6).1
      obtain ⟨z7, g7, _⟩ := DataW.trod_bool Tryz.underlying4 f7
      obtain rfl := (List.cons.inj g7).1
      obtain ⟨z8, g8, _⟩ := DataW.trod_bool Tryz.underlying4 f8
      obtain rfl := (List.cons.inj g8).1
      obtain ⟨A', l', c', rfl⟩ := slice_of_trod Tryz.underlying24 f9
      obtain ⟨pp, rfl, q2, q3, q4⟩ := open_bytes Tryz.underlying24 Tryz.underlying5 (by kernel_rfl) f9
      rw [uv_of13 (wf_u32 wz1), hv_of' (wf_u16 wz2), uv_of13 (wf_u32 wz3), uv_of13 (wf_u32 wz4)]
      exact ⟨⟨z0, UInt32.ofNat z1.toNat, u16of z2.toNat, UInt32.ofNat z3.toNat, UInt32.ofNat z4.toNat, z5, z6, z7, z8, pp⟩, A', c', rfl, q2, q3, q4⟩
end
section
variable {H : Type} {enc : TypeId × Value → H} {w : World} {base : Nat} {v : Value} {d : DataW H} {p : List MemPlace}
set_option maxRecDepth 100000 in
/-- an argument that is a description -/
theorem open_part (o : Value.okWide Tryz.prog w .any base 26 v) (h : DataW.Trod enc Tryz.prog w 0 (fun _ => true) true 26 v d p) :
    ∃ (p : Pt) (A : Option Addr) (c : Nat), v = ptV p A c ∧ PtL w w.heap.size A c p := by
  obtain ⟨cs, rfl, hsz⟩ := okWide_struct Tryz.underlying26 o
  obtain ⟨fuel, hf⟩ := h
  have c10 : Tryz.prog.cellsOf 26 = 10 := by kernel_rfl
  rw [c10] at hsz
  have hf' : DataW.trod enc Tryz.prog w 0 (fun _ => true) true fuel 26 cs.toList = some (d, p) := hf
  obtain ⟨q, A, c, e, hq⟩ := part_of_trod hf' (by simpa using hsz)
  refine ⟨q, A, c, ?_, hq⟩
  show Value.agg cs = .agg _
  congr 1
  exact Array.ext' e
end
end Go.Proofs.YtgjmgphmakiffaaGreatDoor


