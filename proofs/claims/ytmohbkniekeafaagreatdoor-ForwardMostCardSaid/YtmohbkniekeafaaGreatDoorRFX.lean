/- Layer 16: what an argument that is a skip, or skips, reads as. No condition of its own. -/
/- Layer 16: given, back; the reference's Compare. They write nothing that was there. -/
import Derived.Test.YtmohbkniekeafaaGreatDoorRNS
import Derived.Test.YtmohbkniekeafaaGreatDoorRA
import Derived.Test.YtmohbkniekeafaaGreatDoorRNodeUO
import Derived.Test.YtmohbkniekeafaaGreatDoorRCA
import Derived.ProofKit
import Derived.OpenShut
import Derived.LaidMore
import Derived.LaidHandle
import Derived.Lay
import Derived.Stop.Joined
import Derived.Test.YtmohbkniekeafaaGreatDoorRXA
import Derived.Test.YtmohbkniekeafaaGreatDoorRSKA
import Derived.Test.YtmohbkniekeafaaGreatDoorRFA
import Derived.Test.YtmohbkniekeafaaGreatDoorRFG


namespace Go.Proofs.YtmohbkniekeafaaGreatDoor
open Go.ChangeShapes Go.WideShapes Go.ChangeAt Go.RowKit

section
variable {H : Type} {enc : TypeId × Value → H} {w : World} {fuel : Nat} {x : DataW H × List MemPlace}
set_option maxRecDepth 100000 in
/-- three cells that are a skip -/
theorem fs_of_trod {u : List Value} (hf : DataW.trod enc Tryz.prog w 0 (fun _ => true) true fuel 68 u = some x) (hl : u.length = 3) : ∃ s : Fs, u = [hv s.st, .bool s.un, uv s.sq] := by
  match u, hl with
  | [u0, u1, u2], _ =>
    obtain ⟨xs, n, hn, rfl, hl, hlen, hf⟩ := DataW.trod_struct Tryz.underlying68 hf
    match xs, hlen with
    | [y0, y1, y2], _ =>
      have e0 : Tryz.prog.cellsOf 37 = 1 := by kernel_rfl
      have e1 : Tryz.prog.cellsOf 4 = 1 := by kernel_rfl
      have e2 : Tryz.prog.cellsOf 22 = 1 := by kernel_rfl
      have f0 : DataW.trod enc Tryz.prog w 0 (fun _ => true) true n 37 [u0] = some y0 := by
        have h8 : DataW.trod enc Tryz.prog w 0 (fun _ => true) true n 37 (([u0, u1, u2].drop 0).take (Tryz.prog.cellsOf 37)) = some y0 := hf 0 _ rfl
        rw [e0] at h8
        exact h8
      have f1 : DataW.trod enc Tryz.prog w 0 (fun _ => true) true n 4 [u1] = some y1 := by
        have h8 : DataW.trod enc Tryz.prog w 0 (fun _ => true) true n 4 (([u0, u1, u2].drop 1).take (Tryz.prog.cellsOf 4)) = some y1 := hf 1 _ rfl
        rw [e1] at h8
        exact h8
      have f2 : DataW.trod enc Tryz.prog w 0 (fun _ => true) true n 22 [u2] = some y2 := by
        have h8 : DataW.trod enc Tryz.prog w 0 (fun _ => true) true n 22 (([u0, u1, u2].drop 2).take (Tryz.prog.cellsOf 22)) = some y2 := hf 2 _ rfl
        rw [e2] at h8
        exact h8
      obtain ⟨z0, g0, _, wz0⟩ := DataW.trod_int Tryz.underlying37 f0
      obtain rfl := (List.cons.inj g0).1
      obtain ⟨z1, g1, _⟩ := DataW.trod_bool Tryz.underlying4 f1
      obtain rfl := (List.cons.inj g1).1
      obtain ⟨z2, g2, _, wz2⟩ := DataW.trod_int Tryz.underlying22 f2
      obtain rfl := (List.cons.inj g2).1
      exact ⟨⟨u16of z0.toNat, z1, UInt32.ofNat z2.toNat⟩, by rw [← hv_of' (wf_u16 wz0), ← uv_of13 (wf_u32 wz2)]⟩
end
section
variable {H : Type} {enc : TypeId × Value → H} {w : World} {base : Nat} {v : Value} {d : DataW H} {p : List MemPlace}
set_option maxRecDepth 100000 in
/-- an argument that is a skip -/
theorem open_skip (o : Value.okWide Tryz.prog w .any base 68 v) (h : DataW.Trod enc Tryz.prog w 0 (fun _ => true) true 68 v d p) : ∃ s : Fs, v = fsV s := by
  obtain ⟨cs, rfl, hsz⟩ := okWide_struct Tryz.underlying68 o
  obtain ⟨fuel, hf⟩ := h
  have c3 : Tryz.prog.cellsOf 68 = 3 := by kernel_rfl
  rw [c3] at hsz
  have hf' : DataW.trod enc Tryz.prog w 0 (fun _ => true) true fuel 68 cs.toList = some (d, p) := hf
  obtain ⟨s, hs⟩ := fs_of_trod hf' (by simpa using hsz)
  refine ⟨s, ?_⟩
  show Value.agg cs = .agg _
  congr 1
  exact Array.ext' hs
end
end Go.Proofs.YtmohbkniekeafaaGreatDoor



namespace Go.Proofs.YtmohbkniekeafaaGreatDoor
open Go.RowKit

set_option linter.unusedSimpArgs false
theorem fcmp_lt {a b : Fs} (h : a.st.toNat < b.st.toNat) : fcmp a b = -1 := by unfold fcmp cmp16; simp [h]
theorem fcmp_gt {a b : Fs} (h : b.st.toNat < a.st.toNat) : fcmp a b = 1 := by
  have h1 : ¬ a.st.toNat < b.st.toNat := by omega
  unfold fcmp cmp16
  simp [h, h1]
theorem fcmp_eq {a b : Fs} (h1 : ¬ a.st.toNat < b.st.toNat) (h2 : ¬ b.st.toNat < a.st.toNat) : fcmp a b = if a.un = b.un then 0 else if b.un = true then -1 else 1 := by
  unfold fcmp cmp16
  simp only [h1, h2, if_false]
  cases a.un <;> cases b.un <;> simp [unN]
set_option maxHeartbeats 4000000 in
theorem rcmp16_any (a b : Fs) (w : World) : Calls Tryz.prog 37 #[fsV a, fsV b] w fun e w' => e = .returned (.int .i64 (fcmp a b)) ∧ Below w.heap.size w w' := by
  have b0 : Below w.heap.size w ((w.alloc (.cells (fsCells a) 68)).alloc (.cells (fsCells b) 68)) := ((Below.refl _ w).alloc (Nat.le_refl _) _).alloc (by simp) _
  have x0 := (Whole.new w 68 (fsCells a)).alloc (.cells (fsCells b) 68)
  have y0 := Whole.new (w.alloc (.cells (fsCells a) 68)) 68 (fsCells b)
  rw [World.size_alloc] at y0
  have HL := Lib.hid (@fcmp_lt a b)
  have HG := Lib.hid (@fcmp_gt a b)
  have HE := Lib.hid (@fcmp_eq a b)
  generalize fcmp a b = r at *
  obtain ⟨sa, ua, qa⟩ := a
  obtain ⟨sb, ub, qb⟩ := b
  simp only [fsV, fsCells] at *
  obtain ⟨p0, p1, p2⟩ := wh3 x0
  obtain ⟨q0, q1, q2⟩ := wh3 y0
  by_cases h1 : sa.toNat < sb.toNat
  · obtain rfl := HL.out h1
    have e1 : (sa.toNat : Int) < (sb.toNat : Int) := by omega
    clear HL HG HE h1
    go_enter Tryz.func37, Tryz.ntmps37
    go_wp2_with fail
    go_ret
    exact ⟨rfl, b0⟩
  · have e1 : ¬ (sa.toNat : Int) < (sb.toNat : Int) := by omega
    by_cases h2 : sb.toNat < sa.toNat
    · obtain rfl := HG.out h2
      have e2 : (sb.toNat : Int) < (sa.toNat : Int) := by omega
      clear HL HG HE h1 h2
      go_enter Tryz.func37, Tryz.ntmps37
      go_wp2_with fail
      go_ret
      exact ⟨rfl, b0⟩
    · have e2 : ¬ (sb.toNat : Int) < (sa.toNat : Int) := by omega
      have hr := HE.out h1 h2
      clear HL HG HE h1 h2
      cases ua <;> cases ub <;> simp at hr <;> subst hr
      all_goals
        go_enter Tryz.func37, Tryz.ntmps37
        go_wp2_with fail
        go_ret
        exact ⟨rfl, b0⟩
end Go.Proofs.YtmohbkniekeafaaGreatDoor


