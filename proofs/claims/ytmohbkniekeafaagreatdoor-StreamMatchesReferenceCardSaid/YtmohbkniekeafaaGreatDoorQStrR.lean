/- Layer 17: the law StreamMatchesReference (written by tools/gen_str_p.py). It writes nothing that was there. -/
import Derived.Test.YtmohbkniekeafaaGreatDoorQSTP
import Derived.Test.YtmohbkniekeafaaGreatDoorQStrP
import Derived.Test.YtmohbkniekeafaaGreatDoorQStrQ
import Derived.Test.YtmohbkniekeafaaGreatDoorQNF
import Derived.BigGuard
import Derived.Deep.RegionHeld3







namespace Go.Proofs.YtmohbkniekeafaaGreatDoor
open Go.ChangeShapes Go.WideShapes Go.ChangeAt Go.RowKit

set_option linter.unusedSimpArgs false
set_option maxRecDepth 100000 in
set_option maxHeartbeats 4000000 in
/-- numbers that are too few or too many -/
theorem smr_out (v0 : Value) (ll : Nat) (Al : Option Addr) (cl : Nat) (sl : Nat) (As : Option Addr) (cs : Nat) (h : ll < 2 ∨ 50 < ll ∨ 300 < sl) (w : World) (hh : Handle w) :
    Calls Tryz.prog 10 #[v0, .slice Al ll cl, .slice As sl cs] w fun e w' => e = .returned (.bool true) ∧ Below w.heap.size w w' := by
  have HW := Lib.hid (awake17_any w hh)
  have HW1 := Lib.hid (fun (V : World) (hb : Below w.heap.size w V) => awake17_any V (hh.below hb hh.lt))
  have hc : ((ll : Int) < 2) ∨ (¬ (ll : Int) < 2 ∧ (50 : Int) < (ll : Int)) ∨ (¬ (ll : Int) < 2 ∧ ¬ (50 : Int) < (ll : Int) ∧ (300 : Int) < (sl : Int)) := by omega
  clear h hh
  rcases hc with h1 | ⟨h1, h2⟩ | ⟨h1, h2, h3⟩
  all_goals
    go_enter Tryz.func10, Tryz.ntmps10
    go_wp2_with fail
    refine HW.out.mono ?_
    rintro e w1 ⟨rfl, b1⟩
    have HW2 := Lib.hid (HW1.out w1 b1)
    go_wp2_with fail
    refine HW2.out.mono ?_
    rintro e w2 ⟨rfl, b2⟩
    go_wp2_with fail
    go_ret
    exact ⟨rfl, b1.trans (b2.mono b1.size)⟩
set_option maxRecDepth 100000 in
theorem law_StreamMatchesReference {H : Type} {enc : TypeId × Value → H} {W : World} {base : Nat} {v0 v1 v2 : Value} {d0 d1 d2 : DataW H} {p0 p1 p2 : List MemPlace}
    (o0 : Value.okWide Tryz.prog W .any base 22 v0) (h0 : DataW.Trod enc Tryz.prog W 0 (fun _ => true) true 22 v0 d0 p0) (_s0 : Small Tryz.prog 22 d0)
    (o1 : Value.okWide Tryz.prog W .any base 23 v1) (h1 : DataW.Trod enc Tryz.prog W 0 (fun _ => true) true 23 v1 d1 p1) (_s1 : Small Tryz.prog 23 d1)
    (o2 : Value.okWide Tryz.prog W .any base 36 v2) (h2 : DataW.Trod enc Tryz.prog W 0 (fun _ => true) true 36 v2 d2 p2) (_s2 : Small Tryz.prog 36 d2) (hL : laidMetH Tryz.prog laidL W) :
    Calls Tryz.prog 10 #[v0, v1, v2] W fun e w' => e = .returned (.bool true) ∧ Below W.heap.size W w' := by
  have hh := handle_of_laid hL
  obtain ⟨a, rfl, _, _, wa⟩ := open_int Tryz.underlying22 o0 h0
  obtain ⟨l, Al, cl, rfl, hl, hl1, hl2⟩ := open_row32 o1 h1
  obtain ⟨s, As, cs, rfl, hs, hs1, hs2⟩ := open_row16 o2 h2
  rw [uv17 (wf_u32 wa)]
  by_cases hr : l.length < 2 ∨ 50 < l.length ∨ 300 < s.length
  · exact smr_out _ _ Al cl _ As cs hr W hh
  · match l, hl, hl1, hr with
    | [], _, _, hr => exact absurd (.inl (by simp)) hr
    | [x0], _, _, hr => exact absurd (.inl (by simp)) hr
    | x0 :: x1 :: rr, hl, hl1, hr =>
      have g1 : ¬ 50 < (x0 :: x1 :: rr).length := fun h => hr (.inr (.inl h))
      have g2 : ¬ 300 < s.length := fun h => hr (.inr (.inr h))
      simp only [List.length_cons] at g1
      by_cases h3 : (x1 :: rr).length = 2
      · exact smr_yes _ x0 x1 rr (x1 :: rr) rfl h3 (by simp; omega) s (by omega) Al cl As cs W hl hl1 hl2 hs hh
      · exact smr_no _ x0 x1 rr (x1 :: rr) rfl h3 (by simp) (by simp; omega) s (by omega) Al cl As cs W hl hl1 hl2 hs hh
end Go.Proofs.YtmohbkniekeafaaGreatDoor


