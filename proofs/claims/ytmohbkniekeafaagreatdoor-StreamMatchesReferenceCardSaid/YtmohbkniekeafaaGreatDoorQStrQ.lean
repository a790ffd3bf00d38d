/- Layer 17: the law StreamMatchesReference (written by tools/gen_str_p.py). It writes nothing that was there. -/
import Derived.Test.YtmohbkniekeafaaGreatDoorQSTP
import Derived.Test.YtmohbkniekeafaaGreatDoorQNF
import Derived.BigGuard
import Derived.Deep.RegionHeld3





namespace Go.Proofs.YtmohbkniekeafaaGreatDoor
open Go.ChangeShapes Go.WideShapes Go.ChangeAt Go.RowKit

set_option linter.unusedSimpArgs false
set_option maxRecDepth 100000 in
set_option maxHeartbeats 32000000 in
theorem smr_no (a x0 x1 : UInt32) (rr r : List UInt32) (hrr : r = x1 :: rr) (hr : r.length ≠ 2) (hr1 : 1 ≤ r.length) (hr50 : r.length ≤ 49) (s : List UInt16) (hs300 : s.length ≤ 300) (Al : Option Addr) (cl : Nat) (As : Option Addr) (cs : Nat) (w : World) (hl : Lies w w.heap.size Al ((x0 :: r).map uv)) (hcl1 : (x0 :: r).length ≤ cl) (hcl2 : cl ≤ maxLen) (hs : Lies w w.heap.size As (s.map hv)) (hh : Handle w) :
    Calls Tryz.prog 10 #[uv a, .slice Al (x0 :: r).length cl, .slice As s.length cs] w fun e w' => e = .returned (.bool true) ∧ Below w.heap.size w w' := by
  have HW := Lib.hid (awake17_any w hh)
  obtain ⟨ad, hAl⟩ : ∃ ad, Al = some ad := by
    obtain ⟨ad, h1, _⟩ := hl (by simp)
    exact ⟨ad, h1⟩
  subst hAl
  obtain ⟨A5, c5, hsl5, l5, m5, m6⟩ := slice_from32 (some ad) cl (x0 :: r) 1 hl hcl1 hcl2 (by simp)
  have hsl5' : ∀ W : World, (Instr.slice 23 (.slice (some ad) (x0 :: r).length cl) (some (.int .i64 1)) none none).run Tryz.prog W = .ok (.slice A5 r.length c5) W := hsl5
  have l5' : Lies w w.heap.size A5 (r.map uv) := l5
  have LC : Hid (∀ V, Below w.heap.size w V → V.cell? ad = some (uv x0) ∧ V.cell? ⟨ad.block, ad.off + 1, none⟩ = some (uv x1)) := Lib.hid (fun V hV => by
    have hlV := hl.below hV
    obtain ⟨_, e1, _, e3⟩ := hlV.at_ (k := 0) (by simp)
    obtain ⟨_, f1, _, f3⟩ := hlV.at_ (k := 1) (by rw [hrr]; simp)
    cases e1
    cases f1
    refine ⟨?_, ?_⟩
    · rw [show ad = ad.add 0 by cases ad; rfl, e3]; simp
    · have f4 : V.cell? ⟨ad.block, ad.off + 1, none⟩ = _ := f3
      rw [f4]; simp [hrr])
  have HLO := Lib.hid (fun (V : World) (hV : Below w.heap.size w V) => (hl.below hV).more hV.size)
  have HSO := Lib.hid (fun (V : World) (hV : Below w.heap.size w V) => (hs.below hV).more hV.size)
  -- the builders
  obtain ⟨vA, hvA⟩ : ∃ v, (outN a x0 x1 s).v = v := ⟨_, rfl⟩
  obtain ⟨vB, hvB⟩ : ∃ v, (incN a s).v = v := ⟨_, rfl⟩
  obtain ⟨vC, hvC⟩ : ∃ v, (rspN a x0 r).v = v := ⟨_, rfl⟩
  obtain ⟨vD, hvD⟩ : ∃ v, (rspN a x0 []).v = v := ⟨_, rfl⟩
  obtain ⟨vE, hvE⟩ : ∃ v, (rstN a).v = v := ⟨_, rfl⟩
  obtain ⟨nA, hnA⟩ : ∃ n, vA.length = n := ⟨_, rfl⟩
  obtain ⟨nB, hnB⟩ : ∃ n, vB.length = n := ⟨_, rfl⟩
  obtain ⟨nC, hnC⟩ : ∃ n, vC.length = n := ⟨_, rfl⟩
  have hbA : nA = 12 + 2 * s.length := by rw [← hnA, ← hvA, outN_len]
  have hbB : nB = 4 + 2 * s.length := by rw [← hnB, ← hvB, incN_len]
  have hbC : nC = 8 + 4 * r.length := by rw [← hnC, ← hvC, rspN_len]
  have hnD : vD.length = 8 := by rw [← hvD, rspN_len]; rfl
  have hnE : vE.length = 4 := by rw [← hvE]; show (puts 4 [a]).length = 4; rw [puts_len]; rfl
  have eA : (.mk 13 vA [] : Nd) = outN a x0 x1 s := by rw [← hvA]; rfl
  have eB : (.mk 14 vB [] : Nd) = incN a s := by rw [← hvB]; rfl
  have eC : (.mk 16 vC [] : Nd) = rspN a x0 r := by rw [← hvC]; rfl
  have eD : (.mk 16 vD [] : Nd) = rspN a x0 [] := by rw [← hvD]; rfl
  have okA : chk 4 1 (outN a x0 x1 s) = 0 := outN_ok a x0 x1 s (by omega)
  have okB : chk 4 1 (incN a s) = 0 := by rw [chk14 _ rfl, incN_len]; exact ⟨⟨by omega, by omega, by omega⟩, rfl⟩
  have okD : chk 4 1 (rspN a x0 []) = 0 := rspN_ok a x0 [] (.inl rfl)
  have HGA : Hid (∀ V, Below w.heap.size w V → Calls Tryz.prog 41 #[uv a, uv x0, uv x1, .slice As s.length cs] V fun e w' => Below V.heap.size V w' ∧ ∃ A' c', e = .returned (.tuple #[.agg #[.int .u16 13, .slice A' nA c', .slice none 0 0], .bool true]) ∧ w'.ownsRow V.heap.size 5 1 (.slice A' nA c') nA (vA.map bv)) := Lib.hid (fun V hV => by
    have h9 := sm_mk (m := nA) (by rw [hvA, hnA]) okA (outgoing17 a x0 x1 As cs s V (HSO.out V hV) (by omega))
    rw [hvA] at h9
    exact h9)
  have HGB : Hid (∀ V, Below w.heap.size w V → Calls Tryz.prog 42 #[uv a, .slice As s.length cs] V fun e w' => Below V.heap.size V w' ∧ ∃ A' c', e = .returned (.tuple #[.agg #[.int .u16 14, .slice A' nB c', .slice none 0 0], .bool true]) ∧ w'.ownsRow V.heap.size 5 1 (.slice A' nB c') nB (vB.map bv)) := Lib.hid (fun V hV => by
    have h9 := sm_mk (m := nB) (by rw [hvB, hnB]) okB (incoming17 a As cs s V (HSO.out V hV) (by omega))
    rw [hvB] at h9
    exact h9)
  have HGD : Hid (∀ V : World, Calls Tryz.prog 43 #[uv a, uv x0, .slice none 0 0] V fun e w' => Below V.heap.size V w' ∧ ∃ A' c', e = .returned (.tuple #[.agg #[.int .u16 16, .slice A' 8 c', .slice none 0 0], .bool true]) ∧ w'.ownsRow V.heap.size 5 1 (.slice A' 8 c') 8 (vD.map bv)) := Lib.hid (fun V => by
    have h9 := sm_mk (m := 8) (by rw [hvD, hnD]) okD (response17 a x0 none 0 [] V Lies.nil (by simp))
    rw [hvD] at h9
    exact h9)
  have okC : chk 4 1 (rspN a x0 r) ≠ 0 := rsp_bad a x0 r hr1 hr
  have HGC : Hid (∀ V, Below w.heap.size w V → Calls Tryz.prog 43 #[uv a, uv x0, .slice A5 r.length c5] V fun e w' => Below V.heap.size V w' ∧ e = .returned (.tuple #[.agg #[.int .u16 0, .slice none 0 0, .slice none 0 0], .bool false])) := Lib.hid (fun V hV => sm_mkno okC (response17 a x0 A5 c5 r V ((l5'.below hV).more hV.size) (by omega)))
  have HMC : Hid (∀ (V : World) (A2 : Option Addr) (c2 B2 : Nat), V.ownsRow B2 5 1 (.slice A2 nC c2) nC (vC.map bv) → Calls Tryz.prog 44 #[.agg #[.int .u16 0, .slice none 0 0, .slice none 0 0], .bool false, .agg #[.int .u16 16, .slice A2 nC c2, .slice none 0 0]] V fun e w' => e = .returned (.bool true) ∧ Below V.heap.size V w') := Lib.hid (sm_no 16 vC nC hnC (by omega) (by rw [eC]; exact okC))
  have HGE : Hid (∀ V : World, Calls Tryz.prog 47 #[uv a] V fun e w' => Below V.heap.size V w' ∧ ∃ A' c', e = .returned (.agg #[.int .u16 15, .slice A' 4 c', .slice none 0 0]) ∧ w'.ownsRow V.heap.size 5 1 (.slice A' 4 c') 4 (vE.map bv)) := Lib.hid (fun V => by
    have h9 := reset17 a V
    rw [show puts 4 [a] = vE from hvE] at h9
    exact h9)
  have HMA : Hid (∀ (V : World) (A : Option Addr) (c B : Nat) (A2 : Option Addr) (c2 B2 : Nat), V.ownsRow B 5 1 (.slice A nA c) nA (vA.map bv) → V.ownsRow B2 5 1 (.slice A2 nA c2) nA (vA.map bv) → Calls Tryz.prog 44 #[.agg #[.int .u16 13, .slice A nA c, .slice none 0 0], .bool true, .agg #[.int .u16 13, .slice A2 nA c2, .slice none 0 0]] V fun e w' => e = .returned (.bool true) ∧ Below V.heap.size V w') := Lib.hid (sm_made 13 vA nA hnA (by omega) (by rw [eA]; exact okA))
  have HMB : Hid (∀ (V : World) (A : Option Addr) (c B : Nat) (A2 : Option Addr) (c2 B2 : Nat), V.ownsRow B 5 1 (.slice A nB c) nB (vB.map bv) → V.ownsRow B2 5 1 (.slice A2 nB c2) nB (vB.map bv) → Calls Tryz.prog 44 #[.agg #[.int .u16 14, .slice A nB c, .slice none 0 0], .bool true, .agg #[.int .u16 14, .slice A2 nB c2, .slice none 0 0]] V fun e w' => e = .returned (.bool true) ∧ Below V.heap.size V w') := Lib.hid (sm_made 14 vB nB hnB (by omega) (by rw [eB]; exact okB))
  have HMD : Hid (∀ (V : World) (A : Option Addr) (c B : Nat) (A2 : Option Addr) (c2 B2 : Nat), V.ownsRow B 5 1 (.slice A 8 c) 8 (vD.map bv) → V.ownsRow B2 5 1 (.slice A2 8 c2) 8 (vD.map bv) → Calls Tryz.prog 44 #[.agg #[.int .u16 16, .slice A 8 c, .slice none 0 0], .bool true, .agg #[.int .u16 16, .slice A2 8 c2, .slice none 0 0]] V fun e w' => e = .returned (.bool true) ∧ Below V.heap.size V w') := Lib.hid (sm_made 16 vD 8 hnD (by omega) (by rw [eD]; exact okD))
  have HME : Hid (∀ (V : World) (A : Option Addr) (c B : Nat) (A2 : Option Addr) (c2 B2 : Nat), V.ownsRow B 5 1 (.slice A 4 c) 4 (vE.map bv) → V.ownsRow B2 5 1 (.slice A2 4 c2) 4 (vE.map bv) → Calls Tryz.prog 46 #[.agg #[.int .u16 15, .slice A 4 c, .slice none 0 0], .agg #[.int .u16 15, .slice A2 4 c2, .slice none 0 0]] V fun e w' => e = .returned (.bool true) ∧ Below V.heap.size V w') := Lib.hid (sm_same 15 vE 4 hnE)
  have HBA : Hid (∀ V, Below w.heap.size w V → Calls Tryz.prog 45 #[.int .u16 13, .slice (some ⟨V.heap.size, 0, none⟩) 3 3, .slice As s.length cs] (V.alloc (.cells #[uv a, uv x0, uv x1] 22)).drew fun e w' => Below V.heap.size V w' ∧ ∃ A' c', e = .returned (.agg #[.int .u16 13, .slice A' nA c', .slice none 0 0]) ∧ w'.ownsRow V.heap.size 5 1 (.slice A' nA c') nA (vA.map bv)) := Lib.hid (fun V hV => by
    have b := below_drew ((Below.refl V.heap.size V).alloc (Nat.le_refl _) (.cells #[uv a, uv x0, uv x1] 22))
    exact Calls.mono (sm_build 13 vA [a, x0, x1] s hvA nA 3 s.length hnA rfl rfl (by omega) (by omega) _ (some ⟨V.heap.size, 0, none⟩) 3 As cs ((lies_n17 V [a, x0, x1]).keep fun _ _ => rfl) (HSO.out _ (hV.trans (b.mono hV.size)))) fun e w' h => ⟨b.trans (h.1.mono b.size), by
      obtain ⟨_, A', c', he, ho⟩ := h
      exact ⟨A', c', he, own_base ho b.size⟩⟩)
  have HBB : Hid (∀ V, Below w.heap.size w V → Calls Tryz.prog 45 #[.int .u16 14, .slice (some ⟨V.heap.size, 0, none⟩) 1 1, .slice As s.length cs] (V.alloc (.cells #[uv a] 22)) fun e w' => Below V.heap.size V w' ∧ ∃ A' c', e = .returned (.agg #[.int .u16 14, .slice A' nB c', .slice none 0 0]) ∧ w'.ownsRow V.heap.size 5 1 (.slice A' nB c') nB (vB.map bv)) := Lib.hid (fun V hV => by
    have b := (Below.refl V.heap.size V).alloc (Nat.le_refl _) (.cells #[uv a] 22)
    exact Calls.mono (sm_build 14 vB [a] s hvB nB 1 s.length hnB rfl rfl (by omega) (by omega) _ (some ⟨V.heap.size, 0, none⟩) 1 As cs (lies_n17 V [a]) (HSO.out _ (hV.trans (b.mono hV.size)))) fun e w' h => ⟨b.trans (h.1.mono b.size), by
      obtain ⟨_, A', c', he, ho⟩ := h
      exact ⟨A', c', he, own_base ho b.size⟩⟩)
  have HBC : Hid (∀ (V : World) (A' : Option Addr) (c' : Nat), Lies V V.heap.size A' ((a :: x0 :: r).map uv) → Calls Tryz.prog 45 #[.int .u16 16, .slice A' (1 + (x0 :: r).length) c', .slice none 0 0] V fun e w' => Below V.heap.size V w' ∧ ∃ A' c', e = .returned (.agg #[.int .u16 16, .slice A' nC c', .slice none 0 0]) ∧ w'.ownsRow V.heap.size 5 1 (.slice A' nC c') nC (vC.map bv)) := Lib.hid (fun V A' c' hL =>
    sm_build 16 vC (a :: x0 :: r) [] ((rsp_cons a x0 r).trans hvC) nC (1 + (x0 :: r).length) 0 hnC (by simp; omega) rfl (by simp; omega) (by omega) V A' c' none 0 hL Lies.nil)
  have HBD : Hid (∀ V : World, Calls Tryz.prog 45 #[.int .u16 16, .slice (some ⟨V.heap.size, 0, none⟩) 2 2, .slice none 0 0] (V.alloc (.cells #[uv a, uv x0] 22)) fun e w' => Below V.heap.size V w' ∧ ∃ A' c', e = .returned (.agg #[.int .u16 16, .slice A' 8 c', .slice none 0 0]) ∧ w'.ownsRow V.heap.size 5 1 (.slice A' 8 c') 8 (vD.map bv)) := Lib.hid (fun V => by
    have b := (Below.refl V.heap.size V).alloc (Nat.le_refl _) (.cells #[uv a, uv x0] 22)
    exact Calls.mono (sm_build 16 vD [a, x0] [] ((rsp_cons a x0 []).trans hvD) 8 2 0 hnD rfl rfl (by omega) (by omega) _ (some ⟨V.heap.size, 0, none⟩) 2 none 0 (lies_n17 V [a, x0]) Lies.nil) fun e w' h => ⟨b.trans (h.1.mono b.size), by
      obtain ⟨_, A', c', he, ho⟩ := h
      exact ⟨A', c', he, own_base ho b.size⟩⟩)
  have HBE : Hid (∀ (V : World) (A' : Option Addr), Lies V V.heap.size A' [uv a] → Calls Tryz.prog 45 #[.int .u16 15, .slice A' 1 1, .slice none 0 0] V fun e w' => Below V.heap.size V w' ∧ ∃ A' c', e = .returned (.agg #[.int .u16 15, .slice A' 4 c', .slice none 0 0]) ∧ w'.ownsRow V.heap.size 5 1 (.slice A' 4 c') 4 (vE.map bv)) := Lib.hid (fun V A' hL =>
    sm_build 15 vE [a] [] (by rw [← hvE]; show puts 4 [a] ++ puts 2 (wid []) = puts 4 [a]; simp [wid, puts]) 4 1 0 hnE rfl rfl (by omega) (by omega) V A' 1 none 0 hL Lies.nil)
  have hL2 : 2 ≤ (x0 :: r).length := by rw [hrr]; simp
  have h2l : ¬ ((x0 :: r).length : Int) < 2 := by omega
  have h50 : ¬ (50 : Int) < ((x0 :: r).length : Int) := by simp; omega
  have h300 : ¬ (300 : Int) < (s.length : Int) := by omega
  have hi0 : 0 < (x0 :: r).length := by omega
  have hi1 : (1 : Int) < ((x0 :: r).length : Int) := by omega
  have hL51 : (x0 :: r).length ≤ 50 := by simp; omega
  have hmap : (x0 :: r).map uv = uv x0 :: r.map uv := rfl
  have HMAP : Hid ([uv a] ++ (x0 :: r).map uv = (a :: x0 :: r).map uv) := Lib.hid rfl
  have HLL : Hid (((x0 :: r).map uv).length = (x0 :: r).length) := Lib.hid (by simp)
  have HON : Hid (∀ u ∈ (x0 :: r).map uv, u.oneCell' = true) := Lib.hid (by intro u hu; obtain ⟨_, _, rfl⟩ := List.mem_map.1 hu; rfl)
  clear hvA hvB hvC hvD hvE hnA hnB hnC hbA hbB hbC hnD hnE eA eB eC eD okA okB okC okD hl hs hh hcl1 hcl2 l5 m5 m6 hsl5 l5' hrr hmap hr50 hs300
  (try clear hr)
  (try clear hr1)
  generalize (x0 :: r).length = ll at *
  generalize (x0 :: r).map uv = lv at *
  generalize (a :: x0 :: r).map uv = lw at *
  go_enter Tryz.func10, Tryz.ntmps10
  go_wp2_with fail
  refine HW.out.mono ?_
  rintro e w1 ⟨rfl, b1⟩
  clear HW
  go_upto_region 3 with fail
  refine cut_post17 (fun QQ => ∀ (u15 u16 u17 u18 u19 u20 u21 u22 u23 u24 u25 u26 u27 u28 u29 u30 u31 u32 u33 u34 u35 u36 u37 u38 u39 u40 u41 u42 u43 u44 : Value) (g : Nat) (A2 : Option Addr) (c2 : Nat) (bb : Nat) (W : World), Whole W g 76 #[.int .u16 13, .slice A2 nA c2, .slice none 0 0] → W.ownsRow bb 5 1 (.slice A2 nA c2) nA (vA.map bv) → Below w1.heap.size w1 W → w1.heap.size ≤ g → QQ Exit.normal { tmps := #[uv a, .slice (some ad) ll cl, .slice As s.length cs, undef, undef, undef, .bool false, .pointer (some ⟨g, 0, none⟩), .bool true, undef, undef, undef, undef, undef, undef, u15, u16, u17, u18, u19, u20, u21, u22, u23, u24, u25, u26, u27, u28, u29, u30, u31, u32, u33, u34, u35, u36, u37, u38, u39, u40, u41, u42, u43, u44, undef, undef, undef, undef, undef, undef, undef, undef, undef, undef, undef, undef, undef, undef, undef, undef, undef, undef, undef, undef, undef, undef, undef, undef, undef, undef, undef, undef, undef, undef, undef, undef, undef, undef, undef, undef, undef, undef, undef, undef, undef, undef, undef, undef, undef, undef, undef, undef, undef, undef, undef, undef, undef, undef, undef, undef, undef, undef, undef, undef, undef, undef, undef, undef, undef, undef, undef, undef, undef, undef, undef, undef, undef, undef, undef], defers := [] } W) ?_ (fun hT => ?_)
  rotate_left
  · refine wp_region_held_drew (S := (fun V => V.cell? ad = some (uv x0) ∧ V.cell? ⟨ad.block, ad.off + 1, none⟩ = some (uv x1))) (by kernel_rfl) (LC.out w1.drew (below_drew b1)) (fun hHeld => ?_)
    refine take_at (i := 0) (v := ?_) (some 34) rfl (by kernel_rfl) (by kernel_rfl) (by kernel_rfl) (fun _ _ _ h => h) (by kernel_rfl) (Or.inl ⟨by kernel_rfl, ?_⟩) (by assumption) ?_
    rotate_left
    · (intro w hSw; (try dsimp only at hSw); go_simp <;> with_reducible rfl)
    simp only [Act.put, List.setIfInBounds_toArray, List.set_cons_zero, List.set_cons_succ]
    refine take_at (i := 1) (v := ?_) (some 35) rfl (by kernel_rfl) (by kernel_rfl) (by kernel_rfl) (fun _ _ _ h => h) (by kernel_rfl) (Or.inl ⟨by kernel_rfl, ?_⟩) (by assumption) ?_
    rotate_left
    · (intro w hSw; (try dsimp only at hSw); go_simp <;> with_reducible rfl)
    simp only [Act.put, List.setIfInBounds_toArray, List.set_cons_zero, List.set_cons_succ]
    refine take_at (i := 2) (v := ?_) (some 36) rfl (by kernel_rfl) (by kernel_rfl) (by kernel_rfl) (fun _ _ _ h => h) (by kernel_rfl) (Or.inl ⟨by kernel_rfl, ?_⟩) (by assumption) ?_
    rotate_left
    · (intro w hSw; (try dsimp only at hSw); go_simp <;> with_reducible rfl)
    simp only [Act.put, List.setIfInBounds_toArray, List.set_cons_zero, List.set_cons_succ]
    refine take_at (i := 3) (v := ?_) (some 37) rfl (by kernel_rfl) (by kernel_rfl) (by kernel_rfl) (fun _ _ _ h => h) (by kernel_rfl) (Or.inl ⟨by kernel_rfl, ?_⟩) (by assumption) ?_
    rotate_left
    · (intro w hSw; (try dsimp only at hSw); go_simp <;> with_reducible rfl)
    simp only [Act.put, List.setIfInBounds_toArray, List.set_cons_zero, List.set_cons_succ]
    refine take_at (i := 4) (v := ?_) (some 38) rfl (by kernel_rfl) (by kernel_rfl) (by kernel_rfl) (fun _ _ _ h => h) (by kernel_rfl) (Or.inl ⟨by kernel_rfl, ?_⟩) (by assumption) ?_
    rotate_left
    · (intro w hSw; (try dsimp only at hSw); go_simp <;> with_reducible rfl)
    simp only [Act.put, List.setIfInBounds_toArray, List.set_cons_zero, List.set_cons_succ]
    refine take_at (i := 5) (v := ?_) (some 39) rfl (by kernel_rfl) (by kernel_rfl) (by kernel_rfl) (fun _ _ _ h => h) (by kernel_rfl) (Or.inl ⟨by kernel_rfl, ?_⟩) (by assumption) ?_
    rotate_left
    · (intro w hSw; (try dsimp only at hSw); go_simp <;> with_reducible rfl)
    simp only [Act.put, List.setIfInBounds_toArray, List.set_cons_zero, List.set_cons_succ]
    refine take_at (i := 6) (v := ?_) (some 40) rfl (by kernel_rfl) (by kernel_rfl) (by kernel_rfl) (fun _ _ _ h => h) (by kernel_rfl) (Or.inl ⟨by kernel_rfl, ?_⟩) (by assumption) ?_
    rotate_left
    · (intro w hSw; (try dsimp only at hSw); go_simp <;> with_reducible rfl)
    simp only [Act.put, List.setIfInBounds_toArray, List.set_cons_zero, List.set_cons_succ]
    refine take_at (i := 7) (v := ?_) (some 41) rfl (by kernel_rfl) (by kernel_rfl) (by kernel_rfl) (fun _ _ _ h => h) (by kernel_rfl) (Or.inl ⟨by kernel_rfl, ?_⟩) (by assumption) ?_
    rotate_left
    · (intro w hSw; (try dsimp only at hSw); go_simp <;> with_reducible rfl)
    simp only [Act.put, List.setIfInBounds_toArray, List.set_cons_zero, List.set_cons_succ]
    refine wpAnyH_ready (rs := [8, 12]) (by kernel_rfl) (by simp) ?_
    refine AllReadyH.cons rfl (fun K hK => ?_) (AllReadyH.cons rfl (fun K hK => ?_) AllReadyH.nil)
    · have hq := HGA.out w1.drew (below_drew b1)
      go_simp
      go_at_call 41; (with_reducible refine hq.mono ?_); rintro e w2 ⟨b2, A2, c2, rfl, o2⟩
      go_wp2_with fail
      clear hq
      have V2 : Below w1.heap.size w1 w2 := below_undrew13 b2
      clear hHeld
      refine hK.out _ _ (LC.out w2 (b1.trans (V2.mono b1.size))) (fun hHeld => ?_)
      clear hK K
      try simp only [Act.put, List.setIfInBounds_toArray, List.set_cons_zero, List.set_cons_succ]
      refine take_at (i := 9) (v := ?_) (some 33) rfl (by kernel_rfl) (by kernel_rfl) (by kernel_rfl) (fun _ _ _ h => h) (by kernel_rfl) (Or.inl ⟨by kernel_rfl, ?_⟩) (by assumption) ?_
      rotate_left
      · (intro w hSw; (try dsimp only at hSw); go_simp <;> with_reducible rfl)
      simp only [Act.put, List.setIfInBounds_toArray, List.set_cons_zero, List.set_cons_succ]
      refine take_at (i := 10) (v := ?_) (some 43) rfl (by kernel_rfl) (by kernel_rfl) (by kernel_rfl) (fun _ _ _ h => h) (by kernel_rfl) (Or.inl ⟨by kernel_rfl, ?_⟩) (by assumption) ?_
      rotate_left
      · (intro w hSw; (try dsimp only at hSw); go_simp <;> with_reducible rfl)
      simp only [Act.put, List.setIfInBounds_toArray, List.set_cons_zero, List.set_cons_succ]
      refine take_at (i := 11) (v := ?_) (some 44) rfl (by kernel_rfl) (by kernel_rfl) (by kernel_rfl) (fun _ _ _ h => h) (by kernel_rfl) (Or.inl ⟨by kernel_rfl, ?_⟩) (by assumption) ?_
      rotate_left
      · (intro w hSw; (try dsimp only at hSw); go_simp <;> with_reducible rfl)
      simp only [Act.put, List.setIfInBounds_toArray, List.set_cons_zero, List.set_cons_succ]
      refine wpAnyH_ready (rs := [12]) (by kernel_rfl) (by simp) ?_
      refine AllReadyH.cons rfl (fun K hK => ?_) AllReadyH.nil
      go_simp
      have V3 := V2.alloc V2.size (.cells #[.int .u16 0, .slice none 0 0, .slice none 0 0] 76)
      clear hHeld
      refine hK.out _ _ (LC.out _ (b1.trans (V3.mono b1.size))) (fun hHeld => ?_)
      clear hK K
      try simp only [Act.put, List.setIfInBounds_toArray, List.set_cons_zero, List.set_cons_succ]
      refine wpAnyH_ready (rs := [13]) (by kernel_rfl) (by simp) ?_
      refine AllReadyH.cons rfl (fun K hK => ?_) AllReadyH.nil
      go_simp
      have y4 := Whole.new w2 76 #[.int .u16 13, .slice A2 nA c2, .slice none 0 0]
      have o4 := o2.alloc (.cells #[.int .u16 13, .slice A2 nA c2, .slice none 0 0] 76)
      have V4 := V2.alloc V2.size (.cells #[.int .u16 13, .slice A2 nA c2, .slice none 0 0] 76)
      have G4 : w1.heap.size ≤ w2.heap.size := V2.size
      clear hHeld
      refine hK.out _ _ (LC.out _ (b1.trans (V4.mono b1.size))) (fun hHeld => ?_)
      clear hK K
      try simp only [Act.put, List.setIfInBounds_toArray, List.set_cons_zero, List.set_cons_succ]
      refine take_at (i := 14) (v := ?_) (some 8) rfl (by kernel_rfl) (by kernel_rfl) (by kernel_rfl) (fun _ _ _ h => h) (by kernel_rfl) (Or.inl ⟨by kernel_rfl, ?_⟩) (by assumption) ?_
      rotate_left
      · (intro w hSw; (try dsimp only at hSw); go_simp <;> with_reducible rfl)
      simp only [Act.put, List.setIfInBounds_toArray, List.set_cons_zero, List.set_cons_succ]
      refine wpAnyH_done (by kernel_rfl) ?_ _
      exact hT _ _ _ _ _ _ _ _ _ _ _ _ _ _ _ _ _ _ _ _ _ _ _ _ _ _ _ _ _ _ _ _ _ _ _ y4 o4 V4 G4
    · go_simp
      clear hHeld
      refine hK.out _ _ (LC.out _ (below_drew (b1.alloc b1.size _))) (fun hHeld => ?_)
      clear hK K
      try simp only [Act.put, List.setIfInBounds_toArray, List.set_cons_zero, List.set_cons_succ]
      refine wpAnyH_ready (rs := [8]) (by kernel_rfl) (by simp) ?_
      refine AllReadyH.cons rfl (fun K hK => ?_) AllReadyH.nil
      have hq := HGA.out (w1.alloc (.cells #[.int .u16 0, .slice none 0 0, .slice none 0 0] 76)).drew (below_drew (b1.alloc b1.size _))
      go_simp
      go_at_call 41; (with_reducible refine hq.mono ?_); rintro e w2 ⟨b2, A2, c2, rfl, o2⟩
      go_wp2_with fail
      clear hq
      have V2 : Below w1.heap.size w1 w2 := ((Below.refl _ _).alloc (Nat.le_refl _) (.cells #[.int .u16 0, .slice none 0 0, .slice none 0 0] 76)).trans ((below_undrew13 b2).mono (by show _ ≤ (World.alloc _ _).heap.size; simp))
      have y3 : Whole w2 w1.heap.size 76 #[.int .u16 0, .slice none 0 0, .slice none 0 0] := (Whole.new w1 76 #[.int .u16 0, .slice none 0 0, .slice none 0 0]).below (below_undrew13 b2) (by show _ < (World.alloc _ _).heap.size; simp)
      clear hHeld
      refine hK.out _ _ (LC.out w2 (b1.trans (V2.mono b1.size))) (fun hHeld => ?_)
      clear hK K
      try simp only [Act.put, List.setIfInBounds_toArray, List.set_cons_zero, List.set_cons_succ]
      refine take_at (i := 9) (v := ?_) (some 33) rfl (by kernel_rfl) (by kernel_rfl) (by kernel_rfl) (fun _ _ _ h => h) (by kernel_rfl) (Or.inl ⟨by kernel_rfl, ?_⟩) (by assumption) ?_
      rotate_left
      · (intro w hSw; (try dsimp only at hSw); go_simp <;> with_reducible rfl)
      simp only [Act.put, List.setIfInBounds_toArray, List.set_cons_zero, List.set_cons_succ]
      refine take_at (i := 10) (v := ?_) (some 43) rfl (by kernel_rfl) (by kernel_rfl) (by kernel_rfl) (fun _ _ _ h => h) (by kernel_rfl) (Or.inl ⟨by kernel_rfl, ?_⟩) (by assumption) ?_
      rotate_left
      · (intro w hSw; (try dsimp only at hSw); go_simp <;> with_reducible rfl)
      simp only [Act.put, List.setIfInBounds_toArray, List.set_cons_zero, List.set_cons_succ]
      refine take_at (i := 11) (v := ?_) (some 44) rfl (by kernel_rfl) (by kernel_rfl) (by kernel_rfl) (fun _ _ _ h => h) (by kernel_rfl) (Or.inl ⟨by kernel_rfl, ?_⟩) (by assumption) ?_
      rotate_left
      · (intro w hSw; (try dsimp only at hSw); go_simp <;> with_reducible rfl)
      simp only [Act.put, List.setIfInBounds_toArray, List.set_cons_zero, List.set_cons_succ]
      refine wpAnyH_ready (rs := [13]) (by kernel_rfl) (by simp) ?_
      refine AllReadyH.cons rfl (fun K hK => ?_) AllReadyH.nil
      have f0 := y3.frozen 0
      have f1 := y3.frozen 1
      have f2 := y3.frozen 2
      obtain ⟨m0, m1, m2⟩ := wh317 y3
      go_simp
      have y4 : Whole _ w1.heap.size 76 #[.int .u16 13, .slice A2 nA c2, .slice none 0 0] := ((y3.set_ 0 (.int .u16 13)).set_ 1 (.slice A2 nA c2)).set_ 2 (.slice none 0 0)
      have o4 := own_set13 (i := 2) (u := .slice none 0 0) (own_set13 (i := 1) (u := .slice A2 nA c2) (own_set13 (i := 0) (u := .int .u16 13) o2 y3 (by decide)) (y3.set_ 0 _) (by decide)) ((y3.set_ 0 _).set_ 1 _) (by decide)
      have V4 := ((V2.setCell (p := ⟨w1.heap.size, 0, none⟩) (Nat.le_refl _) (.int .u16 13)).setCell (p := ⟨w1.heap.size, 1, none⟩) (Nat.le_refl _) (.slice A2 nA c2)).setCell (p := ⟨w1.heap.size, 2, none⟩) (Nat.le_refl _) (.slice none 0 0)
      have G4 : w1.heap.size ≤ w1.heap.size := (Nat.le_refl _)
      clear hHeld
      refine hK.out _ _ (LC.out _ (b1.trans (V4.mono b1.size))) (fun hHeld => ?_)
      clear hK K
      try simp only [Act.put, List.setIfInBounds_toArray, List.set_cons_zero, List.set_cons_succ]
      refine take_at (i := 14) (v := ?_) (some 8) rfl (by kernel_rfl) (by kernel_rfl) (by kernel_rfl) (fun _ _ _ h => h) (by kernel_rfl) (Or.inl ⟨by kernel_rfl, ?_⟩) (by assumption) ?_
      rotate_left
      · (intro w hSw; (try dsimp only at hSw); go_simp <;> with_reducible rfl)
      simp only [Act.put, List.setIfInBounds_toArray, List.set_cons_zero, List.set_cons_succ]
      refine wpAnyH_done (by kernel_rfl) ?_ _
      exact hT _ _ _ _ _ _ _ _ _ _ _ _ _ _ _ _ _ _ _ _ _ _ _ _ _ _ _ _ _ _ _ _ _ _ _ y4 o4 V4 G4
  intro u15 u16 u17 u18 u19 u20 u21 u22 u23 u24 u25 u26 u27 u28 u29 u30 u31 u32 u33 u34 u35 u36 u37 u38 u39 u40 u41 u42 u43 u44 g2 A2 c2 bA w3 x3 o3 V3 G3
  have B3 := b1.trans (V3.mono b1.size)
  have hg2 : w.heap.size ≤ g2 := Nat.le_trans b1.size G3
  clear V3 G3 b1 HGA
  have HB3 := Lib.hid (HGB.out w3 B3)
  go_wp2_with fail
  refine HB3.out.mono ?_
  rintro e w4 ⟨b4, A4, c4, rfl, o4⟩
  have B4 := B3.trans (b4.mono B3.size)
  have x4 := x3.below b4 x3.lt
  have p4 := own_below' o3 b4
  clear HB3 HGB x3 o3 B3 b4
  go_upto_region 5 with fail
  have B5 := B4.alloc B4.size (.cells #[.int .u16 14, .slice A4 nB c4, .slice none 0 0] 76)
  have x5 := x4.alloc (.cells #[.int .u16 14, .slice A4 nB c4, .slice none 0 0] 76)
  have y5 := Whole.new w4 76 #[.int .u16 14, .slice A4 nB c4, .slice none 0 0]
  have p5 := p4.alloc (.cells #[.int .u16 14, .slice A4 nB c4, .slice none 0 0] 76)
  have o5 := o4.alloc (.cells #[.int .u16 14, .slice A4 nB c4, .slice none 0 0] 76)
  generalize w4.alloc (.cells #[.int .u16 14, .slice A4 nB c4, .slice none 0 0] 76) = w5 at *
  generalize w4.heap.size = g4 at *
  clear B4 x4 p4 o4
  refine cut_post17 (fun QQ => ∀ (u15 u16 u17 u18 u19 u20 u21 u22 u23 u24 u25 u26 u27 u28 u29 u30 u31 u32 u33 u34 u35 u36 u37 u38 u39 u40 u41 u42 u43 u44 u45 u46 u47 u48 u49 u50 u51 u52 u53 u54 u55 u56 u57 u58 u59 u60 : Value) (g : Nat) (W : World), Whole W g 76 #[.int .u16 0, .slice none 0 0, .slice none 0 0] → Below w5.heap.size w5 W → w5.heap.size ≤ g → QQ Exit.normal { tmps := #[uv a, .slice (some ad) ll cl, .slice As s.length cs, undef, undef, undef, .bool false, .pointer (some ⟨g2, 0, none⟩), .bool true, .pointer (some ⟨g4, 0, none⟩), .bool true, .pointer (some ⟨g, 0, none⟩), .bool false, undef, undef, u15, u16, u17, u18, u19, u20, u21, u22, u23, u24, u25, u26, u27, u28, u29, u30, u31, u32, u33, u34, u35, u36, u37, u38, u39, u40, u41, u42, u43, u44, u45, u46, u47, u48, u49, u50, u51, u52, u53, u54, u55, u56, u57, u58, u59, u60, undef, undef, undef, undef, undef, undef, undef, undef, undef, undef, undef, undef, undef, undef, undef, undef, undef, undef, undef, undef, undef, undef, undef, undef, undef, undef, undef, undef, undef, undef, undef, undef, undef, undef, undef, undef, undef, undef, undef, undef, undef, undef, undef, undef, undef, undef, undef, undef, undef, undef, undef, undef, undef, undef, undef, undef, undef, undef, undef], defers := [] } W) ?_ (fun hT => ?_)
  rotate_left
  · refine wp_region_held_drew (S := (fun V => V.cell? ad = some (uv x0) ∧ V.cell? ⟨ad.block, ad.off + 1, none⟩ = some (uv x1))) (by kernel_rfl) (LC.out w5.drew (below_drew B5)) (fun hHeld => ?_)
    refine take_at (i := 0) (v := ?_) (some 52) rfl (by kernel_rfl) (by kernel_rfl) (by kernel_rfl) (fun _ _ _ h => h) (by kernel_rfl) (Or.inl ⟨by kernel_rfl, ?_⟩) (by assumption) ?_
    rotate_left
    · (intro w hSw; (try dsimp only at hSw); go_simp <;> with_reducible rfl)
    simp only [Act.put, List.setIfInBounds_toArray, List.set_cons_zero, List.set_cons_succ]
    refine take_at (i := 1) (v := ?_) (some 53) rfl (by kernel_rfl) (by kernel_rfl) (by kernel_rfl) (fun _ _ _ h => h) (by kernel_rfl) (Or.inl ⟨by kernel_rfl, ?_⟩) (by assumption) ?_
    rotate_left
    · (intro w hSw; (try dsimp only at hSw); go_simp <;> with_reducible rfl)
    simp only [Act.put, List.setIfInBounds_toArray, List.set_cons_zero, List.set_cons_succ]
    refine take_at (i := 2) (v := ?_) (some 54) rfl (by kernel_rfl) (by kernel_rfl) (by kernel_rfl) (fun _ _ _ h => h) (by kernel_rfl) (Or.inl ⟨by kernel_rfl, ?_⟩) (by assumption) ?_
    rotate_left
    · (intro w hSw; (try dsimp only at hSw); go_simp <;> with_reducible rfl)
    simp only [Act.put, List.setIfInBounds_toArray, List.set_cons_zero, List.set_cons_succ]
    refine take_at (i := 3) (v := ?_) (some 55) rfl (by kernel_rfl) (by kernel_rfl) (by kernel_rfl) (fun _ _ _ h => h) (by kernel_rfl) (Or.inl ⟨by kernel_rfl, ?_⟩) (by assumption) ?_
    rotate_left
    · (intro w hSw; (try dsimp only at hSw); go_simp <;> with_reducible rfl)
    simp only [Act.put, List.setIfInBounds_toArray, List.set_cons_zero, List.set_cons_succ]
    refine take_at (i := 4) (v := ?_) (some 56) rfl (by kernel_rfl) (by kernel_rfl) (by kernel_rfl) (fun _ _ _ h => h) (by kernel_rfl) (Or.inl ⟨by kernel_rfl, ?_⟩) (by assumption) ?_
    rotate_left
    · (intro w hSw; (try dsimp only at hSw); go_simp <;> with_reducible rfl)
    simp only [Act.put, List.setIfInBounds_toArray, List.set_cons_zero, List.set_cons_succ]
    refine take_at (i := 5) (v := ?_) (some 57) rfl (by kernel_rfl) (by kernel_rfl) (by kernel_rfl) (fun _ _ _ h => h) (by kernel_rfl) (Or.inl ⟨by kernel_rfl, ?_⟩) (by assumption) ?_
    rotate_left
    · (intro w hSw; (try dsimp only at hSw); go_simp <;> with_reducible rfl)
    simp only [Act.put, List.setIfInBounds_toArray, List.set_cons_zero, List.set_cons_succ]
    refine wpAnyH_ready (rs := [6, 10]) (by kernel_rfl) (by simp) ?_
    refine AllReadyH.cons rfl (fun K hK => ?_) (AllReadyH.cons rfl (fun K hK => ?_) AllReadyH.nil)
    · have hq := HGC.out w5.drew (below_drew B5)
      go_simp
      go_at_call 43; (with_reducible refine hq.mono ?_); rintro e w2 ⟨b2, rfl⟩
      go_wp2_with fail
      clear hq
      have V2 : Below w5.heap.size w5 w2 := below_undrew13 b2
      clear hHeld
      refine hK.out _ _ (LC.out w2 (B5.trans (V2.mono B5.size))) (fun hHeld => ?_)
      clear hK K
      try simp only [Act.put, List.setIfInBounds_toArray, List.set_cons_zero, List.set_cons_succ]
      refine take_at (i := 7) (v := ?_) (some 51) rfl (by kernel_rfl) (by kernel_rfl) (by kernel_rfl) (fun _ _ _ h => h) (by kernel_rfl) (Or.inl ⟨by kernel_rfl, ?_⟩) (by assumption) ?_
      rotate_left
      · (intro w hSw; (try dsimp only at hSw); go_simp <;> with_reducible rfl)
      simp only [Act.put, List.setIfInBounds_toArray, List.set_cons_zero, List.set_cons_succ]
      refine take_at (i := 8) (v := ?_) (some 59) rfl (by kernel_rfl) (by kernel_rfl) (by kernel_rfl) (fun _ _ _ h => h) (by kernel_rfl) (Or.inl ⟨by kernel_rfl, ?_⟩) (by assumption) ?_
      rotate_left
      · (intro w hSw; (try dsimp only at hSw); go_simp <;> with_reducible rfl)
      simp only [Act.put, List.setIfInBounds_toArray, List.set_cons_zero, List.set_cons_succ]
      refine take_at (i := 9) (v := ?_) (some 60) rfl (by kernel_rfl) (by kernel_rfl) (by kernel_rfl) (fun _ _ _ h => h) (by kernel_rfl) (Or.inl ⟨by kernel_rfl, ?_⟩) (by assumption) ?_
      rotate_left
      · (intro w hSw; (try dsimp only at hSw); go_simp <;> with_reducible rfl)
      simp only [Act.put, List.setIfInBounds_toArray, List.set_cons_zero, List.set_cons_succ]
      refine wpAnyH_ready (rs := [10]) (by kernel_rfl) (by simp) ?_
      refine AllReadyH.cons rfl (fun K hK => ?_) AllReadyH.nil
      go_simp
      have V3 := V2.alloc V2.size (.cells #[.int .u16 0, .slice none 0 0, .slice none 0 0] 76)
      clear hHeld
      refine hK.out _ _ (LC.out _ (B5.trans (V3.mono B5.size))) (fun hHeld => ?_)
      clear hK K
      try simp only [Act.put, List.setIfInBounds_toArray, List.set_cons_zero, List.set_cons_succ]
      refine wpAnyH_ready (rs := [11]) (by kernel_rfl) (by simp) ?_
      refine AllReadyH.cons rfl (fun K hK => ?_) AllReadyH.nil
      go_simp
      have y4 := Whole.new w2 76 #[.int .u16 0, .slice none 0 0, .slice none 0 0]
      have V4 := V2.alloc V2.size (.cells #[.int .u16 0, .slice none 0 0, .slice none 0 0] 76)
      have G4 : w5.heap.size ≤ w2.heap.size := V2.size
      clear hHeld
      refine hK.out _ _ (LC.out _ (B5.trans (V4.mono B5.size))) (fun hHeld => ?_)
      clear hK K
      try simp only [Act.put, List.setIfInBounds_toArray, List.set_cons_zero, List.set_cons_succ]
      refine take_at (i := 12) (v := ?_) (some 12) rfl (by kernel_rfl) (by kernel_rfl) (by kernel_rfl) (fun _ _ _ h => h) (by kernel_rfl) (Or.inl ⟨by kernel_rfl, ?_⟩) (by assumption) ?_
      rotate_left
      · (intro w hSw; (try dsimp only at hSw); go_simp <;> with_reducible rfl)
      simp only [Act.put, List.setIfInBounds_toArray, List.set_cons_zero, List.set_cons_succ]
      refine wpAnyH_done (by kernel_rfl) ?_ _
      exact hT _ _ _ _ _ _ _ _ _ _ _ _ _ _ _ _ _ _ _ _ _ _ _ _ _ _ _ _ _ _ _ _ _ _ _ _ _ _ _ _ _ _ _ _ _ _ _ _ y4 V4 G4
    · go_simp
      clear hHeld
      refine hK.out _ _ (LC.out _ (below_drew (B5.alloc B5.size _))) (fun hHeld => ?_)
      clear hK K
      try simp only [Act.put, List.setIfInBounds_toArray, List.set_cons_zero, List.set_cons_succ]
      refine wpAnyH_ready (rs := [6]) (by kernel_rfl) (by simp) ?_
      refine AllReadyH.cons rfl (fun K hK => ?_) AllReadyH.nil
      have hq := HGC.out (w5.alloc (.cells #[.int .u16 0, .slice none 0 0, .slice none 0 0] 76)).drew (below_drew (B5.alloc B5.size _))
      go_simp
      go_at_call 43; (with_reducible refine hq.mono ?_); rintro e w2 ⟨b2, rfl⟩
      go_wp2_with fail
      clear hq
      have V2 : Below w5.heap.size w5 w2 := ((Below.refl _ _).alloc (Nat.le_refl _) (.cells #[.int .u16 0, .slice none 0 0, .slice none 0 0] 76)).trans ((below_undrew13 b2).mono (by show _ ≤ (World.alloc _ _).heap.size; simp))
      have y3 : Whole w2 w5.heap.size 76 #[.int .u16 0, .slice none 0 0, .slice none 0 0] := (Whole.new w5 76 #[.int .u16 0, .slice none 0 0, .slice none 0 0]).below (below_undrew13 b2) (by show _ < (World.alloc _ _).heap.size; simp)
      clear hHeld
      refine hK.out _ _ (LC.out w2 (B5.trans (V2.mono B5.size))) (fun hHeld => ?_)
      clear hK K
      try simp only [Act.put, List.setIfInBounds_toArray, List.set_cons_zero, List.set_cons_succ]
      refine take_at (i := 7) (v := ?_) (some 51) rfl (by kernel_rfl) (by kernel_rfl) (by kernel_rfl) (fun _ _ _ h => h) (by kernel_rfl) (Or.inl ⟨by kernel_rfl, ?_⟩) (by assumption) ?_
      rotate_left
      · (intro w hSw; (try dsimp only at hSw); go_simp <;> with_reducible rfl)
      simp only [Act.put, List.setIfInBounds_toArray, List.set_cons_zero, List.set_cons_succ]
      refine take_at (i := 8) (v := ?_) (some 59) rfl (by kernel_rfl) (by kernel_rfl) (by kernel_rfl) (fun _ _ _ h => h) (by kernel_rfl) (Or.inl ⟨by kernel_rfl, ?_⟩) (by assumption) ?_
      rotate_left
      · (intro w hSw; (try dsimp only at hSw); go_simp <;> with_reducible rfl)
      simp only [Act.put, List.setIfInBounds_toArray, List.set_cons_zero, List.set_cons_succ]
      refine take_at (i := 9) (v := ?_) (some 60) rfl (by kernel_rfl) (by kernel_rfl) (by kernel_rfl) (fun _ _ _ h => h) (by kernel_rfl) (Or.inl ⟨by kernel_rfl, ?_⟩) (by assumption) ?_
      rotate_left
      · (intro w hSw; (try dsimp only at hSw); go_simp <;> with_reducible rfl)
      simp only [Act.put, List.setIfInBounds_toArray, List.set_cons_zero, List.set_cons_succ]
      refine wpAnyH_ready (rs := [11]) (by kernel_rfl) (by simp) ?_
      refine AllReadyH.cons rfl (fun K hK => ?_) AllReadyH.nil
      have f0 := y3.frozen 0
      have f1 := y3.frozen 1
      have f2 := y3.frozen 2
      obtain ⟨m0, m1, m2⟩ := wh317 y3
      go_simp
      have y4 : Whole _ w5.heap.size 76 #[.int .u16 0, .slice none 0 0, .slice none 0 0] := ((y3.set_ 0 (.int .u16 0)).set_ 1 (.slice none 0 0)).set_ 2 (.slice none 0 0)
      have V4 := ((V2.setCell (p := ⟨w5.heap.size, 0, none⟩) (Nat.le_refl _) (.int .u16 0)).setCell (p := ⟨w5.heap.size, 1, none⟩) (Nat.le_refl _) (.slice none 0 0)).setCell (p := ⟨w5.heap.size, 2, none⟩) (Nat.le_refl _) (.slice none 0 0)
      have G4 : w5.heap.size ≤ w5.heap.size := (Nat.le_refl _)
      clear hHeld
      refine hK.out _ _ (LC.out _ (B5.trans (V4.mono B5.size))) (fun hHeld => ?_)
      clear hK K
      try simp only [Act.put, List.setIfInBounds_toArray, List.set_cons_zero, List.set_cons_succ]
      refine take_at (i := 12) (v := ?_) (some 12) rfl (by kernel_rfl) (by kernel_rfl) (by kernel_rfl) (fun _ _ _ h => h) (by kernel_rfl) (Or.inl ⟨by kernel_rfl, ?_⟩) (by assumption) ?_
      rotate_left
      · (intro w hSw; (try dsimp only at hSw); go_simp <;> with_reducible rfl)
      simp only [Act.put, List.setIfInBounds_toArray, List.set_cons_zero, List.set_cons_succ]
      refine wpAnyH_done (by kernel_rfl) ?_ _
      exact hT _ _ _ _ _ _ _ _ _ _ _ _ _ _ _ _ _ _ _ _ _ _ _ _ _ _ _ _ _ _ _ _ _ _ _ _ _ _ _ _ _ _ _ _ _ _ _ _ y4 V4 G4
  intro u15 u16 u17 u18 u19 u20 u21 u22 u23 u24 u25 u26 u27 u28 u29 u30 u31 u32 u33 u34 u35 u36 u37 u38 u39 u40 u41 u42 u43 u44 u45 u46 u47 u48 u49 u50 u51 u52 u53 u54 u55 u56 u57 u58 u59 u60 g6 w6 z6 V6 G6
  have B6 := B5.trans (V6.mono B5.size)
  have x6 := x5.below V6 x5.lt
  have y6 := y5.below V6 y5.lt
  have p6 := own_below' p5 V6
  have o6 := own_below' o5 V6
  clear V6 G6 B5 x5 y5 p5 o5 HGC hsl5'
  have HD6 := Lib.hid (HGD.out w6)
  obtain ⟨k0, k1⟩ := LC.out w6 B6
  go_wp2_with fail
  refine HD6.out.mono ?_
  rintro e w7 ⟨b7, A7, c7, rfl, r7⟩
  have B7 := B6.trans (b7.mono B6.size)
  have x7 := x6.below b7 x6.lt
  have y7 := y6.below b7 y6.lt
  have z7 := z6.below b7 z6.lt
  have p7 := own_below' p6 b7
  have o7 := own_below' o6 b7
  clear HD6 HGD k0 k1 x6 y6 z6 p6 o6 B6 b7
  go_upto_region 7 with fail
  have B8 := B7.alloc B7.size (.cells #[.int .u16 16, .slice A7 8 c7, .slice none 0 0] 76)
  have x8 := x7.alloc (.cells #[.int .u16 16, .slice A7 8 c7, .slice none 0 0] 76)
  have y8 := y7.alloc (.cells #[.int .u16 16, .slice A7 8 c7, .slice none 0 0] 76)
  have z8 := z7.alloc (.cells #[.int .u16 16, .slice A7 8 c7, .slice none 0 0] 76)
  have t8 := Whole.new w7 76 #[.int .u16 16, .slice A7 8 c7, .slice none 0 0]
  have p8 := Lib.hid (p7.alloc (.cells #[.int .u16 16, .slice A7 8 c7, .slice none 0 0] 76))
  have o8 := Lib.hid (o7.alloc (.cells #[.int .u16 16, .slice A7 8 c7, .slice none 0 0] 76))
  have r8 := Lib.hid (r7.alloc (.cells #[.int .u16 16, .slice A7 8 c7, .slice none 0 0] 76))
  generalize w7.alloc (.cells #[.int .u16 16, .slice A7 8 c7, .slice none 0 0] 76) = w8 at *
  generalize w7.heap.size = g7 at *
  clear B7 x7 y7 z7 p7 o7 r7 
  have KS : Hid (∀ V, Below w8.heap.size w8 V → ((V.cell? ⟨g2, 0, none⟩ = some (.int .u16 13) ∧ V.cell? ⟨g2, 1, none⟩ = some (.slice A2 nA c2) ∧ V.cell? ⟨g2, 2, none⟩ = some (.slice none 0 0)) ∧ (V.cell? ⟨g4, 0, none⟩ = some (.int .u16 14) ∧ V.cell? ⟨g4, 1, none⟩ = some (.slice A4 nB c4) ∧ V.cell? ⟨g4, 2, none⟩ = some (.slice none 0 0))) ∧ ((V.cell? ⟨g6, 0, none⟩ = some (.int .u16 0) ∧ V.cell? ⟨g6, 1, none⟩ = some (.slice none 0 0) ∧ V.cell? ⟨g6, 2, none⟩ = some (.slice none 0 0)) ∧ (V.cell? ⟨g7, 0, none⟩ = some (.int .u16 16) ∧ V.cell? ⟨g7, 1, none⟩ = some (.slice A7 8 c7) ∧ V.cell? ⟨g7, 2, none⟩ = some (.slice none 0 0))) ∧ (V.cell? ad = some (uv x0) ∧ V.cell? ⟨ad.block, ad.off + 1, none⟩ = some (uv x1))) := Lib.hid (fun V hV => ⟨⟨wh317 (x8.below hV x8.lt), wh317 (y8.below hV y8.lt)⟩, ⟨wh317 (z8.below hV z8.lt), wh317 (t8.below hV t8.lt)⟩, LC.out V (B8.trans (hV.mono B8.size))⟩)
  have HB8 := Lib.hid B8
  have HSZ := Lib.hid B8.size
  clear x8 y8 z8 t8 B8
  refine wp_region_held_drew (S := (fun V => ((V.cell? ⟨g2, 0, none⟩ = some (.int .u16 13) ∧ V.cell? ⟨g2, 1, none⟩ = some (.slice A2 nA c2) ∧ V.cell? ⟨g2, 2, none⟩ = some (.slice none 0 0)) ∧ (V.cell? ⟨g4, 0, none⟩ = some (.int .u16 14) ∧ V.cell? ⟨g4, 1, none⟩ = some (.slice A4 nB c4) ∧ V.cell? ⟨g4, 2, none⟩ = some (.slice none 0 0))) ∧ ((V.cell? ⟨g6, 0, none⟩ = some (.int .u16 0) ∧ V.cell? ⟨g6, 1, none⟩ = some (.slice none 0 0) ∧ V.cell? ⟨g6, 2, none⟩ = some (.slice none 0 0)) ∧ (V.cell? ⟨g7, 0, none⟩ = some (.int .u16 16) ∧ V.cell? ⟨g7, 1, none⟩ = some (.slice A7 8 c7) ∧ V.cell? ⟨g7, 2, none⟩ = some (.slice none 0 0))) ∧ (V.cell? ad = some (uv x0) ∧ V.cell? ⟨ad.block, ad.off + 1, none⟩ = some (uv x1)))) (by kernel_rfl) (KS.out w8.drew (below_drew (Below.refl _ _))) (fun hHeld => ?_)
  refine take_at (i := 0) (v := ?_) (some 69) rfl (by kernel_rfl) (by kernel_rfl) (by kernel_rfl) (fun _ _ _ h => h) (by kernel_rfl) (Or.inl ⟨by kernel_rfl, ?_⟩) (by assumption) ?_
  rotate_left
  · (intro w hSw; (try dsimp only at hSw); go_simp <;> with_reducible rfl)
  simp only [Act.put, List.setIfInBounds_toArray, List.set_cons_zero, List.set_cons_succ]
  refine take_at (i := 1) (v := ?_) (some 70) rfl (by kernel_rfl) (by kernel_rfl) (by kernel_rfl) (fun _ _ _ h => h) (by kernel_rfl) (Or.inl ⟨by kernel_rfl, ?_⟩) (by assumption) ?_
  rotate_left
  · (intro w hSw; (try dsimp only at hSw); go_simp <;> with_reducible rfl)
  simp only [Act.put, List.setIfInBounds_toArray, List.set_cons_zero, List.set_cons_succ]
  refine take_at (i := 2) (v := ?_) (some 71) rfl (by kernel_rfl) (by kernel_rfl) (by kernel_rfl) (fun _ _ _ h => h) (by kernel_rfl) (Or.inl ⟨by kernel_rfl, ?_⟩) (by assumption) ?_
  rotate_left
  · (intro w hSw; (try dsimp only at hSw); go_simp <;> with_reducible rfl)
  simp only [Act.put, List.setIfInBounds_toArray, List.set_cons_zero, List.set_cons_succ]
  refine take_at (i := 3) (v := ?_) (some 72) rfl (by kernel_rfl) (by kernel_rfl) (by kernel_rfl) (fun _ _ _ h => h) (by kernel_rfl) (Or.inl ⟨by kernel_rfl, ?_⟩) (by assumption) ?_
  rotate_left
  · (intro w hSw; (try dsimp only at hSw); go_simp <;> with_reducible rfl)
  simp only [Act.put, List.setIfInBounds_toArray, List.set_cons_zero, List.set_cons_succ]
  refine take_at (i := 4) (v := ?_) (some 73) rfl (by kernel_rfl) (by kernel_rfl) (by kernel_rfl) (fun _ _ _ h => h) (by kernel_rfl) (Or.inl ⟨by kernel_rfl, ?_⟩) (by assumption) ?_
  rotate_left
  · (intro w hSw; (try dsimp only at hSw); go_simp <;> with_reducible rfl)
  simp only [Act.put, List.setIfInBounds_toArray, List.set_cons_zero, List.set_cons_succ]
  refine take_at (i := 5) (v := ?_) (some 74) rfl (by kernel_rfl) (by kernel_rfl) (by kernel_rfl) (fun _ _ _ h => h) (by kernel_rfl) (Or.inl ⟨by kernel_rfl, ?_⟩) (by assumption) ?_
  rotate_left
  · (intro w hSw; (try dsimp only at hSw); go_simp <;> with_reducible rfl)
  simp only [Act.put, List.setIfInBounds_toArray, List.set_cons_zero, List.set_cons_succ]
  refine take_at (i := 6) (v := ?_) (some 75) rfl (by kernel_rfl) (by kernel_rfl) (by kernel_rfl) (fun _ _ _ h => h) (by kernel_rfl) (Or.inl ⟨by kernel_rfl, ?_⟩) (by assumption) ?_
  rotate_left
  · (intro w hSw; (try dsimp only at hSw); go_simp <;> with_reducible rfl)
  simp only [Act.put, List.setIfInBounds_toArray, List.set_cons_zero, List.set_cons_succ]
  refine take_at (i := 7) (v := ?_) (some 76) rfl (by kernel_rfl) (by kernel_rfl) (by kernel_rfl) (fun _ _ _ h => h) (by kernel_rfl) (Or.inl ⟨by kernel_rfl, ?_⟩) (by assumption) ?_
  rotate_left
  · (intro w hSw; (try dsimp only at hSw); go_simp <;> with_reducible rfl)
  simp only [Act.put, List.setIfInBounds_toArray, List.set_cons_zero, List.set_cons_succ]
  refine take_at (i := 8) (v := ?_) (some 77) rfl (by kernel_rfl) (by kernel_rfl) (by kernel_rfl) (fun _ _ _ h => h) (by kernel_rfl) (Or.inl ⟨by kernel_rfl, ?_⟩) (by assumption) ?_
  rotate_left
  · (intro w hSw; (try dsimp only at hSw); go_simp <;> with_reducible rfl)
  simp only [Act.put, List.setIfInBounds_toArray, List.set_cons_zero, List.set_cons_succ]
  refine take_at (i := 10) (v := ?_) (some 79) rfl (by kernel_rfl) (by kernel_rfl) (by kernel_rfl) (fun _ _ _ h => h) (by kernel_rfl) (Or.inl ⟨by kernel_rfl, ?_⟩) (by assumption) ?_
  rotate_left
  · (intro w hSw; (try dsimp only at hSw); go_simp <;> with_reducible rfl)
  simp only [Act.put, List.setIfInBounds_toArray, List.set_cons_zero, List.set_cons_succ]
  refine wpAnyH_ready (rs := [9]) (by kernel_rfl) (by simp) ?_
  refine AllReadyH.cons rfl (fun K hK => ?_) AllReadyH.nil
  go_simp
  have R9 : Below w8.heap.size w8 (w8.alloc (.cells #[uv a, uv x0, uv x1] 22)).drew := below_drew ((Below.refl _ _).alloc (Nat.le_refl _) _)
  clear hHeld
  refine hK.out _ _ (KS.out _ R9) (fun hHeld => ?_)
  clear hK K
  try simp only [Act.put, List.setIfInBounds_toArray, List.set_cons_zero, List.set_cons_succ]
  refine wpAnyH_ready (rs := [11]) (by kernel_rfl) (by simp) ?_
  refine AllReadyH.cons rfl (fun K hK => ?_) AllReadyH.nil
  have hq := HBA.out w8 HB8.out
  go_simp
  go_at_call 45; (with_reducible refine hq.mono ?_); rintro e w11 ⟨b11, A11, c11, rfl, o11⟩
  go_wp2_with fail
  clear hq
  have R11 : Below w8.heap.size w8 w11 := b11
  clear hHeld
  refine hK.out _ _ (KS.out _ R11) (fun hHeld => ?_)
  clear hK K
  try simp only [Act.put, List.setIfInBounds_toArray, List.set_cons_zero, List.set_cons_succ]
  refine wpAnyH_ready (rs := [12]) (by kernel_rfl) (by simp) ?_
  refine AllReadyH.cons rfl (fun K hK => ?_) AllReadyH.nil
  have hq := HMA.out w11 A2 c2 _ A11 c11 _ (own_below' p8.out R11) o11
  go_simp
  go_at_call 44; (with_reducible refine hq.mono ?_); rintro e w12 ⟨rfl, bw12⟩
  go_wp2_with fail
  clear hq
  have R12 : Below w8.heap.size w8 w12 := R11.trans (bw12.mono R11.size)
  clear hHeld
  refine hK.out _ _ (KS.out _ R12) (fun hHeld => ?_)
  clear hK K
  try simp only [Act.put, List.setIfInBounds_toArray, List.set_cons_zero, List.set_cons_succ]
  refine take_at (i := 13) (v := ?_) (some 82) rfl (by kernel_rfl) (by kernel_rfl) (by kernel_rfl) (fun _ _ _ h => h) (by kernel_rfl) (Or.inl ⟨by kernel_rfl, ?_⟩) (by assumption) ?_
  rotate_left
  · (intro w hSw; (try dsimp only at hSw); go_simp <;> with_reducible rfl)
  simp only [Act.put, List.setIfInBounds_toArray, List.set_cons_zero, List.set_cons_succ]
  refine take_at (i := 14) (v := ?_) (some 83) rfl (by kernel_rfl) (by kernel_rfl) (by kernel_rfl) (fun _ _ _ h => h) (by kernel_rfl) (Or.inl ⟨by kernel_rfl, ?_⟩) (by assumption) ?_
  rotate_left
  · (intro w hSw; (try dsimp only at hSw); go_simp <;> with_reducible rfl)
  simp only [Act.put, List.setIfInBounds_toArray, List.set_cons_zero, List.set_cons_succ]
  refine take_at (i := 15) (v := ?_) (some 84) rfl (by kernel_rfl) (by kernel_rfl) (by kernel_rfl) (fun _ _ _ h => h) (by kernel_rfl) (Or.inl ⟨by kernel_rfl, ?_⟩) (by assumption) ?_
  rotate_left
  · (intro w hSw; (try dsimp only at hSw); go_simp <;> with_reducible rfl)
  simp only [Act.put, List.setIfInBounds_toArray, List.set_cons_zero, List.set_cons_succ]
  refine take_at (i := 16) (v := ?_) (some 85) rfl (by kernel_rfl) (by kernel_rfl) (by kernel_rfl) (fun _ _ _ h => h) (by kernel_rfl) (Or.inl ⟨by kernel_rfl, ?_⟩) (by assumption) ?_
  rotate_left
  · (intro w hSw; (try dsimp only at hSw); go_simp <;> with_reducible rfl)
  simp only [Act.put, List.setIfInBounds_toArray, List.set_cons_zero, List.set_cons_succ]
  refine take_at (i := 18) (v := ?_) (some 87) rfl (by kernel_rfl) (by kernel_rfl) (by kernel_rfl) (fun _ _ _ h => h) (by kernel_rfl) (Or.inl ⟨by kernel_rfl, ?_⟩) (by assumption) ?_
  rotate_left
  · (intro w hSw; (try dsimp only at hSw); go_simp <;> with_reducible rfl)
  simp only [Act.put, List.setIfInBounds_toArray, List.set_cons_zero, List.set_cons_succ]
  refine wpAnyH_ready (rs := [17]) (by kernel_rfl) (by simp) ?_
  refine AllReadyH.cons rfl (fun K hK => ?_) AllReadyH.nil
  go_simp
  have R17 : Below w8.heap.size w8 (w12.alloc (.cells #[uv a] 22)) := R12.alloc R12.size _
  clear hHeld
  refine hK.out _ _ (KS.out _ R17) (fun hHeld => ?_)
  clear hK K
  try simp only [Act.put, List.setIfInBounds_toArray, List.set_cons_zero, List.set_cons_succ]
  refine wpAnyH_ready (rs := [19]) (by kernel_rfl) (by simp) ?_
  refine AllReadyH.cons rfl (fun K hK => ?_) AllReadyH.nil
  have hq := HBB.out w12 (HB8.out.trans (R12.mono HSZ.out))
  go_simp
  go_at_call 45; (with_reducible refine hq.mono ?_); rintro e w19 ⟨b19, A19, c19, rfl, o19⟩
  go_wp2_with fail
  clear hq
  have R19 : Below w8.heap.size w8 w19 := R12.trans (b19.mono R12.size)
  clear hHeld
  refine hK.out _ _ (KS.out _ R19) (fun hHeld => ?_)
  clear hK K
  try simp only [Act.put, List.setIfInBounds_toArray, List.set_cons_zero, List.set_cons_succ]
  refine wpAnyH_ready (rs := [20]) (by kernel_rfl) (by simp) ?_
  refine AllReadyH.cons rfl (fun K hK => ?_) AllReadyH.nil
  have hq := HMB.out w19 A4 c4 _ A19 c19 _ (own_below' o8.out R19) o19
  go_simp
  go_at_call 44; (with_reducible refine hq.mono ?_); rintro e w20 ⟨rfl, bw20⟩
  go_wp2_with fail
  clear hq
  have R20 : Below w8.heap.size w8 w20 := R19.trans (bw20.mono R19.size)
  clear hHeld
  refine hK.out _ _ (KS.out _ R20) (fun hHeld => ?_)
  clear hK K
  try simp only [Act.put, List.setIfInBounds_toArray, List.set_cons_zero, List.set_cons_succ]
  refine take_at (i := 21) (v := ?_) (some 90) rfl (by kernel_rfl) (by kernel_rfl) (by kernel_rfl) (fun _ _ _ h => h) (by kernel_rfl) (Or.inl ⟨by kernel_rfl, ?_⟩) (by assumption) ?_
  rotate_left
  · (intro w hSw; (try dsimp only at hSw); go_simp <;> with_reducible rfl)
  simp only [Act.put, List.setIfInBounds_toArray, List.set_cons_zero, List.set_cons_succ]
  refine take_at (i := 22) (v := ?_) (some 91) rfl (by kernel_rfl) (by kernel_rfl) (by kernel_rfl) (fun _ _ _ h => h) (by kernel_rfl) (Or.inl ⟨by kernel_rfl, ?_⟩) (by assumption) ?_
  rotate_left
  · (intro w hSw; (try dsimp only at hSw); go_simp <;> with_reducible rfl)
  simp only [Act.put, List.setIfInBounds_toArray, List.set_cons_zero, List.set_cons_succ]
  refine take_at (i := 23) (v := ?_) (some 92) rfl (by kernel_rfl) (by kernel_rfl) (by kernel_rfl) (fun _ _ _ h => h) (by kernel_rfl) (Or.inl ⟨by kernel_rfl, ?_⟩) (by assumption) ?_
  rotate_left
  · (intro w hSw; (try dsimp only at hSw); go_simp <;> with_reducible rfl)
  simp only [Act.put, List.setIfInBounds_toArray, List.set_cons_zero, List.set_cons_succ]
  refine take_at (i := 24) (v := ?_) (some 93) rfl (by kernel_rfl) (by kernel_rfl) (by kernel_rfl) (fun _ _ _ h => h) (by kernel_rfl) (Or.inl ⟨by kernel_rfl, ?_⟩) (by assumption) ?_
  rotate_left
  · (intro w hSw; (try dsimp only at hSw); go_simp <;> with_reducible rfl)
  simp only [Act.put, List.setIfInBounds_toArray, List.set_cons_zero, List.set_cons_succ]
  refine take_at (i := 25) (v := ?_) (some 94) rfl (by kernel_rfl) (by kernel_rfl) (by kernel_rfl) (fun _ _ _ h => h) (by kernel_rfl) (Or.inl ⟨by kernel_rfl, ?_⟩) (by assumption) ?_
  rotate_left
  · (intro w hSw; (try dsimp only at hSw); go_simp <;> with_reducible rfl)
  simp only [Act.put, List.setIfInBounds_toArray, List.set_cons_zero, List.set_cons_succ]
  refine take_at (i := 27) (v := ?_) (some 96) rfl (by kernel_rfl) (by kernel_rfl) (by kernel_rfl) (fun _ _ _ h => h) (by kernel_rfl) (Or.inl ⟨by kernel_rfl, ?_⟩) (by assumption) ?_
  rotate_left
  · (intro w hSw; (try dsimp only at hSw); go_simp <;> with_reducible rfl)
  simp only [Act.put, List.setIfInBounds_toArray, List.set_cons_zero, List.set_cons_succ]
  refine wpAnyH_ready (rs := [26]) (by kernel_rfl) (by simp) ?_
  refine AllReadyH.cons rfl (fun K hK => ?_) AllReadyH.nil
  go_simp
  have R26 : Below w8.heap.size w8 (w20.alloc (.cells #[uv a] 22)) := R20.alloc R20.size _
  have s26 : w8.heap.size ≤ (w20.alloc (.cells #[uv a] 22)).heap.size := R26.size
  have h26 := row_one17 w20 a
  have L26 : Lies (w20.alloc (.cells #[uv a] 22)) (w20.alloc (.cells #[uv a] 22)).heap.size (some ad) lv := HLO.out _ (HB8.out.trans (R26.mono HSZ.out))
  clear hHeld
  refine hK.out _ _ (KS.out _ R26) (fun hHeld => ?_)
  clear hK K
  try simp only [Act.put, List.setIfInBounds_toArray, List.set_cons_zero, List.set_cons_succ]
  refine wpAnyH_ready (rs := [28]) (by kernel_rfl) (by simp) ?_
  refine AllReadyH.cons rfl (fun K hK => ?_) AllReadyH.nil
  refine wp_append_lies _ (.tmp 95) (.tmp 96) 23 rfl w20.heap.size 22 (.int .u32 0) 4 Tryz.underlying23 u32info17 rfl (.slice (some ⟨w20.heap.size, 0, none⟩) 1 1) 1 [uv a] rfl h26 (w20.alloc (.cells #[uv a] 22)).heap.size (some ad) ll cl lv rfl HLL.out L26 HON.out (by omega) (by unfold maxLen; omega) (by simp) ?_
  intro A28 c28 w28 o28 gr28 _
  have R28 : Below w8.heap.size w8 w28 := R26.grown gr28 R26.size (fun r e => by cases e; exact R20.size)
  have L28 : Lies w28 w28.heap.size A28 lw := by rw [← HMAP.out]; exact Lies.own o28
  clear h26 L26 o28 gr28
  clear hHeld
  refine hK.out _ _ (KS.out _ R28) (fun hHeld => ?_)
  clear hK K
  try simp only [Act.put, List.setIfInBounds_toArray, List.set_cons_zero, List.set_cons_succ]
  refine wpAnyH_ready (rs := [29]) (by kernel_rfl) (by simp) ?_
  refine AllReadyH.cons rfl (fun K hK => ?_) AllReadyH.nil
  have hq := HBC.out w28 A28 c28 L28
  go_simp
  go_at_call 45; (with_reducible refine hq.mono ?_); rintro e w29 ⟨b29, A29, c29, rfl, o29⟩
  go_wp2_with fail
  clear hq
  have R29 : Below w8.heap.size w8 w29 := R28.trans (b29.mono R28.size)
  clear hHeld
  refine hK.out _ _ (KS.out _ R29) (fun hHeld => ?_)
  clear hK K
  try simp only [Act.put, List.setIfInBounds_toArray, List.set_cons_zero, List.set_cons_succ]
  refine wpAnyH_ready (rs := [30]) (by kernel_rfl) (by simp) ?_
  refine AllReadyH.cons rfl (fun K hK => ?_) AllReadyH.nil
  have hq := HMC.out w29 A29 c29 _ o29
  go_simp
  go_at_call 44; (with_reducible refine hq.mono ?_); rintro e w30 ⟨rfl, bw30⟩
  go_wp2_with fail
  clear hq
  have R30 : Below w8.heap.size w8 w30 := R29.trans (bw30.mono R29.size)
  clear hHeld
  refine hK.out _ _ (KS.out _ R30) (fun hHeld => ?_)
  clear hK K
  try simp only [Act.put, List.setIfInBounds_toArray, List.set_cons_zero, List.set_cons_succ]
  refine take_at (i := 31) (v := ?_) (some 100) rfl (by kernel_rfl) (by kernel_rfl) (by kernel_rfl) (fun _ _ _ h => h) (by kernel_rfl) (Or.inl ⟨by kernel_rfl, ?_⟩) (by assumption) ?_
  rotate_left
  · (intro w hSw; (try dsimp only at hSw); go_simp <;> with_reducible rfl)
  simp only [Act.put, List.setIfInBounds_toArray, List.set_cons_zero, List.set_cons_succ]
  refine take_at (i := 32) (v := ?_) (some 101) rfl (by kernel_rfl) (by kernel_rfl) (by kernel_rfl) (fun _ _ _ h => h) (by kernel_rfl) (Or.inl ⟨by kernel_rfl, ?_⟩) (by assumption) ?_
  rotate_left
  · (intro w hSw; (try dsimp only at hSw); go_simp <;> with_reducible rfl)
  simp only [Act.put, List.setIfInBounds_toArray, List.set_cons_zero, List.set_cons_succ]
  refine take_at (i := 33) (v := ?_) (some 102) rfl (by kernel_rfl) (by kernel_rfl) (by kernel_rfl) (fun _ _ _ h => h) (by kernel_rfl) (Or.inl ⟨by kernel_rfl, ?_⟩) (by assumption) ?_
  rotate_left
  · (intro w hSw; (try dsimp only at hSw); go_simp <;> with_reducible rfl)
  simp only [Act.put, List.setIfInBounds_toArray, List.set_cons_zero, List.set_cons_succ]
  refine take_at (i := 34) (v := ?_) (some 103) rfl (by kernel_rfl) (by kernel_rfl) (by kernel_rfl) (fun _ _ _ h => h) (by kernel_rfl) (Or.inl ⟨by kernel_rfl, ?_⟩) (by assumption) ?_
  rotate_left
  · (intro w hSw; (try dsimp only at hSw); go_simp <;> with_reducible rfl)
  simp only [Act.put, List.setIfInBounds_toArray, List.set_cons_zero, List.set_cons_succ]
  refine take_at (i := 35) (v := ?_) (some 104) rfl (by kernel_rfl) (by kernel_rfl) (by kernel_rfl) (fun _ _ _ h => h) (by kernel_rfl) (Or.inl ⟨by kernel_rfl, ?_⟩) (by assumption) ?_
  rotate_left
  · (intro w hSw; (try dsimp only at hSw); go_simp <;> with_reducible rfl)
  simp only [Act.put, List.setIfInBounds_toArray, List.set_cons_zero, List.set_cons_succ]
  refine take_at (i := 36) (v := ?_) (some 105) rfl (by kernel_rfl) (by kernel_rfl) (by kernel_rfl) (fun _ _ _ h => h) (by kernel_rfl) (Or.inl ⟨by kernel_rfl, ?_⟩) (by assumption) ?_
  rotate_left
  · (intro w hSw; (try dsimp only at hSw); go_simp <;> with_reducible rfl)
  simp only [Act.put, List.setIfInBounds_toArray, List.set_cons_zero, List.set_cons_succ]
  refine take_at (i := 37) (v := ?_) (some 106) rfl (by kernel_rfl) (by kernel_rfl) (by kernel_rfl) (fun _ _ _ h => h) (by kernel_rfl) (Or.inl ⟨by kernel_rfl, ?_⟩) (by assumption) ?_
  rotate_left
  · (intro w hSw; (try dsimp only at hSw); go_simp <;> with_reducible rfl)
  simp only [Act.put, List.setIfInBounds_toArray, List.set_cons_zero, List.set_cons_succ]
  refine take_at (i := 38) (v := ?_) (some 107) rfl (by kernel_rfl) (by kernel_rfl) (by kernel_rfl) (fun _ _ _ h => h) (by kernel_rfl) (Or.inl ⟨by kernel_rfl, ?_⟩) (by assumption) ?_
  rotate_left
  · (intro w hSw; (try dsimp only at hSw); go_simp <;> with_reducible rfl)
  simp only [Act.put, List.setIfInBounds_toArray, List.set_cons_zero, List.set_cons_succ]
  refine wpAnyH_ready (rs := [39]) (by kernel_rfl) (by simp) ?_
  refine AllReadyH.cons rfl (fun K hK => ?_) AllReadyH.nil
  go_simp
  have R39 : Below w8.heap.size w8 (w30.alloc (.cells #[uv a, uv x0] 22)) := R30.alloc R30.size _
  clear hHeld
  refine hK.out _ _ (KS.out _ R39) (fun hHeld => ?_)
  clear hK K
  try simp only [Act.put, List.setIfInBounds_toArray, List.set_cons_zero, List.set_cons_succ]
  refine wpAnyH_ready (rs := [40]) (by kernel_rfl) (by simp) ?_
  refine AllReadyH.cons rfl (fun K hK => ?_) AllReadyH.nil
  have hq := HBD.out w30
  go_simp
  go_at_call 45; (with_reducible refine hq.mono ?_); rintro e w40 ⟨b40, A40, c40, rfl, o40⟩
  go_wp2_with fail
  clear hq
  have R40 : Below w8.heap.size w8 w40 := R30.trans (b40.mono R30.size)
  clear hHeld
  refine hK.out _ _ (KS.out _ R40) (fun hHeld => ?_)
  clear hK K
  try simp only [Act.put, List.setIfInBounds_toArray, List.set_cons_zero, List.set_cons_succ]
  refine wpAnyH_ready (rs := [41]) (by kernel_rfl) (by simp) ?_
  refine AllReadyH.cons rfl (fun K hK => ?_) AllReadyH.nil
  have hq := HMD.out w40 A7 c7 _ A40 c40 _ (own_below' r8.out R40) o40
  go_simp
  go_at_call 44; (with_reducible refine hq.mono ?_); rintro e w41 ⟨rfl, bw41⟩
  go_wp2_with fail
  clear hq
  have R41 : Below w8.heap.size w8 w41 := R40.trans (bw41.mono R40.size)
  clear hHeld
  refine hK.out _ _ (KS.out _ R41) (fun hHeld => ?_)
  clear hK K
  try simp only [Act.put, List.setIfInBounds_toArray, List.set_cons_zero, List.set_cons_succ]
  refine take_at (i := 42) (v := ?_) (some 111) rfl (by kernel_rfl) (by kernel_rfl) (by kernel_rfl) (fun _ _ _ h => h) (by kernel_rfl) (Or.inl ⟨by kernel_rfl, ?_⟩) (by assumption) ?_
  rotate_left
  · (intro w hSw; (try dsimp only at hSw); go_simp <;> with_reducible rfl)
  simp only [Act.put, List.setIfInBounds_toArray, List.set_cons_zero, List.set_cons_succ]
  refine take_at (i := 43) (v := ?_) (some 112) rfl (by kernel_rfl) (by kernel_rfl) (by kernel_rfl) (fun _ _ _ h => h) (by kernel_rfl) (Or.inl ⟨by kernel_rfl, ?_⟩) (by assumption) ?_
  rotate_left
  · (intro w hSw; (try dsimp only at hSw); go_simp <;> with_reducible rfl)
  simp only [Act.put, List.setIfInBounds_toArray, List.set_cons_zero, List.set_cons_succ]
  refine take_at (i := 44) (v := ?_) (some 113) rfl (by kernel_rfl) (by kernel_rfl) (by kernel_rfl) (fun _ _ _ h => h) (by kernel_rfl) (Or.inl ⟨by kernel_rfl, ?_⟩) (by assumption) ?_
  rotate_left
  · (intro w hSw; (try dsimp only at hSw); go_simp <;> with_reducible rfl)
  simp only [Act.put, List.setIfInBounds_toArray, List.set_cons_zero, List.set_cons_succ]
  refine take_at (i := 46) (v := ?_) (some 115) rfl (by kernel_rfl) (by kernel_rfl) (by kernel_rfl) (fun _ _ _ h => h) (by kernel_rfl) (Or.inl ⟨by kernel_rfl, ?_⟩) (by assumption) ?_
  rotate_left
  · (intro w hSw; (try dsimp only at hSw); go_simp <;> with_reducible rfl)
  simp only [Act.put, List.setIfInBounds_toArray, List.set_cons_zero, List.set_cons_succ]
  refine wpAnyH_ready (rs := [45, 47]) (by kernel_rfl) (by simp) ?_
  refine AllReadyH.cons rfl (fun K hK => ?_) (AllReadyH.cons rfl (fun K hK => ?_) AllReadyH.nil)
  · have hq := HGE.out w41
    go_simp
    go_at_call 47; (with_reducible refine hq.mono ?_); rintro e w45 ⟨b45, A45, c45, rfl, o45⟩
    go_wp2_with fail
    clear hq
    have R45 : Below w8.heap.size w8 w45 := R41.trans (b45.mono R41.size)
    clear hHeld
    refine hK.out _ _ (KS.out _ R45) (fun hHeld => ?_)
    clear hK K
    try simp only [Act.put, List.setIfInBounds_toArray, List.set_cons_zero, List.set_cons_succ]
    refine wpAnyH_ready (rs := [47]) (by kernel_rfl) (by simp) ?_
    refine AllReadyH.cons rfl (fun K hK => ?_) AllReadyH.nil
    go_simp
    have R48 : Below w8.heap.size w8 (w45.alloc (.cells #[uv a] 22)) := R45.alloc R45.size _
    have L48 : Lies (w45.alloc (.cells #[uv a] 22)) (w45.alloc (.cells #[uv a] 22)).heap.size (some ⟨w45.heap.size, 0, none⟩) [uv a] := lies_n17 w45 [a]
    have p45 := o45.alloc (.cells #[uv a] 22)
    clear hHeld
    refine hK.out _ _ (KS.out _ R48) (fun hHeld => ?_)
    clear hK K
    try simp only [Act.put, List.setIfInBounds_toArray, List.set_cons_zero, List.set_cons_succ]
    refine wpAnyH_ready (rs := [48]) (by kernel_rfl) (by simp) ?_
    refine AllReadyH.cons rfl (fun K hK => ?_) AllReadyH.nil
    have hq := HBE.out _ _ L48
    go_simp
    go_at_call 45; (with_reducible refine hq.mono ?_); rintro e w48 ⟨b48, A48, c48, rfl, o48⟩
    go_wp2_with fail
    clear hq
    have R49 : Below w8.heap.size w8 w48 := R48.trans (b48.mono R48.size)
    clear hHeld
    refine hK.out _ _ (KS.out _ R49) (fun hHeld => ?_)
    clear hK K
    try simp only [Act.put, List.setIfInBounds_toArray, List.set_cons_zero, List.set_cons_succ]
    refine wpAnyH_ready (rs := [49]) (by kernel_rfl) (by simp) ?_
    refine AllReadyH.cons rfl (fun K hK => ?_) AllReadyH.nil
    have hq := HME.out w48 A45 c45 _ A48 c48 _ (own_below' p45 b48) o48
    go_simp
    go_at_call 46; (with_reducible refine hq.mono ?_); rintro e w49 ⟨rfl, b49⟩
    go_wp2_with fail
    clear hq
    have R50 : Below w8.heap.size w8 w49 := R49.trans (b49.mono R49.size)
    clear hHeld
    refine hK.out _ _ (KS.out _ R50) (fun hHeld => ?_)
    clear hK K
    try simp only [Act.put, List.setIfInBounds_toArray, List.set_cons_zero, List.set_cons_succ]
    refine take_at (i := 50) (v := ?_) (some 119) rfl (by kernel_rfl) (by kernel_rfl) (by kernel_rfl) (fun _ _ _ h => h) (by kernel_rfl) (Or.inl ⟨by kernel_rfl, ?_⟩) (by assumption) ?_
    rotate_left
    · (intro w hSw; (try dsimp only at hSw); go_simp <;> with_reducible rfl)
    simp only [Act.put, List.setIfInBounds_toArray, List.set_cons_zero, List.set_cons_succ]
    refine take_at (i := 51) (v := ?_) (some 6) rfl (by kernel_rfl) (by kernel_rfl) (by kernel_rfl) (fun _ _ _ h => h) (by kernel_rfl) (Or.inl ⟨by kernel_rfl, ?_⟩) (by assumption) ?_
    rotate_left
    · (intro w hSw; (try dsimp only at hSw); go_simp <;> with_reducible rfl)
    simp only [Act.put, List.setIfInBounds_toArray, List.set_cons_zero, List.set_cons_succ]
    refine wpAnyH_done (by kernel_rfl) ?_ _
    go_wp2_with fail
    go_ret
    exact ⟨rfl, HB8.out.trans (R50.mono HSZ.out)⟩
  · go_simp
    have R47 : Below w8.heap.size w8 (w41.alloc (.cells #[uv a] 22)) := R41.alloc R41.size _
    have L47 : Lies (w41.alloc (.cells #[uv a] 22)) (w41.alloc (.cells #[uv a] 22)).heap.size (some ⟨w41.heap.size, 0, none⟩) [uv a] := lies_n17 w41 [a]
    clear hHeld
    refine hK.out _ _ (KS.out _ R47) (fun hHeld => ?_)
    clear hK K
    try simp only [Act.put, List.setIfInBounds_toArray, List.set_cons_zero, List.set_cons_succ]
    refine wpAnyH_ready (rs := [45]) (by kernel_rfl) (by simp) ?_
    refine AllReadyH.cons rfl (fun K hK => ?_) AllReadyH.nil
    have hq := HGE.out (w41.alloc (.cells #[uv a] 22))
    go_simp
    go_at_call 47; (with_reducible refine hq.mono ?_); rintro e w45 ⟨b45, A45, c45, rfl, o45⟩
    go_wp2_with fail
    clear hq
    have R45 : Below w8.heap.size w8 w45 := R47.trans (b45.mono R47.size)
    have L48 : Lies w45 w45.heap.size (some ⟨w41.heap.size, 0, none⟩) [uv a] := (L47.below b45).more b45.size
    have R48 := R45
    have p45 := o45
    clear hHeld
    refine hK.out _ _ (KS.out _ R45) (fun hHeld => ?_)
    clear hK K
    try simp only [Act.put, List.setIfInBounds_toArray, List.set_cons_zero, List.set_cons_succ]
    refine wpAnyH_ready (rs := [48]) (by kernel_rfl) (by simp) ?_
    refine AllReadyH.cons rfl (fun K hK => ?_) AllReadyH.nil
    have hq := HBE.out _ _ L48
    go_simp
    go_at_call 45; (with_reducible refine hq.mono ?_); rintro e w48 ⟨b48, A48, c48, rfl, o48⟩
    go_wp2_with fail
    clear hq
    have R49 : Below w8.heap.size w8 w48 := R48.trans (b48.mono R48.size)
    clear hHeld
    refine hK.out _ _ (KS.out _ R49) (fun hHeld => ?_)
    clear hK K
    try simp only [Act.put, List.setIfInBounds_toArray, List.set_cons_zero, List.set_cons_succ]
    refine wpAnyH_ready (rs := [49]) (by kernel_rfl) (by simp) ?_
    refine AllReadyH.cons rfl (fun K hK => ?_) AllReadyH.nil
    have hq := HME.out w48 A45 c45 _ A48 c48 _ (own_below' p45 b48) o48
    go_simp
    go_at_call 46; (with_reducible refine hq.mono ?_); rintro e w49 ⟨rfl, b49⟩
    go_wp2_with fail
    clear hq
    have R50 : Below w8.heap.size w8 w49 := R49.trans (b49.mono R49.size)
    clear hHeld
    refine hK.out _ _ (KS.out _ R50) (fun hHeld => ?_)
    clear hK K
    try simp only [Act.put, List.setIfInBounds_toArray, List.set_cons_zero, List.set_cons_succ]
    refine take_at (i := 50) (v := ?_) (some 119) rfl (by kernel_rfl) (by kernel_rfl) (by kernel_rfl) (fun _ _ _ h => h) (by kernel_rfl) (Or.inl ⟨by kernel_rfl, ?_⟩) (by assumption) ?_
    rotate_left
    · (intro w hSw; (try dsimp only at hSw); go_simp <;> with_reducible rfl)
    simp only [Act.put, List.setIfInBounds_toArray, List.set_cons_zero, List.set_cons_succ]
    refine take_at (i := 51) (v := ?_) (some 6) rfl (by kernel_rfl) (by kernel_rfl) (by kernel_rfl) (fun _ _ _ h => h) (by kernel_rfl) (Or.inl ⟨by kernel_rfl, ?_⟩) (by assumption) ?_
    rotate_left
    · (intro w hSw; (try dsimp only at hSw); go_simp <;> with_reducible rfl)
    simp only [Act.put, List.setIfInBounds_toArray, List.set_cons_zero, List.set_cons_succ]
    refine wpAnyH_done (by kernel_rfl) ?_ _
    go_wp2_with fail
    go_ret
    exact ⟨rfl, HB8.out.trans (R50.mono HSZ.out)⟩
end Go.Proofs.YtmohbkniekeafaaGreatDoor


