/- Layer 18: results as a map, and what is looked up in it: mathematics; slices.Backward of nodes, as an iterator. They write nothing that was there. -/
/- Layer 18: outcomesOf (written by tools/gen_asc_i.py), what is looked up in its map. They write nothing that was there. -/
/- Layer 18: Results (written by tools/gen_asc_k.py). They write nothing that was there. -/
import Derived.Test.YteknmgmdmjmnmaaGreatDoorUASA
import Derived.Test.YteknmgmdmjmnmaaGreatDoorUSackE
import Derived.Test.YteknmgmdmjmnmaaGreatDoorUDA
import Derived.Test.YteknmgmdmjmnmaaGreatDoorUNF
import Derived.Deep.RegionHeld3
import Derived.Deep.Cut
import Derived.Laws.StructEq
import Derived.Test.YteknmgmdmjmnmaaGreatDoorUA
import Derived.Laws.BytesArg
import Derived.Test.YteknmgmdmjmnmaaGreatDoorUTA
import Derived.Test.YteknmgmdmjmnmaaGreatDoorUTC
import Derived.Test.YteknmgmdmjmnmaaGreatDoorUNW
import Derived.Test.YteknmgmdmjmnmaaGreatDoorUEL
import Derived.WalkMore
import Derived.Maps.OwnOps
import Derived.Test.YteknmgmdmjmnmaaGreatDoorUSK
import Derived.BigGuard
import Derived.Deep.CutRange




namespace Go.Proofs.YteknmgmdmjmnmaaGreatDoor
open Go.RowKit Go.Maps Go.Shelf

attribute [local go_sem] Oper.semAt_some
set_option linter.unusedSimpArgs false
/-- results as a map's datum: the first one with a number stays -/
def mD : List Nd → DataW Unit
  | [] => .map []
  | n :: l => (mD l).put (k32 (numD n.v)) (.lit (.int .i64 (if n.t = 49155 then 2 else 1)))
theorem mD_is : ∀ l, IsMap (mD l)
  | [] => isMap_empty
  | _ :: l => (mD_is l).put _ _
theorem mD_at (x : UInt32) : ∀ l : List Nd, (mD l).atKey (k32 x) (.lit (.int .i64 0)) = .lit (.int .i64 ((outc l x : Nat) : Int))
  | [] => rfl
  | n :: l => by
    unfold outc
    rw [List.find?_cons]
    by_cases h : numD n.v = x
    · rw [decide_eq_true h]
      subst h
      show ((mD l).put (k32 (numD n.v)) _).atKey _ _ = _
      rw [atKey_put_same (mD_is l) (k32_lit _)]
      by_cases ht : n.t = 49155
      · simp [ht]
      · simp [ht]
    · rw [decide_eq_false h]
      show ((mD l).put (k32 (numD n.v)) _).atKey _ _ = _
      rw [atKey_put_other (fun e => h (k32_inj e).symm), mD_at x l]
      rfl
theorem ownsMap_lookup_int {H : Type} {P : Program} {w : World} {k t e : TypeId} {b n : Nat} {D : DataW H} (h : w.ownsMap P k (plainElem P e) b n D) (K : Keyed P k) (ht : P.underlying t = some (.map k e)) (he : P.underlying e = some (.int .i64)) (hz : (zeroValue e).run P w = .ok (.int .i64 0) w)
    {key : Value} {kl : Lit} (hkey : keyOf P k key = some kl) : ∃ c : Int, (Instr.lookup t (.map (some b)) key false).run P w = .ok (.int .i64 c) w ∧ D.atKey kl (.lit (.int .i64 0)) = .lit (.int .i64 c) := by
  obtain ⟨v, ps, hrun, hv⟩ := h.lookup K ht hz (plainElem_int he (by decide)) hkey
  obtain ⟨c, rfl, hz2, _⟩ := plainElem_int_inv he hv
  exact ⟨c, hrun, (Prod.mk.inj hz2).1⟩
theorem zero_int18 (w : World) : (zeroValue 3).run Tryz.prog w = .ok (.int .i64 0) w := by
  have h : (Tryz.prog.info? 3).map (fun i => i.zero) = some (some (.int .i64 0)) := by kernel_rfl
  obtain ⟨i, hi, hz⟩ := Option.map_eq_some_iff.1 h
  simp [zeroValue, go_sem, typeInfo, hi, hz]
/-! ### slices.Backward of nodes -/
/-- what the iterator keeps -/
structure KpB (X Bs : Nat) (A B : World) : Prop where
  low : Below X A B
  s : B.heap[Bs]? = A.heap[Bs]?
theorem KpB.refl (X Bs : Nat) (A : World) : KpB X Bs A A := ⟨Below.refl _ _, rfl⟩
theorem KpB.trans {X Bs : Nat} {A B C : World} (h : KpB X Bs A B) (k : KpB X Bs B C) : KpB X Bs A C := ⟨h.low.trans k.low, k.s.trans h.s⟩
theorem KpB.put {X Bs : Nat} (W : World) (l : Nat) (o' : Obj) (h1 : Bs ≠ l) (h2 : X ≤ l) (h3 : X ≤ W.heap.size) : KpB X Bs W (W.putObj l o') :=
  ⟨(Below.refl X W).grown (grownBy_putObj' W l o') h3 (fun r e => by cases e; exact h2), World.putObj_heap_other h1⟩
/-- an element: which, and where it lies -/
structure Bk where
  i : Nat
  n : Nd
  A : Option Addr
  c : Nat
  K : Option Addr
  k : Nat
def encB (x : Bk) : Array Value := #[.int .i64 (x.i : Int), .agg #[hv x.n.t, .slice x.A x.n.v.length x.c, .slice x.K x.n.ks.length x.k]]
def RowB (ns : List Nd) (X : Nat) (pre : List Bk) (W : World) (x : Bk) : Prop := x.i + pre.length + 1 = ns.length ∧ ns[x.i]? = some x.n ∧ Node W X x.A x.c x.K x.k x.n
set_option maxRecDepth 100000 in
theorem back_in18 (n : Nat) (A : Option Addr) (m c : Nat) (w : World) :
    CallsIn Fence.wide n Tryz.prog 123 #[.slice A m c] w fun e w' => e = .returned (.func (.func 159) #[] #[.pointer (some ⟨w.heap.size, 0, none⟩)]) ∧ w' = w.alloc (.cells #[.slice A m c] 49) := by
  refine callsIn_of_wp Tryz.func123 rfl trivial ?_ rfl
  simp only [Tryz.ntmps123, List.size_toArray, List.length_cons, List.length_nil, Nat.reduceAdd, Nat.reduceSub, Array.replicate_succ, Array.replicate_zero, List.push_toArray, List.append_toArray, List.nil_append, List.cons_append]
  gi_wp2_with fail
  go_ret
  exact ⟨rfl, rfl⟩
set_option maxRecDepth 100000 in
set_option maxHeartbeats 4000000 in
theorem back1_in18 (n : Nat) (hn : 1 ≤ n) (l Bs X : Nat) (A : Option Addr) (c : Nat) (ns : List Nd) (hs : ns.length ≤ 10000000) (J : List Bk → World → Prop) (Jx : List Bk × Bk → World → Prop)
    (hY : ∀ pre x W1, J pre W1 → pre.length < ns.length → RowB ns X pre W1 x → YieldAt Fence.wide (n - 1) Tryz.prog l (encB x) W1 fun e W' => (e = .returned (.bool true) ∧ J (pre ++ [x]) W' ∧ KpB X Bs W1 W') ∨ (e = .returned (.bool false) ∧ Jx (pre, x) W'))
    (W : World) (hN : Nodes W X A ns) (hBs : Whole W Bs 49 #[.slice A ns.length c]) (h0 : J [] W) :
    CallsIn Fence.wide n Tryz.prog 159 #[.func (.yield l) #[] #[], .pointer (some ⟨Bs, 0, none⟩)] W fun e W' => (∃ v, e = .returned v) ∧ ((∃ xs : List Bk, xs.length = ns.length ∧ J xs W') ∨ (∃ p : List Bk × Bk, p.2.i + p.1.length + 1 = ns.length ∧ Jx p W')) := by
  have HNN := Lib.hid hN
  have c0 : W.cell? ⟨Bs, 0, none⟩ = some (.slice A ns.length c) := by rw [hBs.cell]; rfl
  have HBS := Lib.hid hBs
  clear hN hBs
  refine callsIn_of_wp Tryz.func159 rfl trivial ?_ rfl
  simp only [Tryz.ntmps159, List.size_toArray, List.length_cons, List.length_nil, Nat.reduceAdd, Nat.reduceSub, Array.replicate_succ, Array.replicate_zero, List.push_toArray, List.append_toArray, List.nil_append, List.cons_append]
  gi_wp2
  gi_loopw [3] (fun at_ wr => ∃ (x : Int) (ys : List Bk), at_ = .int .i64 x ∧ x = (ns.length : Int) - 1 - (ys.length : Int) ∧ ys.length ≤ ns.length ∧ J ys wr ∧ KpB X Bs W wr) (fun at_ _ => (intOf at_ + 1).toNat)
  case atStart => exact ⟨(ns.length : Int) - 1, [], rfl, by simp, Nat.zero_le _, h0, KpB.refl _ _ _⟩
  case round =>
    obtain ⟨x, ys, rfl, hx, hyl, hj, hkp⟩ := hrel
    have hWs : Whole wr Bs 49 #[.slice A ns.length c] := hkp.s.trans HBS.out
    have cs : wr.cell? ⟨Bs, 0, none⟩ = some (.slice A ns.length c) := by rw [hWs.cell]; rfl
    by_cases ht : ys.length < ns.length
    · obtain ⟨j, hjj⟩ : ∃ j : Nat, j + ys.length + 1 = ns.length := ⟨ns.length - 1 - ys.length, by omega⟩
      obtain rfl : x = (j : Int) := by omega
      obtain ⟨ad, A', c', K', k', nd, hA, hadb, hnd, d0, d1, d2, hNd⟩ := (HNN.out.bel hkp.low).at_ (k := j) (by omega)
      subst hA
      have h1 : (0 : Int) ≤ (j : Int) := by omega
      have h2 : (j : Int) < (ns.length : Int) := by omega
      have hY1 := Lib.hid (hY ys ⟨j, nd, A', c', K', k'⟩ wr hj ht ⟨hjj, hnd.out, hNd⟩)
      clear hj hx c0 hNd hnd
      obtain ⟨fn, tmps, assign, body, hy, hR⟩ := hY1.out
      dsimp only [encB] at hy
      gi_wp2_with fail
      refine hR.mono ?_
      rintro e' w3 (⟨rfl, hj3, hk3⟩ | ⟨rfl, hx3⟩)
      · have hk03 := hkp.trans hk3
        clear hY1 hR hy d0 d1 d2 cs hWs
        gi_wp2_with fail
        go_roundw
        case rel => exact ⟨(j : Int) - 1, ys ++ [⟨j, nd, A', c', K', k'⟩], rfl, by simp; omega, by simp; omega, hj3, hk03⟩
        case measure => simp [intOf]
      · clear hY1 hR hy d0 d1 d2 cs hWs
        gi_wp2_with fail
        refine bodyPost_ret (results_none rfl _ _ _) rfl ?_
        exact ⟨⟨_, rfl⟩, .inr ⟨(ys, ⟨j, nd, A', c', K', k'⟩), hjj, hx3⟩⟩
    · have h1 : ¬ (0 : Int) ≤ x := by omega
      gi_wp2_with fail
      go_end0
      exact ⟨⟨_, rfl⟩, .inl ⟨ys, by omega, hj⟩⟩
end Go.Proofs.YteknmgmdmjmnmaaGreatDoor






namespace Go.Proofs.YteknmgmdmjmnmaaGreatDoor
open Go.RowKit Go.Maps Go.Shelf

attribute [local go_sem] Oper.semAt_some
set_option linter.unusedSimpArgs false
/-- what the loop of outcomesOf holds -/
structure OcI (ns : List Nd) (A : Option Addr) (c : Nat) (w : World) (pre : List Bk) (V : World) : Prop where
  mp : V.ownsMap Tryz.prog 22 (plainElem (H := Unit) Tryz.prog 3) w.heap.size pre.length (mD (ns.drop (ns.length - pre.length)))
  bx : Whole V (w.heap.size + 1) 129 #[.map (some w.heap.size)]
  low : Below w.heap.size w V
  le : pre.length ≤ ns.length
  bs : Whole V (w.heap.size + 2) 49 #[.slice A ns.length c]
theorem ocI_own {ns : List Nd} {A : Option Addr} {c X : Nat} {w : World} (hX : w.heap.size < X) : OwnFrom X (OcI ns A c w) := by
  rintro pre V V' row ⟨h1, h2, h3, h4, h5⟩ hg hr
  have hr' := fun r e => (hr r e).2
  exact ⟨h1.kept hg (fun e => by have := (hr _ e.symm).1; omega), whole_obj h2 hg hr', h3.grown hg h3.size (fun r e => by have := (hr r e).1; omega), h4, whole_obj h5 hg hr'⟩
theorem wf_one : (Lit.int IntKind.i64 1).wf = true := by decide
theorem wf_two : (Lit.int IntKind.i64 2).wf = true := by decide
theorem drop_next {ns : List Nd} {m i : Nat} {n : Nd} (h : i + m + 1 = ns.length) (hn : ns[i]? = some n) : ns.drop (ns.length - (m + 1)) = n :: ns.drop (ns.length - m) := by
  obtain ⟨hi, rfl⟩ := List.getElem?_eq_some_iff.1 hn
  rw [show ns.length - (m + 1) = i by omega, show ns.length - m = i + 1 by omega]
  exact List.drop_eq_getElem_cons hi
set_option maxRecDepth 100000 in
set_option maxHeartbeats 16000000 in
theorem outcomes_any (ns : List Nd) (hres : ∀ n ∈ ns, n.v.length = 4) (hs : ns.length ≤ 100000) (A : Option Addr) (c : Nat) (w : World) (h : Nodes w w.heap.size A ns) :
    Calls Tryz.prog 80 #[.slice A ns.length c] w fun e w' => e = .returned (.map (some w.heap.size)) ∧ w'.ownsMap Tryz.prog 22 (plainElem (H := Unit) Tryz.prog 3) w.heap.size ns.length (mD ns) ∧ Below w.heap.size w w' := by
  have law : Keyed Tryz.prog 22 := int_keyed Tryz.underlying22
  have hmm := @run_makeMap Tryz.prog
  have m0 := World.ownsMap_made w Tryz.prog 22 (plainElem (H := Unit) Tryz.prog 3)
  have b0 : Below w.heap.size w (w.alloc (.map #[] 0)) := (Below.refl _ w).alloc (Nat.le_refl _) _
  have hz0 : (w.alloc (.map #[] 0)).heap.size = w.heap.size + 1 := by simp
  have HG := Lib.hid h
  have HR := Lib.hid hres
  clear h hres
  refine (callsIn_wide (n := 6)).1 ?_
  refine callsIn_of_wp_marks Tryz.func80 rfl trivial ?_ rfl
  simp only [Tryz.ntmps80, List.size_toArray, List.length_cons, List.length_nil, Nat.reduceAdd, Nat.reduceSub, Array.replicate_succ, Array.replicate_zero, List.push_toArray, List.append_toArray, List.nil_append, List.cons_append]
  gi_upto_region 2 with fail
  have b1 := b0.alloc b0.size (.cells #[.map (some w.heap.size)] 129)
  have m1 := m0.alloc (.cells #[.map (some w.heap.size)] 129)
  have x1 := Whole.new (w.alloc (.map #[] 0)) 129 #[.map (some w.heap.size)]
  rw [hz0] at x1
  have hz1 : ((w.alloc (.map #[] 0)).alloc (.cells #[.map (some w.heap.size)] 129)).heap.size = w.heap.size + 2 := by simp
  generalize (w.alloc (.map #[] 0)).alloc (.cells #[.map (some w.heap.size)] 129) = w1 at *
  have HZ1 := Lib.hid hz1
  have HBK := Lib.hid (back_in18 5 A ns.length c w1)
  rw [hz1] at HBK
  clear m0 b0 hz0 hmm hz1
  gi_wp2_with fail
  refine ⟨trivial, HBK.out.mono ?_⟩
  rintro e w2 ⟨rfl, rfl⟩
  have b9 := b1.alloc b1.size (.cells #[.slice A ns.length c] 49)
  have m9 := m1.alloc (.cells #[.slice A ns.length c] 49)
  have x9 := x1.alloc (.cells #[.slice A ns.length c] 49)
  have s9 := Whole.new w1 49 #[.slice A ns.length c]
  rw [HZ1.out] at s9
  have hz9 : (w1.alloc (.cells #[.slice A ns.length c] 49)).heap.size = w.heap.size + 3 := by rw [World.size_alloc, HZ1.out]
  generalize w1.alloc (.cells #[.slice A ns.length c] 49) = W9 at *
  have I0 : OcI ns A c w [] W9 := ⟨by rw [show ns.length - ([] : List Bk).length = ns.length from rfl, List.drop_length]; exact m9, x9, b9, Nat.zero_le _, s9⟩
  clear b1 m1 x1 HBK HZ1 m9 x9
  have HZ9 := Lib.hid hz9
  have HNW : Hid (Nodes W9 w.heap.size A ns) := Lib.hid (HG.out.bel b9)
  clear hz9
  gi_wp2_with fail
  refine each_leave .ret (F := Fence.wide) (n := 6) (P := Tryz.prog) rfl (by omega) (gf := 159) (lb := #[.pointer (some ⟨w.heap.size + 2, 0, none⟩)]) rfl trivial (enters_of Tryz.func159 (by kernel_rfl) rfl)
    (encs := encB) (Kp := KpB w.heap.size (w.heap.size + 2)) (G := fun _ _ => False) (Row := RowB ns w.heap.size) (Fin := fun xs => xs.length = ns.length) (FinX := fun p => p.2.i + p.1.length + 1 = ns.length) (N := ns.length) ?hseq (fun _ => rfl)
    KpB.trans ?hKb (OcI ns A c w) (ocI_own (by have := HZ9.out; omega)) (fun _ _ => False) (fun _ _ _ _ h _ _ => h) I0 (fun _ _ _ _ h => h.elim)
    (fun pre x a' V => ∃ g : Nat, w.heap.size + 2 < g ∧ a' = { tmps := #[.slice A ns.length c, undef, .map none, .pointer (some ⟨w.heap.size + 1, 0, none⟩), undef, .pointer (some ⟨g, 0, none⟩), undef, .map (some w.heap.size), .slice A ns.length c, .func (.func 159) #[] #[.pointer (some ⟨w.heap.size + 2, 0, none⟩)], .int .i64 (x.i : Int), .agg #[hv x.n.t, .slice x.A x.n.v.length x.c, .slice x.K x.n.ks.length x.k], undef, undef, undef, undef, undef, undef, undef, undef, undef], defers := [] } ∧ Whole V g 51 #[hv x.n.t, .slice x.A x.n.v.length x.c, .slice x.K x.n.ks.length x.k] ∧ OcI ns A c w pre V ∧ x.i + pre.length + 1 = ns.length ∧ Hid (ns[x.i]? = some x.n) ∧ Hid (Lies V w.heap.size x.A (x.n.v.map bv)) ∧ x.n.v.length ≤ x.c) ?hAx
    ?assign ?body ?done ?stop
  case hseq =>
    intro l J Jx W hW hJ hJx _ hY h0
    exact back1_in18 5 (by omega) l (w.heap.size + 2) w.heap.size A c ns (by omega) J Jx (fun pre x W1 h1 h2 h3 => by
      obtain ⟨fn, tmps, assign, body, hy, hR⟩ := hY pre x W1 h1 h2 h3
      exact ⟨fn, tmps, assign, body, hy, hR.mono fun e w' h => h.1⟩) W (HNW.out.bel (hW.mono b9.size)) (s9.below hW s9.lt) h0
  case hKb =>
    intro V l o o' hl ho _
    have hz := HZ9.out
    have hlt := (Array.getElem?_eq_some_iff.1 ho).1
    exact KpB.put V l o' (by omega) (by omega) (by omega)
  case hAx =>
    rintro pre x a' s X Y row ⟨g, hg1, ha, hw, hi, h1, h2, h3, h4⟩ hg hr
    have hz := HZ9.out
    have hr' := fun r e => (hr r e).2
    exact ⟨g, hg1, ha, whole_obj hw hg hr', ocI_own (X := W9.heap.size) (by omega) _ _ _ _ hi hg hr, h1, h2, Lib.hid (h3.out.below ((Below.refl w.heap.size X).grown hg hi.low.size (fun r e => by have := (hr r e).1; omega))), h4⟩
  case stop => exact fun _ _ _ _ _ h _ => h.elim
  case assign =>
    intro l' pre x V K hi hrx hK
    obtain ⟨r1, r2, r3⟩ := hrx
    have hz := HZ9.out
    have hV : w.heap.size + 2 < V.heap.size := hi.bs.lt
    have R2 := Lib.hid r2
    have R3 := Lib.hid r3
    clear r2 r3 hz
    simp only [encB]
    gi_wp2
    refine hK _ _ (KeepsFrom.of_grownBy (World.grownBy_alloc V _ none) (fun j e => by cases e)) ⟨(Below.refl _ V).alloc hi.low.size _, Below.heap_alloc V _ (w.heap.size + 2) hV⟩ ⟨V.heap.size, hV, rfl, Whole.new V _ _, ⟨hi.mp.alloc _, hi.bx.alloc _, hi.low.alloc hi.low.size _, hi.le, hi.bs.alloc _⟩, r1, R2, Lib.hid (R3.out.data.below ((Below.refl _ V).alloc hi.low.size _)), R3.out.dc⟩
  case done =>
    rintro D' xs V hD hF hi hKD
    have hmp := hi.mp
    rw [hF, Nat.sub_self, List.drop_zero] at hmp
    have q1 : V.cell? ⟨w.heap.size + 1, 0, none⟩ = some (.map (some w.heap.size)) := hi.bx.cell 0
    have HI := Lib.hid hi
    have HM := Lib.hid hmp
    clear hi hF hmp
    gi_wp2
    refine ⟨by simp, .inl ⟨_, _, rfl, run_takeDeferred hKD, ?_⟩⟩
    have hp := grownBy_putObj' V D' (.deferred none)
    have hz := HZ9.out
    refine ⟨_, results_tmp rfl _ _ _, rfl, HM.out.kept hp (fun e => by cases e; omega), HI.out.low.grown hp HI.out.low.size (fun r e => by cases e; omega)⟩
  case body =>
    rintro l' pre x a' V ⟨g, hg1, rfl, hw, hi, h1, h2, h3, h4⟩ hlen
    obtain ⟨xi, n, xA, xc, xK, xk⟩ := x
    dsimp only at *
    have hl4 : n.v.length = 4 := HR.out n (List.mem_of_getElem? h2.out)
    have HD := Lib.hid (drop_next h1 h2.out)
    have hz := HZ9.out
    have KN : Hid (∀ X, Below V.heap.size V X → Calls Tryz.prog 72 #[.slice xA n.v.length xc] X fun e w' => e = .returned (uv (numD n.v)) ∧ Below X.heap.size X w') := Lib.hid (fun X hX => numOf18_any xA xc n.v X ((h3.out.below (hX.mono hi.low.size)).more (Nat.le_trans hi.low.size hX.size)) hl4 (by omega))
    have KS : Hid (∀ X, Below V.heap.size V X → X.cell? ⟨w.heap.size + 1, 0, none⟩ = some (.map (some w.heap.size)) ∧ X.cell? ⟨g, 1, none⟩ = some (.slice xA n.v.length xc)) := Lib.hid (fun X hX => ⟨(hi.bx.below hX hi.bx.lt).cell 0, (wh318 (hw.below hX hw.lt)).2.1⟩)
    have HI := Lib.hid hi
    have HW := Lib.hid hw
    have HT : Hid (mD (n :: ns.drop (ns.length - pre.length)) = (mD (ns.drop (ns.length - pre.length))).put (k32 (numD n.v)) (.lit (.int .i64 (if n.t = 49155 then 2 else 1)))) := Lib.hid rfl
    have hgb : w.heap.size + 2 < V.heap.size := hi.bs.lt
    have hpl : pre.length < 10000000 := by omega
    obtain ⟨q0, q1, q2⟩ := wh318 hw
    clear hw hi h1 h2 h3 h4 hl4
    generalize n.v.length = lv at *
    generalize n.ks.length = lk at *
    generalize numD n.v = num at *
    have hpos : n.t = 49155 ∨ n.t ≠ 49155 := by by_cases h : n.t = 49155; exact .inl h; exact .inr h
    rcases hpos with ht | ht
    · rw [if_pos ht] at HT
      have e1 : ((n.t.toNat : Int) == 49155) = true := by rw [beq_iff_eq, ht]; rfl
      clear ht
      generalize n.t = t at *
      gi_upto_region 7 with fail
      clear q0 q1 q2
      refine region_round_held (S := (fun X => X.cell? ⟨w.heap.size + 1, 0, none⟩ = some (.map (some w.heap.size)) ∧ X.cell? ⟨g, 1, none⟩ = some (.slice xA lv xc))) (by kernel_rfl) (by kernel_rfl) (by rintro ⟨a, w, h⟩; exact h) (KS.out _ (below_drew (Below.refl _ _))) (fun hHeld => ?_)
      refine take_at (i := 0) (v := ?_) (some 15) rfl (by kernel_rfl) (by kernel_rfl) (by kernel_rfl) (fun _ _ _ h => h) (by kernel_rfl) (Or.inl ⟨by kernel_rfl, ?_⟩) (by assumption) ?_
      rotate_left
      · (intro w hSw; (try dsimp only at hSw); go_simp <;> with_reducible rfl)
      simp only [Act.put, List.setIfInBounds_toArray, List.set_cons_zero, List.set_cons_succ]
      refine take_at (i := 1) (v := ?_) (some 16) rfl (by kernel_rfl) (by kernel_rfl) (by kernel_rfl) (fun _ _ _ h => h) (by kernel_rfl) (Or.inl ⟨by kernel_rfl, ?_⟩) (by assumption) ?_
      rotate_left
      · (intro w hSw; (try dsimp only at hSw); go_simp <;> with_reducible rfl)
      simp only [Act.put, List.setIfInBounds_toArray, List.set_cons_zero, List.set_cons_succ]
      refine take_at (i := 2) (v := ?_) (some 17) rfl (by kernel_rfl) (by kernel_rfl) (by kernel_rfl) (fun _ _ _ h => h) (by kernel_rfl) (Or.inl ⟨by kernel_rfl, ?_⟩) (by assumption) ?_
      rotate_left
      · (intro w hSw; (try dsimp only at hSw); go_simp <;> with_reducible rfl)
      simp only [Act.put, List.setIfInBounds_toArray, List.set_cons_zero, List.set_cons_succ]
      refine take_at (i := 4) (v := ?_) (some 19) rfl (by kernel_rfl) (by kernel_rfl) (by kernel_rfl) (fun _ _ _ h => h) (by kernel_rfl) (Or.inl ⟨by kernel_rfl, ?_⟩) (by assumption) ?_
      rotate_left
      · (intro w hSw; (try dsimp only at hSw); go_simp <;> with_reducible rfl)
      simp only [Act.put, List.setIfInBounds_toArray, List.set_cons_zero, List.set_cons_succ]
      refine wpAnyH_ready (rs := [3]) (by kernel_rfl) (by simp) ?_
      refine AllReadyH.cons rfl (fun K hK => ?_) AllReadyH.nil
      go_simp
      (with_reducible refine (KN.out V.drew (below_drew (Below.refl _ _))).mono ?_); rintro e w6 ⟨rfl, b6⟩
      go_wp2_with fail
      have B6 : Below V.heap.size V w6 := (below_drew (Below.refl _ _)).trans b6
      have M6 : w6.ownsMap Tryz.prog 22 (plainElem (H := Unit) Tryz.prog 3) w.heap.size pre.length (mD (ns.drop (ns.length - pre.length))) := HI.out.mp.kept (grown_of_below B6) (by simp)
      clear b6
      clear hHeld
      refine hK.out _ _ (KS.out _ B6) (fun hHeld => ?_)
      clear hK K
      try simp only [Act.put, List.setIfInBounds_toArray, List.set_cons_zero, List.set_cons_succ]
      refine wpAnyH_ready (rs := [5]) (by kernel_rfl) (by simp) ?_
      refine AllReadyH.cons rfl (fun K hK => ?_) AllReadyH.nil
      refine wp_mapUpdate16 w6 (.tmp 15) (.tmp 18) (.tmp 19) 129 rfl 22 3 law Tryz.underlying129 (plainElem (H := Unit) Tryz.prog 3) w.heap.size pre.length _ rfl M6 (by unfold maxLen; omega) _ _ _ rfl rfl (k32_key num) (.lit (.int .i64 2)) [] (plainElem_int Tryz.underlying3 wf_two) ?_
      intro w7 M7 gr7
      have x7 := (HI.out.bx.below B6 HI.out.bx.lt).grown gr7 (fun e => by have := Option.some.inj e; omega)
      have s7 := (HI.out.bs.below B6 HI.out.bs.lt).grown gr7 (fun e => by have := Option.some.inj e; omega)
      have n7 := (HW.out.below B6 HW.out.lt).grown gr7 (fun e => by cases e; omega)
      clear hHeld
      refine hK.out _ _ ⟨x7.cell 0, (wh318 n7).2.1⟩ (fun hHeld => ?_)
      clear hK K
      try simp only [Act.put, List.setIfInBounds_toArray, List.set_cons_zero, List.set_cons_succ]
      refine wpAnyH_done (by kernel_rfl) ?_ _
      (try simp only [Exit.inBlock, Exit.then])
      have hl : (pre ++ [(⟨xi, n, xA, xc, xK, xk⟩ : Bk)]).length = pre.length + 1 := by simp
      refine ⟨(KeepsFrom.of_grownBy (grown_of_below B6) (fun j e => by cases e)).trans (KeepsFrom.of_grownBy gr7 (fun j e => by cases e; omega)), ⟨(B6.mono HI.out.low.size).grown gr7 (Nat.le_trans HI.out.low.size B6.size) (fun r e => by cases e; exact Nat.le_refl _), s7.trans HI.out.bs.symm⟩, ⟨?_, x7, (HI.out.low.trans (B6.mono HI.out.low.size)).grown gr7 (Nat.le_trans HI.out.low.size B6.size) (fun r e => by cases e; exact Nat.le_refl _), by rw [hl]; omega, s7⟩⟩
      rw [hl, HD.out, HT.out]
      exact M7
    · rw [if_neg ht] at HT
      have e1 : ((n.t.toNat : Int) == 49155) = false := beq_eq_false_iff_ne.2 fun e => ht (UInt16.toNat_inj.1 (by show n.t.toNat = 49155; omega))
      clear ht
      generalize n.t = t at *
      gi_upto_region 7 with fail
      clear q0 q1 q2
      refine region_round_held (S := (fun X => X.cell? ⟨w.heap.size + 1, 0, none⟩ = some (.map (some w.heap.size)) ∧ X.cell? ⟨g, 1, none⟩ = some (.slice xA lv xc))) (by kernel_rfl) (by kernel_rfl) (by rintro ⟨a, w, h⟩; exact h) (KS.out _ (below_drew (Below.refl _ _))) (fun hHeld => ?_)
      refine take_at (i := 0) (v := ?_) (some 15) rfl (by kernel_rfl) (by kernel_rfl) (by kernel_rfl) (fun _ _ _ h => h) (by kernel_rfl) (Or.inl ⟨by kernel_rfl, ?_⟩) (by assumption) ?_
      rotate_left
      · (intro w hSw; (try dsimp only at hSw); go_simp <;> with_reducible rfl)
      simp only [Act.put, List.setIfInBounds_toArray, List.set_cons_zero, List.set_cons_succ]
      refine take_at (i := 1) (v := ?_) (some 16) rfl (by kernel_rfl) (by kernel_rfl) (by kernel_rfl) (fun _ _ _ h => h) (by kernel_rfl) (Or.inl ⟨by kernel_rfl, ?_⟩) (by assumption) ?_
      rotate_left
      · (intro w hSw; (try dsimp only at hSw); go_simp <;> with_reducible rfl)
      simp only [Act.put, List.setIfInBounds_toArray, List.set_cons_zero, List.set_cons_succ]
      refine take_at (i := 2) (v := ?_) (some 17) rfl (by kernel_rfl) (by kernel_rfl) (by kernel_rfl) (fun _ _ _ h => h) (by kernel_rfl) (Or.inl ⟨by kernel_rfl, ?_⟩) (by assumption) ?_
      rotate_left
      · (intro w hSw; (try dsimp only at hSw); go_simp <;> with_reducible rfl)
      simp only [Act.put, List.setIfInBounds_toArray, List.set_cons_zero, List.set_cons_succ]
      refine take_at (i := 4) (v := ?_) (some 19) rfl (by kernel_rfl) (by kernel_rfl) (by kernel_rfl) (fun _ _ _ h => h) (by kernel_rfl) (Or.inl ⟨by kernel_rfl, ?_⟩) (by assumption) ?_
      rotate_left
      · (intro w hSw; (try dsimp only at hSw); go_simp <;> with_reducible rfl)
      simp only [Act.put, List.setIfInBounds_toArray, List.set_cons_zero, List.set_cons_succ]
      refine wpAnyH_ready (rs := [3]) (by kernel_rfl) (by simp) ?_
      refine AllReadyH.cons rfl (fun K hK => ?_) AllReadyH.nil
      go_simp
      (with_reducible refine (KN.out V.drew (below_drew (Below.refl _ _))).mono ?_); rintro e w6 ⟨rfl, b6⟩
      go_wp2_with fail
      have B6 : Below V.heap.size V w6 := (below_drew (Below.refl _ _)).trans b6
      have M6 : w6.ownsMap Tryz.prog 22 (plainElem (H := Unit) Tryz.prog 3) w.heap.size pre.length (mD (ns.drop (ns.length - pre.length))) := HI.out.mp.kept (grown_of_below B6) (by simp)
      clear b6
      clear hHeld
      refine hK.out _ _ (KS.out _ B6) (fun hHeld => ?_)
      clear hK K
      try simp only [Act.put, List.setIfInBounds_toArray, List.set_cons_zero, List.set_cons_succ]
      refine wpAnyH_ready (rs := [5]) (by kernel_rfl) (by simp) ?_
      refine AllReadyH.cons rfl (fun K hK => ?_) AllReadyH.nil
      refine wp_mapUpdate16 w6 (.tmp 15) (.tmp 18) (.tmp 19) 129 rfl 22 3 law Tryz.underlying129 (plainElem (H := Unit) Tryz.prog 3) w.heap.size pre.length _ rfl M6 (by unfold maxLen; omega) _ _ _ rfl rfl (k32_key num) (.lit (.int .i64 1)) [] (plainElem_int Tryz.underlying3 wf_one) ?_
      intro w7 M7 gr7
      have x7 := (HI.out.bx.below B6 HI.out.bx.lt).grown gr7 (fun e => by have := Option.some.inj e; omega)
      have s7 := (HI.out.bs.below B6 HI.out.bs.lt).grown gr7 (fun e => by have := Option.some.inj e; omega)
      have n7 := (HW.out.below B6 HW.out.lt).grown gr7 (fun e => by cases e; omega)
      clear hHeld
      refine hK.out _ _ ⟨x7.cell 0, (wh318 n7).2.1⟩ (fun hHeld => ?_)
      clear hK K
      try simp only [Act.put, List.setIfInBounds_toArray, List.set_cons_zero, List.set_cons_succ]
      refine wpAnyH_done (by kernel_rfl) ?_ _
      (try simp only [Exit.inBlock, Exit.then])
      have hl : (pre ++ [(⟨xi, n, xA, xc, xK, xk⟩ : Bk)]).length = pre.length + 1 := by simp
      refine ⟨(KeepsFrom.of_grownBy (grown_of_below B6) (fun j e => by cases e)).trans (KeepsFrom.of_grownBy gr7 (fun j e => by cases e; omega)), ⟨(B6.mono HI.out.low.size).grown gr7 (Nat.le_trans HI.out.low.size B6.size) (fun r e => by cases e; exact Nat.le_refl _), s7.trans HI.out.bs.symm⟩, ⟨?_, x7, (HI.out.low.trans (B6.mono HI.out.low.size)).grown gr7 (Nat.le_trans HI.out.low.size B6.size) (fun r e => by cases e; exact Nat.le_refl _), by rw [hl]; omega, s7⟩⟩
      rw [hl, HD.out, HT.out]
      exact M7
end Go.Proofs.YteknmgmdmjmnmaaGreatDoor






namespace Go.Proofs.YteknmgmdmjmnmaaGreatDoor
open Go.RowKit Go.Maps

set_option linter.unusedSimpArgs false
theorem wp_lookup18 {P : Program} (w : World) {o : Oper} {a : Act} {K' : Act → World → Prop} {Q : Exit → Act → World → Prop}
    (m x : Operand) (t : TypeId) (hop : o.op = Op.lookup t m x false) (d : Tmp) (hd : o.dst = some d) (b : Nat) (hm : a.eval m = .map (some b)) (key : Value) (hx : a.eval x = key) (c : Value)
    (hrun : (Instr.lookup t (.map (some b)) key false).run P w = .ok c w) (hK : K' (a.put (some d) c) w) : o.wp P a w K' Q := by
  unfold Oper.wp
  have hK2 : K' (a.put o.dst c) w := by rw [hd]; exact hK
  simp [execOp, hop, hm, hx, hrun, Result.andThen]
  exact hK2
set_option maxRecDepth 100000 in
set_option maxHeartbeats 4000000 in
theorem res1_any (l : List Nd) (n : Nd) (h4 : n.v.length = 4) (A : Option Addr) (c : Nat) (K : Option Addr) (k : Nat) (Bm b nn : Nat) (w : World) (h : Lies w w.heap.size A (n.v.map bv)) (hc : 4 ≤ c) (hm : Whole w Bm 129 #[.map (some b)]) (hown : w.ownsMap Tryz.prog 22 (plainElem (H := Unit) Tryz.prog 3) b nn (mD l)) :
    Calls Tryz.prog 81 #[.agg #[hv n.t, .slice A n.v.length c, .slice K n.ks.length k], .pointer (some ⟨Bm, 0, none⟩)] w fun e w' => e = .returned (.int .i64 ((outc l (numD n.v) : Nat) : Int)) ∧ Below w.heap.size w w' := by
  have law : Keyed Tryz.prog 22 := int_keyed Tryz.underlying22
  have b0 : Below w.heap.size w (w.alloc (.cells #[hv n.t, .slice A n.v.length c, .slice K n.ks.length k] 51)) := (Below.refl _ w).alloc (Nat.le_refl _) _
  have x0 := Whole.new w 51 #[hv n.t, .slice A n.v.length c, .slice K n.ks.length k]
  have y0 := hm.alloc (.cells #[hv n.t, .slice A n.v.length c, .slice K n.ks.length k] 51)
  have m0 := hown.alloc (.cells #[hv n.t, .slice A n.v.length c, .slice K n.ks.length k] 51)
  have l0 := (h.below b0).more b0.size
  have HV : Hid (∀ (V : World), V.ownsMap Tryz.prog 22 (plainElem (H := Unit) Tryz.prog 3) b nn (mD l) → (Instr.lookup 129 (.map (some b)) (uv (numD n.v)) false).run Tryz.prog V = .ok (.int .i64 ((outc l (numD n.v) : Nat) : Int)) V) := Lib.hid (fun V hV => by
    obtain ⟨cc, hrun, hat⟩ := ownsMap_lookup_int hV law Tryz.underlying129 Tryz.underlying3 (zero_int18 V) (k32_key (numD n.v))
    rw [mD_at] at hat
    simp only [DataW.lit.injEq, Lit.int.injEq, true_and] at hat
    rw [hrun, hat])
  have HB := Lib.hid b0
  have HL := Lib.hid (And.intro h4 hc)
  clear h hm hown b0 h4 hc
  go_enter Tryz.func81, Tryz.ntmps81
  go_upto_region 1 with fail
  generalize w.alloc (.cells #[hv n.t, .slice A n.v.length c, .slice K n.ks.length k] 51) = wa at *
  have KN : Hid (Calls Tryz.prog 72 #[.slice A n.v.length c] wa.drew fun e w' => e = .returned (uv (numD n.v)) ∧ Below wa.drew.heap.size wa.drew w') := Lib.hid (numOf18_any A c n.v wa.drew l0 HL.out.1 HL.out.2)
  have KS : Hid (∀ X, Below wa.heap.size wa X → X.cell? ⟨Bm, 0, none⟩ = some (.map (some b)) ∧ X.cell? ⟨w.heap.size, 1, none⟩ = some (.slice A n.v.length c)) := Lib.hid (fun X hX => ⟨(y0.below hX y0.lt).cell 0, (wh318 (x0.below hX x0.lt)).2.1⟩)
  have M0 := Lib.hid m0
  clear x0 y0 m0 l0
  generalize n.v.length = lv at *
  generalize n.ks.length = lk at *
  generalize hnum : numD n.v = num at *
  have HNM := Lib.hid hnum
  clear hnum
  refine wp_region_held_drew (S := (fun X => X.cell? ⟨Bm, 0, none⟩ = some (.map (some b)) ∧ X.cell? ⟨w.heap.size, 1, none⟩ = some (.slice A lv c))) (by kernel_rfl) (KS.out _ (below_drew (Below.refl _ _))) (fun hHeld => ?_)
  refine take_at (i := 0) (v := ?_) (some 4) rfl (by kernel_rfl) (by kernel_rfl) (by kernel_rfl) (fun _ _ _ h => h) (by kernel_rfl) (Or.inl ⟨by kernel_rfl, ?_⟩) (by assumption) ?_
  rotate_left
  · (intro w hSw; (try dsimp only at hSw); go_simp <;> with_reducible rfl)
  simp only [Act.put, List.setIfInBounds_toArray, List.set_cons_zero, List.set_cons_succ]
  refine take_at (i := 1) (v := ?_) (some 5) rfl (by kernel_rfl) (by kernel_rfl) (by kernel_rfl) (fun _ _ _ h => h) (by kernel_rfl) (Or.inl ⟨by kernel_rfl, ?_⟩) (by assumption) ?_
  rotate_left
  · (intro w hSw; (try dsimp only at hSw); go_simp <;> with_reducible rfl)
  simp only [Act.put, List.setIfInBounds_toArray, List.set_cons_zero, List.set_cons_succ]
  refine take_at (i := 2) (v := ?_) (some 6) rfl (by kernel_rfl) (by kernel_rfl) (by kernel_rfl) (fun _ _ _ h => h) (by kernel_rfl) (Or.inl ⟨by kernel_rfl, ?_⟩) (by assumption) ?_
  rotate_left
  · (intro w hSw; (try dsimp only at hSw); go_simp <;> with_reducible rfl)
  simp only [Act.put, List.setIfInBounds_toArray, List.set_cons_zero, List.set_cons_succ]
  refine wpAnyH_ready (rs := [3]) (by kernel_rfl) (by simp) ?_
  refine AllReadyH.cons rfl (fun K hK => ?_) AllReadyH.nil
  go_simp
  (with_reducible refine KN.out.mono ?_); rintro e w6 ⟨rfl, b6⟩
  go_wp2_with fail
  have B6 : Below wa.heap.size wa w6 := (below_drew (Below.refl _ _)).trans b6
  have M6 := HV.out w6 (M0.out.kept (grown_of_below B6) (by simp))
  clear b6
  clear hHeld
  refine hK.out _ _ (KS.out _ B6) (fun hHeld => ?_)
  clear hK K
  try simp only [Act.put, List.setIfInBounds_toArray, List.set_cons_zero, List.set_cons_succ]
  refine wpAnyH_ready (rs := [4]) (by kernel_rfl) (by simp) ?_
  refine AllReadyH.cons rfl (fun K hK => ?_) AllReadyH.nil
  refine wp_lookup18 w6 (.tmp 4) (.tmp 7) 129 rfl 8 rfl b rfl _ rfl _ M6 ?_
  clear hHeld
  refine hK.out _ _ (KS.out _ B6) (fun hHeld => ?_)
  clear hK K
  try simp only [Act.put, List.setIfInBounds_toArray, List.set_cons_zero, List.set_cons_succ]
  refine take_at (i := 5) (v := ?_) (some 3) rfl (by kernel_rfl) (by kernel_rfl) (by kernel_rfl) (fun _ _ _ h => h) (by kernel_rfl) (Or.inl ⟨by kernel_rfl, ?_⟩) (by assumption) ?_
  rotate_left
  · (intro w hSw; (try dsimp only at hSw); go_simp <;> with_reducible rfl)
  simp only [Act.put, List.setIfInBounds_toArray, List.set_cons_zero, List.set_cons_succ]
  refine wpAnyH_done (by kernel_rfl) ?_ _
  go_wp2_with fail
  go_ret
  exact ⟨by first | rfl | (rw [HNM.out]; rfl), HB.out.trans (B6.mono HB.out.size)⟩
abbrev iv18 (x : Nat) : Value := .int .i64 (x : Int)
def resOk (q a : Ck) : Bool := reqB q && ackB a && decide (numD q.d = numD a.d)
theorem intinfo18 : (Tryz.prog.info? 3).map (fun i => (i.zero, i.size, i.bytes)) = some (some (.int .i64 0), 1, 8) := by kernel_rfl
theorem outL_len (q a : Ck) : (outL q a).length = (q.ks.drop 1).length := by unfold outL; rw [List.length_map]
set_option maxRecDepth 100000 in
set_option maxHeartbeats 16000000 in
theorem results18_any (q a : Ck) (hfq : CkFine q) (hfa : CkFine a) (A : Option Addr) (c : Nat) (K : Option Addr) (k : Nat) (A' : Option Addr) (c' : Nat) (K' : Option Addr) (k' : Nat) (w : World) (hq : Chunk w w.heap.size A c K k q) (ha : Chunk w w.heap.size A' c' K' k' a) (hh : Handle w) :
    Calls Tryz.prog 41 #[ckV q A c K k, ckV a A' c' K' k'] w fun e w' => Below w.heap.size w w' ∧ ((resOk q a = true ∧ ∃ A2 c2, e = .returned (.tuple #[.slice A2 (q.ks.drop 1).length c2, .bool true]) ∧ w'.ownsRow w.heap.size 3 1 (.slice A2 (q.ks.drop 1).length c2) (q.ks.drop 1).length ((outL q a).map iv18)) ∨ (resOk q a = false ∧ e = .returned (.tuple #[.slice none 0 0, .bool false]))) := by
  have b0 : Below w.heap.size w ((w.alloc (.cells (ckCells q A c K k) 62)).alloc (.cells (ckCells a A' c' K' k') 62)) := ((Below.refl _ w).alloc (Nat.le_refl _) _).alloc (by simp) _
  have x0 : CkBox _ w.heap.size q A c K k := (CkBox.new w q A c K k).alloc (.cells (ckCells a A' c' K' k') 62)
  have y0 := CkBox.new (w.alloc (.cells (ckCells q A c K k) 62)) a A' c' K' k'
  simp only [World.size_alloc] at y0
  have hs0 : ((w.alloc (.cells (ckCells q A c K k) 62)).alloc (.cells (ckCells a A' c' K' k') 62)).heap.size = w.heap.size + 2 := by simp
  have HQ : Hid (∀ V, Below w.heap.size w V → Calls Tryz.prog 73 #[ckV q A c K k] V fun e w' => e = .returned (.bool (reqB q)) ∧ Below V.heap.size V w') := Lib.hid (fun V hV => isReq_any q hfq A c K k V (hq.on hV) (hh.below hV hh.lt))
  have HA : Hid (∀ V, Below w.heap.size w V → Calls Tryz.prog 74 #[ckV a A' c' K' k'] V fun e w' => e = .returned (.bool (ackB a)) ∧ Below V.heap.size V w') := Lib.hid (fun V hV => isAck_any a hfa A' c' K' k' V (ha.on hV) (hh.below hV hh.lt))
  have HN1 : Hid (reqB q = true → ∀ V, Below w.heap.size w V → Calls Tryz.prog 72 #[.slice A q.d.length c] V fun e w' => e = .returned (uv (numD q.d)) ∧ Below V.heap.size V w') := Lib.hid (fun hs V hV => numOf18_any A c q.d V (hq.on hV).data (req_len hs) (by have := hq.dc; have := req_len hs; omega))
  have HN2 : Hid (ackB a = true → ∀ V, Below w.heap.size w V → Calls Tryz.prog 72 #[.slice A' a.d.length c'] V fun e w' => e = .returned (uv (numD a.d)) ∧ Below V.heap.size V w') := Lib.hid (fun hs V hV => numOf18_any A' c' a.d V (ha.on hV).data (ack_len hs) (by have := ha.dc; have := ack_len hs; omega))
  have HO : Hid (ackB a = true → ∀ V, Below w.heap.size w V → Calls Tryz.prog 80 #[.slice K' a.ks.length k'] V fun e w' => e = .returned (.map (some V.heap.size)) ∧ w'.ownsMap Tryz.prog 22 (plainElem (H := Unit) Tryz.prog 3) V.heap.size a.ks.length (mD a.ks) ∧ Below V.heap.size V w') := Lib.hid (fun hs V hV => outcomes_any a.ks (fun n hn => (res_parts (ack_kid hs n hn)).2.2) (by have := hfa.ks; omega) K' k' V (ha.on hV).kids)
  have HG : Hid (reqB q = true → ∀ V, Below w.heap.size w V → Calls Tryz.prog 82 #[ckV q A c K k] V fun e w' => ∃ K1 k1, e = .returned (.slice K1 (q.ks.drop 1).length k1) ∧ Nodes w' w'.heap.size K1 (q.ks.drop 1) ∧ Below V.heap.size V w') := Lib.hid (fun hs V hV => by
    obtain ⟨_, x, l, e, hne, _, _⟩ := chunk193 (req_parts hs).1 (req_parts hs).2.1
    have hd : q.ks.drop 1 = l := by rw [e]; rfl
    rw [hd]
    exact (changes18_any q x l e hne A c K k V (hq.on hV)).mono fun e w' ⟨K1, k1, h1, h2, _, _, h5⟩ => ⟨K1, k1, h1, h2, h5⟩)
  have HL4 : Hid (reqB q = true → ∀ n ∈ q.ks.drop 1, n.v.length = 4) := Lib.hid (fun hs n hn => (chg_parts (req_kid hs n hn)).2.2)
  have HLL : Hid ((q.ks.drop 1).length ≤ 1000) := Lib.hid (by rw [List.length_drop]; have := hfq.ks; omega)
  have HRS : Hid (resOk q a = (reqB q && ackB a && decide (numD q.d = numD a.d))) := Lib.hid rfl
  have HOL : Hid (outL q a = (q.ks.drop 1).map fun n => outc a.ks (numD n.v)) := Lib.hid rfl
  clear hq ha hh hfq hfa
  generalize resOk q a = ro at *
  generalize reqB q = rb at *
  generalize ackB a = ab at *
  generalize numD q.d = n1 at *
  generalize numD a.d = n2 at *
  generalize outL q a = OL at *
  obtain ⟨t, fl, d, ks⟩ := q
  obtain ⟨t', fl', d', ks'⟩ := a
  simp only [ckV, ckCells] at *
  generalize hql : ks.drop 1 = ql at *
  clear hql
  go_enter Tryz.func41, Tryz.ntmps41
  go_upto_region 1 with fail
  generalize (w.alloc (.cells #[bv t, bv fl, .slice A d.length c, .slice K ks.length k] 62)).alloc (.cells #[bv t', bv fl', .slice A' d'.length c', .slice K' ks'.length k'] 62) = wa at *
  have X0 : Whole wa w.heap.size 62 #[bv t, bv fl, .slice A d.length c, .slice K ks.length k] := x0
  have Y0 : Whole wa (w.heap.size + 1) 62 #[bv t', bv fl', .slice A' d'.length c', .slice K' ks'.length k'] := y0
  clear x0 y0
  have HB0 := Lib.hid b0
  have KX : Hid (∀ V, Below wa.heap.size wa V → Whole V w.heap.size 62 #[bv t, bv fl, .slice A d.length c, .slice K ks.length k] ∧ Whole V (w.heap.size + 1) 62 #[bv t', bv fl', .slice A' d'.length c', .slice K' ks'.length k']) := Lib.hid (fun V hV => ⟨X0.below hV X0.lt, Y0.below hV Y0.lt⟩)
  have KS : Hid (∀ V, Below wa.heap.size wa V → (V.cell? ⟨w.heap.size, 0, none⟩ = some (bv t) ∧ V.cell? ⟨w.heap.size, 1, none⟩ = some (bv fl) ∧ V.cell? ⟨w.heap.size, 2, none⟩ = some (.slice A d.length c) ∧ V.cell? ⟨w.heap.size, 3, none⟩ = some (.slice K ks.length k)) ∧ V.cell? ⟨w.heap.size + 1, 0, none⟩ = some (bv t') ∧ V.cell? ⟨w.heap.size + 1, 1, none⟩ = some (bv fl') ∧ V.cell? ⟨w.heap.size + 1, 2, none⟩ = some (.slice A' d'.length c') ∧ V.cell? ⟨w.heap.size + 1, 3, none⟩ = some (.slice K' ks'.length k')) := Lib.hid (fun V hV => ⟨wh4 (KX.out V hV).1, wh4 (KX.out V hV).2⟩)
  clear b0 X0 Y0 hs0
  go_cut [27] from 11 to 27 (fun v wx => v = .bool (!(rb && ab && decide (n1 = n2))) ∧ Hid (Below wa.heap.size wa wx))
  case first =>
    cases rb with
    | false =>
      refine wp_region_held_drew (S := (fun V => (V.cell? ⟨w.heap.size, 0, none⟩ = some (bv t) ∧ V.cell? ⟨w.heap.size, 1, none⟩ = some (bv fl) ∧ V.cell? ⟨w.heap.size, 2, none⟩ = some (.slice A d.length c) ∧ V.cell? ⟨w.heap.size, 3, none⟩ = some (.slice K ks.length k)) ∧ V.cell? ⟨w.heap.size + 1, 0, none⟩ = some (bv t') ∧ V.cell? ⟨w.heap.size + 1, 1, none⟩ = some (bv fl') ∧ V.cell? ⟨w.heap.size + 1, 2, none⟩ = some (.slice A' d'.length c') ∧ V.cell? ⟨w.heap.size + 1, 3, none⟩ = some (.slice K' ks'.length k'))) (by kernel_rfl) (KS.out _ (below_drew (Below.refl _ _))) (fun hHeld => ?_)
      refine take_at (i := 0) (v := ?_) (some 11) rfl (by kernel_rfl) (by kernel_rfl) (by kernel_rfl) (fun _ _ _ h => h) (by kernel_rfl) (Or.inl ⟨by kernel_rfl, ?_⟩) (by assumption) ?_
      rotate_left
      · (intro w hSw; (try dsimp only at hSw); go_simp <;> with_reducible rfl)
      simp only [Act.put, List.setIfInBounds_toArray, List.set_cons_zero, List.set_cons_succ]
      refine wpAnyH_ready (rs := [1]) (by kernel_rfl) (by simp) ?_
      refine AllReadyH.cons rfl (fun K hK => ?_) AllReadyH.nil
      go_simp
      (with_reducible refine (HQ.out wa.drew (below_drew HB0.out)).mono ?_); rintro e w1 ⟨rfl, b1⟩
      go_wp2_with fail
      have B1 : Below wa.heap.size wa w1 := (below_drew (Below.refl _ _)).trans b1
      clear b1
      clear hHeld
      refine hK.out _ _ (KS.out _ B1) (fun hHeld => ?_)
      clear hK K
      try simp only [Act.put, List.setIfInBounds_toArray, List.set_cons_zero, List.set_cons_succ]
      refine take_at (i := 2) (v := ?_) (some 13) rfl (by kernel_rfl) (by kernel_rfl) (by kernel_rfl) (fun _ _ _ h => h) (by kernel_rfl) (Or.inl ⟨by kernel_rfl, ?_⟩) (by assumption) ?_
      rotate_left
      · (intro w hSw; (try dsimp only at hSw); go_simp <;> with_reducible rfl)
      simp only [Act.put, List.setIfInBounds_toArray, List.set_cons_zero, List.set_cons_succ]
      refine take_at (i := 3) (v := ?_) (some 14) rfl (by kernel_rfl) (by kernel_rfl) (by kernel_rfl) (fun _ _ _ h => h) (by kernel_rfl) (Or.inl ⟨by kernel_rfl, ?_⟩) (by assumption) ?_
      rotate_left
      · (intro w hSw; (try dsimp only at hSw); go_simp <;> with_reducible rfl)
      simp only [Act.put, List.setIfInBounds_toArray, List.set_cons_zero, List.set_cons_succ]
      refine take_at (i := 4) (v := undef) (some 15) rfl (by kernel_rfl) (by kernel_rfl) (by kernel_rfl) (fun _ _ _ h => h) (by kernel_rfl) (Or.inr ⟨by kernel_rfl, rfl⟩) (by assumption) ?_
      simp only [Act.put, List.setIfInBounds_toArray, List.set_cons_zero, List.set_cons_succ]
      refine take_at (i := 5) (v := undef) (some 16) rfl (by kernel_rfl) (by kernel_rfl) (by kernel_rfl) (fun _ _ _ h => h) (by kernel_rfl) (Or.inr ⟨by kernel_rfl, rfl⟩) (by assumption) ?_
      simp only [Act.put, List.setIfInBounds_toArray, List.set_cons_zero, List.set_cons_succ]
      refine take_at (i := 6) (v := undef) (some 17) rfl (by kernel_rfl) (by kernel_rfl) (by kernel_rfl) (fun _ _ _ h => h) (by kernel_rfl) (Or.inr ⟨by kernel_rfl, rfl⟩) (by assumption) ?_
      simp only [Act.put, List.setIfInBounds_toArray, List.set_cons_zero, List.set_cons_succ]
      refine take_at (i := 7) (v := ?_) (some 18) rfl (by kernel_rfl) (by kernel_rfl) (by kernel_rfl) (fun _ _ _ h => h) (by kernel_rfl) (Or.inl ⟨by kernel_rfl, ?_⟩) (by assumption) ?_
      rotate_left
      · (intro w hSw; (try dsimp only at hSw); go_simp <;> with_reducible rfl)
      simp only [Act.put, List.setIfInBounds_toArray, List.set_cons_zero, List.set_cons_succ]
      refine take_at (i := 8) (v := ?_) (some 19) rfl (by kernel_rfl) (by kernel_rfl) (by kernel_rfl) (fun _ _ _ h => h) (by kernel_rfl) (Or.inl ⟨by kernel_rfl, ?_⟩) (by assumption) ?_
      rotate_left
      · (intro w hSw; (try dsimp only at hSw); go_simp <;> with_reducible rfl)
      simp only [Act.put, List.setIfInBounds_toArray, List.set_cons_zero, List.set_cons_succ]
      refine take_at (i := 9) (v := undef) (some 20) rfl (by kernel_rfl) (by kernel_rfl) (by kernel_rfl) (fun _ _ _ h => h) (by kernel_rfl) (Or.inr ⟨by kernel_rfl, rfl⟩) (by assumption) ?_
      simp only [Act.put, List.setIfInBounds_toArray, List.set_cons_zero, List.set_cons_succ]
      refine take_at (i := 10) (v := undef) (some 21) rfl (by kernel_rfl) (by kernel_rfl) (by kernel_rfl) (fun _ _ _ h => h) (by kernel_rfl) (Or.inr ⟨by kernel_rfl, rfl⟩) (by assumption) ?_
      simp only [Act.put, List.setIfInBounds_toArray, List.set_cons_zero, List.set_cons_succ]
      refine take_at (i := 11) (v := undef) (some 22) rfl (by kernel_rfl) (by kernel_rfl) (by kernel_rfl) (fun _ _ _ h => h) (by kernel_rfl) (Or.inr ⟨by kernel_rfl, rfl⟩) (by assumption) ?_
      simp only [Act.put, List.setIfInBounds_toArray, List.set_cons_zero, List.set_cons_succ]
      refine take_at (i := 12) (v := undef) (some 23) rfl (by kernel_rfl) (by kernel_rfl) (by kernel_rfl) (fun _ _ _ h => h) (by kernel_rfl) (Or.inr ⟨by kernel_rfl, rfl⟩) (by assumption) ?_
      simp only [Act.put, List.setIfInBounds_toArray, List.set_cons_zero, List.set_cons_succ]
      refine take_at (i := 13) (v := undef) (some 24) rfl (by kernel_rfl) (by kernel_rfl) (by kernel_rfl) (fun _ _ _ h => h) (by kernel_rfl) (Or.inr ⟨by kernel_rfl, rfl⟩) (by assumption) ?_
      simp only [Act.put, List.setIfInBounds_toArray, List.set_cons_zero, List.set_cons_succ]
      refine take_at (i := 14) (v := undef) (some 25) rfl (by kernel_rfl) (by kernel_rfl) (by kernel_rfl) (fun _ _ _ h => h) (by kernel_rfl) (Or.inr ⟨by kernel_rfl, rfl⟩) (by assumption) ?_
      simp only [Act.put, List.setIfInBounds_toArray, List.set_cons_zero, List.set_cons_succ]
      refine take_at (i := 15) (v := undef) (some 26) rfl (by kernel_rfl) (by kernel_rfl) (by kernel_rfl) (fun _ _ _ h => h) (by kernel_rfl) (Or.inr ⟨by kernel_rfl, rfl⟩) (by assumption) ?_
      simp only [Act.put, List.setIfInBounds_toArray, List.set_cons_zero, List.set_cons_succ]
      refine take_at (i := 16) (v := ?_) (some 27) rfl (by kernel_rfl) (by kernel_rfl) (by kernel_rfl) (fun _ _ _ h => h) (by kernel_rfl) (Or.inl ⟨by kernel_rfl, ?_⟩) (by assumption) ?_
      rotate_left
      · (intro w hSw; (try dsimp only at hSw); go_simp <;> with_reducible rfl)
      simp only [Act.put, List.setIfInBounds_toArray, List.set_cons_zero, List.set_cons_succ]
      refine wpAnyH_done (by kernel_rfl) ?_ _
      go_wp2_with fail
      go_meet
      exact ⟨rfl, Lib.hid B1⟩
    | true =>
      cases ab with
      | false =>
        refine wp_region_held_drew (S := (fun V => (V.cell? ⟨w.heap.size, 0, none⟩ = some (bv t) ∧ V.cell? ⟨w.heap.size, 1, none⟩ = some (bv fl) ∧ V.cell? ⟨w.heap.size, 2, none⟩ = some (.slice A d.length c) ∧ V.cell? ⟨w.heap.size, 3, none⟩ = some (.slice K ks.length k)) ∧ V.cell? ⟨w.heap.size + 1, 0, none⟩ = some (bv t') ∧ V.cell? ⟨w.heap.size + 1, 1, none⟩ = some (bv fl') ∧ V.cell? ⟨w.heap.size + 1, 2, none⟩ = some (.slice A' d'.length c') ∧ V.cell? ⟨w.heap.size + 1, 3, none⟩ = some (.slice K' ks'.length k'))) (by kernel_rfl) (KS.out _ (below_drew (Below.refl _ _))) (fun hHeld => ?_)
        refine take_at (i := 0) (v := ?_) (some 11) rfl (by kernel_rfl) (by kernel_rfl) (by kernel_rfl) (fun _ _ _ h => h) (by kernel_rfl) (Or.inl ⟨by kernel_rfl, ?_⟩) (by assumption) ?_
        rotate_left
        · (intro w hSw; (try dsimp only at hSw); go_simp <;> with_reducible rfl)
        simp only [Act.put, List.setIfInBounds_toArray, List.set_cons_zero, List.set_cons_succ]
        refine wpAnyH_ready (rs := [1]) (by kernel_rfl) (by simp) ?_
        refine AllReadyH.cons rfl (fun K hK => ?_) AllReadyH.nil
        go_simp
        (with_reducible refine (HQ.out wa.drew (below_drew HB0.out)).mono ?_); rintro e w1 ⟨rfl, b1⟩
        go_wp2_with fail
        have B1 : Below wa.heap.size wa w1 := (below_drew (Below.refl _ _)).trans b1
        clear b1
        clear hHeld
        refine hK.out _ _ (KS.out _ B1) (fun hHeld => ?_)
        clear hK K
        try simp only [Act.put, List.setIfInBounds_toArray, List.set_cons_zero, List.set_cons_succ]
        refine take_at (i := 2) (v := ?_) (some 13) rfl (by kernel_rfl) (by kernel_rfl) (by kernel_rfl) (fun _ _ _ h => h) (by kernel_rfl) (Or.inl ⟨by kernel_rfl, ?_⟩) (by assumption) ?_
        rotate_left
        · (intro w hSw; (try dsimp only at hSw); go_simp <;> with_reducible rfl)
        simp only [Act.put, List.setIfInBounds_toArray, List.set_cons_zero, List.set_cons_succ]
        refine take_at (i := 3) (v := ?_) (some 14) rfl (by kernel_rfl) (by kernel_rfl) (by kernel_rfl) (fun _ _ _ h => h) (by kernel_rfl) (Or.inl ⟨by kernel_rfl, ?_⟩) (by assumption) ?_
        rotate_left
        · (intro w hSw; (try dsimp only at hSw); go_simp <;> with_reducible rfl)
        simp only [Act.put, List.setIfInBounds_toArray, List.set_cons_zero, List.set_cons_succ]
        refine take_at (i := 4) (v := ?_) (some 15) rfl (by kernel_rfl) (by kernel_rfl) (by kernel_rfl) (fun _ _ _ h => h) (by kernel_rfl) (Or.inl ⟨by kernel_rfl, ?_⟩) (by assumption) ?_
        rotate_left
        · (intro w hSw; (try dsimp only at hSw); go_simp <;> with_reducible rfl)
        simp only [Act.put, List.setIfInBounds_toArray, List.set_cons_zero, List.set_cons_succ]
        refine wpAnyH_ready (rs := [5]) (by kernel_rfl) (by simp) ?_
        refine AllReadyH.cons rfl (fun K hK => ?_) AllReadyH.nil
        go_simp
        (with_reducible refine (HA.out w1 (HB0.out.trans (B1.mono HB0.out.size))).mono ?_); rintro e w2 ⟨rfl, b2⟩
        go_wp2_with fail
        have B2 : Below wa.heap.size wa w2 := B1.trans (b2.mono B1.size)
        clear b2
        clear hHeld
        refine hK.out _ _ (KS.out _ B2) (fun hHeld => ?_)
        clear hK K
        try simp only [Act.put, List.setIfInBounds_toArray, List.set_cons_zero, List.set_cons_succ]
        refine take_at (i := 6) (v := ?_) (some 17) rfl (by kernel_rfl) (by kernel_rfl) (by kernel_rfl) (fun _ _ _ h => h) (by kernel_rfl) (Or.inl ⟨by kernel_rfl, ?_⟩) (by assumption) ?_
        rotate_left
        · (intro w hSw; (try dsimp only at hSw); go_simp <;> with_reducible rfl)
        simp only [Act.put, List.setIfInBounds_toArray, List.set_cons_zero, List.set_cons_succ]
        refine take_at (i := 7) (v := ?_) (some 18) rfl (by kernel_rfl) (by kernel_rfl) (by kernel_rfl) (fun _ _ _ h => h) (by kernel_rfl) (Or.inl ⟨by kernel_rfl, ?_⟩) (by assumption) ?_
        rotate_left
        · (intro w hSw; (try dsimp only at hSw); go_simp <;> with_reducible rfl)
        simp only [Act.put, List.setIfInBounds_toArray, List.set_cons_zero, List.set_cons_succ]
        refine take_at (i := 8) (v := ?_) (some 19) rfl (by kernel_rfl) (by kernel_rfl) (by kernel_rfl) (fun _ _ _ h => h) (by kernel_rfl) (Or.inl ⟨by kernel_rfl, ?_⟩) (by assumption) ?_
        rotate_left
        · (intro w hSw; (try dsimp only at hSw); go_simp <;> with_reducible rfl)
        simp only [Act.put, List.setIfInBounds_toArray, List.set_cons_zero, List.set_cons_succ]
        refine take_at (i := 9) (v := undef) (some 20) rfl (by kernel_rfl) (by kernel_rfl) (by kernel_rfl) (fun _ _ _ h => h) (by kernel_rfl) (Or.inr ⟨by kernel_rfl, rfl⟩) (by assumption) ?_
        simp only [Act.put, List.setIfInBounds_toArray, List.set_cons_zero, List.set_cons_succ]
        refine take_at (i := 10) (v := undef) (some 21) rfl (by kernel_rfl) (by kernel_rfl) (by kernel_rfl) (fun _ _ _ h => h) (by kernel_rfl) (Or.inr ⟨by kernel_rfl, rfl⟩) (by assumption) ?_
        simp only [Act.put, List.setIfInBounds_toArray, List.set_cons_zero, List.set_cons_succ]
        refine take_at (i := 11) (v := undef) (some 22) rfl (by kernel_rfl) (by kernel_rfl) (by kernel_rfl) (fun _ _ _ h => h) (by kernel_rfl) (Or.inr ⟨by kernel_rfl, rfl⟩) (by assumption) ?_
        simp only [Act.put, List.setIfInBounds_toArray, List.set_cons_zero, List.set_cons_succ]
        refine take_at (i := 12) (v := undef) (some 23) rfl (by kernel_rfl) (by kernel_rfl) (by kernel_rfl) (fun _ _ _ h => h) (by kernel_rfl) (Or.inr ⟨by kernel_rfl, rfl⟩) (by assumption) ?_
        simp only [Act.put, List.setIfInBounds_toArray, List.set_cons_zero, List.set_cons_succ]
        refine take_at (i := 13) (v := undef) (some 24) rfl (by kernel_rfl) (by kernel_rfl) (by kernel_rfl) (fun _ _ _ h => h) (by kernel_rfl) (Or.inr ⟨by kernel_rfl, rfl⟩) (by assumption) ?_
        simp only [Act.put, List.setIfInBounds_toArray, List.set_cons_zero, List.set_cons_succ]
        refine take_at (i := 14) (v := undef) (some 25) rfl (by kernel_rfl) (by kernel_rfl) (by kernel_rfl) (fun _ _ _ h => h) (by kernel_rfl) (Or.inr ⟨by kernel_rfl, rfl⟩) (by assumption) ?_
        simp only [Act.put, List.setIfInBounds_toArray, List.set_cons_zero, List.set_cons_succ]
        refine take_at (i := 15) (v := undef) (some 26) rfl (by kernel_rfl) (by kernel_rfl) (by kernel_rfl) (fun _ _ _ h => h) (by kernel_rfl) (Or.inr ⟨by kernel_rfl, rfl⟩) (by assumption) ?_
        simp only [Act.put, List.setIfInBounds_toArray, List.set_cons_zero, List.set_cons_succ]
        refine take_at (i := 16) (v := ?_) (some 27) rfl (by kernel_rfl) (by kernel_rfl) (by kernel_rfl) (fun _ _ _ h => h) (by kernel_rfl) (Or.inl ⟨by kernel_rfl, ?_⟩) (by assumption) ?_
        rotate_left
        · (intro w hSw; (try dsimp only at hSw); go_simp <;> with_reducible rfl)
        simp only [Act.put, List.setIfInBounds_toArray, List.set_cons_zero, List.set_cons_succ]
        refine wpAnyH_done (by kernel_rfl) ?_ _
        go_wp2_with fail
        go_meet
        exact ⟨rfl, Lib.hid B2⟩
      | true =>
        have hneq : ((n1.toNat : Int) != (n2.toNat : Int)) = !(true && true && decide (n1 = n2)) := by
          by_cases h : n1 = n2
          · subst h; simp
          · have : ¬ (n1.toNat : Int) = (n2.toNat : Int) := fun e => h (UInt32.toNat_inj.1 (by omega))
            simp [h, this]
        refine wp_region_held_drew (S := (fun V => (V.cell? ⟨w.heap.size, 0, none⟩ = some (bv t) ∧ V.cell? ⟨w.heap.size, 1, none⟩ = some (bv fl) ∧ V.cell? ⟨w.heap.size, 2, none⟩ = some (.slice A d.length c) ∧ V.cell? ⟨w.heap.size, 3, none⟩ = some (.slice K ks.length k)) ∧ V.cell? ⟨w.heap.size + 1, 0, none⟩ = some (bv t') ∧ V.cell? ⟨w.heap.size + 1, 1, none⟩ = some (bv fl') ∧ V.cell? ⟨w.heap.size + 1, 2, none⟩ = some (.slice A' d'.length c') ∧ V.cell? ⟨w.heap.size + 1, 3, none⟩ = some (.slice K' ks'.length k'))) (by kernel_rfl) (KS.out _ (below_drew (Below.refl _ _))) (fun hHeld => ?_)
        refine take_at (i := 0) (v := ?_) (some 11) rfl (by kernel_rfl) (by kernel_rfl) (by kernel_rfl) (fun _ _ _ h => h) (by kernel_rfl) (Or.inl ⟨by kernel_rfl, ?_⟩) (by assumption) ?_
        rotate_left
        · (intro w hSw; (try dsimp only at hSw); go_simp <;> with_reducible rfl)
        simp only [Act.put, List.setIfInBounds_toArray, List.set_cons_zero, List.set_cons_succ]
        refine wpAnyH_ready (rs := [1]) (by kernel_rfl) (by simp) ?_
        refine AllReadyH.cons rfl (fun K hK => ?_) AllReadyH.nil
        go_simp
        (with_reducible refine (HQ.out wa.drew (below_drew HB0.out)).mono ?_); rintro e w1 ⟨rfl, b1⟩
        go_wp2_with fail
        have B1 : Below wa.heap.size wa w1 := (below_drew (Below.refl _ _)).trans b1
        clear b1
        clear hHeld
        refine hK.out _ _ (KS.out _ B1) (fun hHeld => ?_)
        clear hK K
        try simp only [Act.put, List.setIfInBounds_toArray, List.set_cons_zero, List.set_cons_succ]
        refine take_at (i := 2) (v := ?_) (some 13) rfl (by kernel_rfl) (by kernel_rfl) (by kernel_rfl) (fun _ _ _ h => h) (by kernel_rfl) (Or.inl ⟨by kernel_rfl, ?_⟩) (by assumption) ?_
        rotate_left
        · (intro w hSw; (try dsimp only at hSw); go_simp <;> with_reducible rfl)
        simp only [Act.put, List.setIfInBounds_toArray, List.set_cons_zero, List.set_cons_succ]
        refine take_at (i := 3) (v := ?_) (some 14) rfl (by kernel_rfl) (by kernel_rfl) (by kernel_rfl) (fun _ _ _ h => h) (by kernel_rfl) (Or.inl ⟨by kernel_rfl, ?_⟩) (by assumption) ?_
        rotate_left
        · (intro w hSw; (try dsimp only at hSw); go_simp <;> with_reducible rfl)
        simp only [Act.put, List.setIfInBounds_toArray, List.set_cons_zero, List.set_cons_succ]
        refine take_at (i := 4) (v := ?_) (some 15) rfl (by kernel_rfl) (by kernel_rfl) (by kernel_rfl) (fun _ _ _ h => h) (by kernel_rfl) (Or.inl ⟨by kernel_rfl, ?_⟩) (by assumption) ?_
        rotate_left
        · (intro w hSw; (try dsimp only at hSw); go_simp <;> with_reducible rfl)
        simp only [Act.put, List.setIfInBounds_toArray, List.set_cons_zero, List.set_cons_succ]
        refine wpAnyH_ready (rs := [5]) (by kernel_rfl) (by simp) ?_
        refine AllReadyH.cons rfl (fun K hK => ?_) AllReadyH.nil
        go_simp
        (with_reducible refine (HA.out w1 (HB0.out.trans (B1.mono HB0.out.size))).mono ?_); rintro e w2 ⟨rfl, b2⟩
        go_wp2_with fail
        have B2 : Below wa.heap.size wa w2 := B1.trans (b2.mono B1.size)
        clear b2
        clear hHeld
        refine hK.out _ _ (KS.out _ B2) (fun hHeld => ?_)
        clear hK K
        try simp only [Act.put, List.setIfInBounds_toArray, List.set_cons_zero, List.set_cons_succ]
        refine take_at (i := 6) (v := ?_) (some 17) rfl (by kernel_rfl) (by kernel_rfl) (by kernel_rfl) (fun _ _ _ h => h) (by kernel_rfl) (Or.inl ⟨by kernel_rfl, ?_⟩) (by assumption) ?_
        rotate_left
        · (intro w hSw; (try dsimp only at hSw); go_simp <;> with_reducible rfl)
        simp only [Act.put, List.setIfInBounds_toArray, List.set_cons_zero, List.set_cons_succ]
        refine take_at (i := 7) (v := ?_) (some 18) rfl (by kernel_rfl) (by kernel_rfl) (by kernel_rfl) (fun _ _ _ h => h) (by kernel_rfl) (Or.inl ⟨by kernel_rfl, ?_⟩) (by assumption) ?_
        rotate_left
        · (intro w hSw; (try dsimp only at hSw); go_simp <;> with_reducible rfl)
        simp only [Act.put, List.setIfInBounds_toArray, List.set_cons_zero, List.set_cons_succ]
        refine take_at (i := 8) (v := ?_) (some 19) rfl (by kernel_rfl) (by kernel_rfl) (by kernel_rfl) (fun _ _ _ h => h) (by kernel_rfl) (Or.inl ⟨by kernel_rfl, ?_⟩) (by assumption) ?_
        rotate_left
        · (intro w hSw; (try dsimp only at hSw); go_simp <;> with_reducible rfl)
        simp only [Act.put, List.setIfInBounds_toArray, List.set_cons_zero, List.set_cons_succ]
        refine take_at (i := 9) (v := ?_) (some 20) rfl (by kernel_rfl) (by kernel_rfl) (by kernel_rfl) (fun _ _ _ h => h) (by kernel_rfl) (Or.inl ⟨by kernel_rfl, ?_⟩) (by assumption) ?_
        rotate_left
        · (intro w hSw; (try dsimp only at hSw); go_simp <;> with_reducible rfl)
        simp only [Act.put, List.setIfInBounds_toArray, List.set_cons_zero, List.set_cons_succ]
        refine take_at (i := 10) (v := ?_) (some 21) rfl (by kernel_rfl) (by kernel_rfl) (by kernel_rfl) (fun _ _ _ h => h) (by kernel_rfl) (Or.inl ⟨by kernel_rfl, ?_⟩) (by assumption) ?_
        rotate_left
        · (intro w hSw; (try dsimp only at hSw); go_simp <;> with_reducible rfl)
        simp only [Act.put, List.setIfInBounds_toArray, List.set_cons_zero, List.set_cons_succ]
        refine take_at (i := 12) (v := ?_) (some 23) rfl (by kernel_rfl) (by kernel_rfl) (by kernel_rfl) (fun _ _ _ h => h) (by kernel_rfl) (Or.inl ⟨by kernel_rfl, ?_⟩) (by assumption) ?_
        rotate_left
        · (intro w hSw; (try dsimp only at hSw); go_simp <;> with_reducible rfl)
        simp only [Act.put, List.setIfInBounds_toArray, List.set_cons_zero, List.set_cons_succ]
        refine take_at (i := 13) (v := ?_) (some 24) rfl (by kernel_rfl) (by kernel_rfl) (by kernel_rfl) (fun _ _ _ h => h) (by kernel_rfl) (Or.inl ⟨by kernel_rfl, ?_⟩) (by assumption) ?_
        rotate_left
        · (intro w hSw; (try dsimp only at hSw); go_simp <;> with_reducible rfl)
        simp only [Act.put, List.setIfInBounds_toArray, List.set_cons_zero, List.set_cons_succ]
        refine wpAnyH_ready (rs := [11]) (by kernel_rfl) (by simp) ?_
        refine AllReadyH.cons rfl (fun K hK => ?_) AllReadyH.nil
        go_simp
        (with_reducible refine (HN1.out (by trivial) w2 (HB0.out.trans (B2.mono HB0.out.size))).mono ?_); rintro e w3 ⟨rfl, b3⟩
        go_wp2_with fail
        have B3 : Below wa.heap.size wa w3 := B2.trans (b3.mono B2.size)
        clear b3
        clear hHeld
        refine hK.out _ _ (KS.out _ B3) (fun hHeld => ?_)
        clear hK K
        try simp only [Act.put, List.setIfInBounds_toArray, List.set_cons_zero, List.set_cons_succ]
        refine wpAnyH_ready (rs := [14]) (by kernel_rfl) (by simp) ?_
        refine AllReadyH.cons rfl (fun K hK => ?_) AllReadyH.nil
        go_simp
        (with_reducible refine (HN2.out (by trivial) w3 (HB0.out.trans (B3.mono HB0.out.size))).mono ?_); rintro e w4 ⟨rfl, b4⟩
        go_wp2_with fail
        have B4 : Below wa.heap.size wa w4 := B3.trans (b4.mono B3.size)
        clear b4
        clear hHeld
        refine hK.out _ _ (KS.out _ B4) (fun hHeld => ?_)
        clear hK K
        try simp only [Act.put, List.setIfInBounds_toArray, List.set_cons_zero, List.set_cons_succ]
        refine take_at (i := 15) (v := ?_) (some 26) rfl (by kernel_rfl) (by kernel_rfl) (by kernel_rfl) (fun _ _ _ h => h) (by kernel_rfl) (Or.inl ⟨by kernel_rfl, ?_⟩) (by assumption) ?_
        rotate_left
        · (intro w hSw; (try dsimp only at hSw); go_simp <;> with_reducible rfl)
        simp only [Act.put, List.setIfInBounds_toArray, List.set_cons_zero, List.set_cons_succ]
        refine take_at (i := 16) (v := ?_) (some 27) rfl (by kernel_rfl) (by kernel_rfl) (by kernel_rfl) (fun _ _ _ h => h) (by kernel_rfl) (Or.inl ⟨by kernel_rfl, ?_⟩) (by assumption) ?_
        rotate_left
        · (intro w hSw; (try dsimp only at hSw); go_simp <;> with_reducible rfl)
        simp only [Act.put, List.setIfInBounds_toArray, List.set_cons_zero, List.set_cons_succ]
        refine wpAnyH_done (by kernel_rfl) ?_ _
        go_wp2_with fail
        go_meet
        exact ⟨by first | rfl | (rw [hneq]) | (rw [← hneq]), Lib.hid B4⟩
  case rest =>
    obtain ⟨rfl, hB1⟩ := hcut
    have HB1 := Lib.hid (HB0.out.trans (hB1.out.mono HB0.out.size))
    have HR2 : Hid (ro = (rb && ab && decide (n1 = n2))) := HRS
    clear HRS
    generalize hrr : (rb && ab && decide (n1 = n2)) = rr at *
    cases rr with
    | false =>
      clear KX KS HQ HA HN1 HN2 HO HG hrr
      go_wp2_with fail
      go_ret2
      exact ⟨HB1.out, .inr ⟨HR2.out, rfl⟩⟩
    | true =>
      simp only [Bool.and_eq_true, decide_eq_true_eq] at hrr
      obtain ⟨⟨rfl, rfl⟩, rfl⟩ := hrr
      obtain ⟨x1, y1⟩ := KX.out wc hB1.out
      have hO := HO.out (by trivial) wc HB1.out
      have hw1 : w.heap.size + 1 < wc.heap.size := y1.lt
      have HHB := Lib.hid hB1.out
      clear KS HQ HA HN1 HN2 HO KX hB1
      obtain ⟨p0, p1, p2, p3⟩ := wh4 y1
      go_wp2_with fail
      refine hO.mono ?_
      rintro e w2 ⟨rfl, m2, b2⟩
      have B2 := HB1.out.trans (b2.mono HB1.out.size)
      have x2 := x1.below b2 x1.lt
      clear hO p0 p1 p2 p3 y1 x1
      go_upto_region 6 with fail
      have B3 := B2.alloc B2.size (.cells #[.map (some wc.heap.size)] 129)
      have x3 := x2.alloc (.cells #[.map (some wc.heap.size)] 129)
      have z3 := Whole.new w2 129 #[.map (some wc.heap.size)]
      have M3 := Lib.hid (m2.alloc (.cells #[.map (some wc.heap.size)] 129))
      have hz2 : wc.heap.size ≤ w2.heap.size := b2.size
      generalize w2.alloc (.cells #[.map (some wc.heap.size)] 129) = w3 at *
      generalize w2.heap.size = g2 at *
      clear x2 m2 B2 b2
      have hG := HG.out (by trivial) w3 B3
      obtain ⟨p0, p1, p2, p3⟩ := wh4 x3
      clear HG
      go_wp2_with fail
      refine hG.mono ?_
      rintro e w4 ⟨K1, k1, rfl, hN, b4⟩
      have HB4 := Lib.hid (B3.trans (b4.mono B3.size))
      have z4 := z3.below b4 z3.lt
      have M4 := Lib.hid (M3.out.kept (grown_of_below b4) (by simp))
      have HN4 := Lib.hid hN
      clear hG p0 p1 p2 p3 x3 z3 B3 b4 hN M3
      have hL1 := HLL.out
      have hL4 := Lib.hid (HL4.out (by trivial))
      have HZ4 := Lib.hid z4
      have hg2 : g2 < w4.heap.size := z4.lt
      clear HL4 z4
      go_wp2_with fail
      go_loopw [8, 35] (fun v i wr => ∃ (j : Nat) (Al : Option Addr) (cl : Nat), j ≤ ql.length ∧ i = .int .i64 (j : Int) ∧ v = .slice Al j cl ∧ Hid (wr.ownsRow w4.heap.size 3 1 (.slice Al j cl) j ((OL.take j).map iv18)) ∧ Below w4.heap.size w4 wr) (fun _ i _ => ql.length - (intOf i).toNat)
      case atStart => exact ⟨0, none, 0, Nat.zero_le _, rfl, rfl, World.ownsRow_nil _ _ _ _, Below.refl _ _⟩
      case round =>
        obtain ⟨j, A2, c2, hj, rfl, rfl, hown, hbel⟩ := hrel
        have hsz := hbel.size
        by_cases hlt : j < ql.length
        · obtain ⟨ad, An, cn, Kn, kn, n, rfl, hadb, hn, d0, d1, d2, hNd⟩ := (HN4.out.on hbel).at_ hlt
          have hi1 : (j : Int) < (ql.length : Int) := by omega
          have HOE : Hid (OL.take (j + 1) = OL.take j ++ [outc ks' (numD n.v)]) := Lib.hid (take_some (by rw [HOL.out, List.getElem?_map, hn.out]; rfl))
          have hb5 : Below wr.heap.size wr (wr.alloc (.cells #[hv n.t, .slice An n.v.length cn, .slice Kn n.ks.length kn] 51)) := (Below.refl _ wr).alloc (Nat.le_refl _) _
          have HC : Hid (Calls Tryz.prog 81 #[.agg #[hv n.t, .slice An n.v.length cn, .slice Kn n.ks.length kn], .pointer (some ⟨g2, 0, none⟩)] (wr.alloc (.cells #[hv n.t, .slice An n.v.length cn, .slice Kn n.ks.length kn] 51)) fun e w' => e = .returned (.int .i64 ((outc ks' (numD n.v) : Nat) : Int)) ∧ Below (wr.alloc (.cells #[hv n.t, .slice An n.v.length cn, .slice Kn n.ks.length kn] 51)).heap.size (wr.alloc (.cells #[hv n.t, .slice An n.v.length cn, .slice Kn n.ks.length kn] 51)) w') := Lib.hid (by
            have hl4 := hL4.out n (List.mem_of_getElem? hn.out)
            have hb6 : Below w4.heap.size w4 (wr.alloc (.cells #[hv n.t, .slice An n.v.length cn, .slice Kn n.ks.length kn] 51)) := hbel.alloc hsz _
            exact res1_any ks' n hl4 An cn Kn kn g2 wc.heap.size ks'.length _ (hNd.data.below hb5 |>.more hb5.size) (by have := hNd.dc; omega) (HZ4.out.below hb6 HZ4.out.lt) (M4.out.kept (grown_of_below hb6) (by simp)))
          have HO5 := Lib.hid (hown.out.alloc (.cells #[hv n.t, .slice An n.v.length cn, .slice Kn n.ks.length kn] 51))
          have hB5 : Below w4.heap.size w4 (wr.alloc (.cells #[hv n.t, .slice An n.v.length cn, .slice Kn n.ks.length kn] 51)) := hbel.alloc hsz _
          have hx5 := Whole.new wr 51 #[hv n.t, .slice An n.v.length cn, .slice Kn n.ks.length kn]
          generalize outc ks' (numD n.v) = oc at *
          clear hown hNd hn
          go_upto_region 9 with fail
          generalize wr.alloc (.cells #[hv n.t, .slice An n.v.length cn, .slice Kn n.ks.length kn] 51) = w5 at *
          generalize wr.heap.size = g5 at *
          obtain ⟨p0, p1, p2⟩ := wh318 hx5
          have hs5 : w4.heap.size ≤ w5.heap.size := hB5.size
          clear hb5
          go_wp2_with fail
          refine HC.out.mono ?_
          rintro e w6 ⟨rfl, b6⟩
          have B6 := hB5.trans (b6.mono hs5)
          have O6 := Lib.hid (own_below' HO5.out b6)
          have hs6 := B6.size
          have L6 := Lib.hid (Lies.new1 w6 (iv18 oc) 3)
          have O7 := Lib.hid (O6.out.alloc (.cells #[iv18 oc] 3))
          clear HC p0 p1 p2 hx5 HO5 b6
          go_wp2_with (at_builtin; refine wpList_append_lies _ rfl (.tmp 39) (.tmp 43) 75 rfl w4.heap.size 3 _ 8 Tryz.underlying75 intinfo18 rfl _ _ _ rfl O7.out _ _ 1 1 [iv18 oc] rfl rfl L6.out (by intro u hu; rw [List.mem_singleton.1 hu]; rfl) (by omega) (by unfold maxLen; omega) (by simp; omega) ?_; intro A7 c7 w7 hown7 hgrow7 _)
          have H7 : Hid (w7.ownsRow w4.heap.size 3 1 (.slice A7 (j + 1) c7) (j + 1) ((OL.take (j + 1)).map iv18)) := by
            unfold Hid
            rw [HOE.out, List.map_append]
            exact hown7
          have hb7 : Below w4.heap.size w4 w7 := (B6.alloc hs6 _).grown hgrow7 (by simp; omega) (fun q e => (O6.out.lt q e).1)
          clear hown7 hgrow7
          go_wp2_with fail
          go_roundw
          case rel => exact ⟨j + 1, A7, c7, by omega, by go_num, rfl, H7, hb7⟩
          case measure => simp [intOf]; omega
        · obtain rfl : j = ql.length := by omega
          have hi1 : ¬ (ql.length : Int) < (ql.length : Int) := by omega
          have HE : Hid (wr.ownsRow w.heap.size 3 1 (.slice A2 ql.length c2) ql.length (OL.map iv18)) := by
            have h1 := hown.out
            rw [List.take_of_length_le (by rw [HOL.out, List.length_map]; exact Nat.le_refl _)] at h1
            exact own_base h1 HB4.out.size
          clear hown
          go_wp2_with fail
          go_ret2
          exact ⟨HB4.out.trans (hbel.mono HB4.out.size), .inl ⟨HR2.out, A2, c2, rfl, HE.out⟩⟩
end Go.Proofs.YteknmgmdmjmnmaaGreatDoor


