/- Layer 14: slices.Chunk of numbers for whatever loop; Of. It writes nothing that was there. -/
import Derived.Test.YtabljmiiekpgiaaGreatDoorQSKO
import Derived.Test.YtabljmiiekpgiaaGreatDoorQSKH
import Derived.Test.YtabljmiiekpgiaaGreatDoorQSackN
import Derived.Test.YtabljmiiekpgiaaGreatDoorQEL
import Derived.Test.YtabljmiiekpgiaaGreatDoorQNF
import Derived.Test.YtabljmiiekpgiaaGreatDoorQDataM
import Derived.Test.YtabljmiiekpgiaaGreatDoorQDataO
import Derived.Test.YtabljmiiekpgiaaGreatDoorQDataY
import Derived.Test.YtabljmiiekpgiaaGreatDoorQCL
import Derived.BigGuard
import Derived.Deep.RegionHeld3
import Derived.Sort.CutIn














namespace Go.Proofs.YtabljmiiekpgiaaGreatDoor
open Go.RowKit Go.Shelf

attribute [local go_sem] Oper.semAt_some
set_option linter.unusedSimpArgs false
/-- two blocks stay as they are -/
structure KpC (Bs Bn : Nat) (A B : World) : Prop where
  low : Below 0 A B
  s : B.heap[Bs]? = A.heap[Bs]?
  n : B.heap[Bn]? = A.heap[Bn]?
theorem KpC.trans {Bs Bn : Nat} {A B C : World} (h : KpC Bs Bn A B) (k : KpC Bs Bn B C) : KpC Bs Bn A C := ⟨h.low.trans k.low, k.s.trans h.s, k.n.trans h.n⟩
theorem KpC.put {Bs Bn : Nat} (W : World) (l : Nat) (o' : Obj) (h1 : Bs ≠ l) (h2 : Bn ≠ l) : KpC Bs Bn W (W.putObj l o') :=
  ⟨(Below.refl 0 W).grown (grownBy_putObj' W l o') (Nat.zero_le _) (fun _ _ => Nat.zero_le _), World.putObj_heap_other h1, World.putObj_heap_other h2⟩
theorem KpC.kpg {Bs Bn : Nat} {A B : World} (h : KpC Bs Bn A B) : KpG (fun _ i => i ≠ Bs ∧ i ≠ Bn) 0 A B :=
  ⟨h.low, fun i cs t z hn hi => by
    by_cases h1 : i = Bs
    · subst h1; exact h.s.trans hi
    · by_cases h2 : i = Bn
      · subst h2; exact h.n.trans hi
      · exact absurd ⟨h1, h2⟩ hn, fun _ _ h => h⟩
theorem chunk32_comes (Bs Bn : Nat) (A : Option Addr) (m c k : Nat) (hk : 1 ≤ k) (hk2 : k ≤ 9223372036854775807) (hc : m ≤ c) (hm : c ≤ maxLen) (hs : m ≤ 10000000) (hA : 0 < m → ∃ ad, A = some ad)
    (w : World) (hBs : Whole w Bs 24 #[.slice A m c]) (hBn : Whole w Bn 3 #[.int .i64 (k : Int)]) :
    ComesL Fence.wide 5 Tryz.prog 93 #[.pointer (some ⟨Bs, 0, none⟩), .pointer (some ⟨Bn, 0, none⟩)] (encCh A k m) (KpC Bs Bn) (fun _ _ => False) (fun pre _ x => RowCh k m pre x) (FinCh k m) (fun p => RowCh k m p.1 p.2) (m + 1) w := by
  intro l J Jx W hW hJ hJx _ hY h0
  exact chunk1_32_in 5 (by omega) l Bs Bn 0 0 A m c k hk hk2 hc hm hs hA (fun _ i => i ≠ Bs ∧ i ≠ Bn) (fun A B row _ _ _ i h => h) J Jx (fun s A B h hg => hJ s A B none h hg (fun r e => by cases e))
    (fun pre x W1 h1 h2 h3 => by
      obtain ⟨fn, tmps, assign, body, hy, hR⟩ := hY pre x W1 h1 h2 h3
      exact ⟨fn, tmps, assign, body, hy, hR.mono fun e w' h => h.1.imp (fun ⟨a, b, c⟩ => ⟨a, b, c.kpg⟩) id⟩) W (Nat.zero_le _) (hBs.below hW hBs.lt) (fun h => h.1 rfl) (hBn.below hW hBn.lt) (fun h => h.2 rfl) h0
theorem num_len (k : Nat) (hk : widthB k = true) (A : Option Addr) (c : Nat) (b : List UInt8) (m q : Nat) (hm : b.length = m) (hq : m = q * k) (hs : m ≤ 35184372088832) (hc : m ≤ c) (w : World) (h : Lies w w.heap.size A (b.map bv)) :
    Calls Tryz.prog 48 #[.int .i64 (k : Int), .slice A m c] w fun e w' => ∃ A' c', e = .returned (.slice A' q c') ∧ w'.ownsRow w.heap.size 22 1 (.slice A' q c') q ((nums k b).map uv) ∧ Below w.heap.size w w' := by
  subst hm
  have hk0 : 0 < k := by
    rcases Nat.eq_zero_or_pos k with rfl | h
    · simp [widthB] at hk
    · exact h
  have h1 := numbersF_any k hk A c b w h (by rw [hq]; exact Nat.mul_mod_left _ _) hs hc
  have e : b.length / k = q := by rw [hq]; exact Nat.mul_div_cancel _ hk0
  rw [e] at h1
  exact h1
theorem nums4_8 {d : List UInt8} (h : 8 ≤ d.length) : nums 4 (d.take 8) = [nrd d 0 4, nrd d 4 4] := by
  unfold nums
  rw [show (d.take 8).length / 4 = 2 by rw [List.length_take]; omega]
  have e0 : numAt 4 (d.take 8) 0 = nrd d 0 4 := by unfold numAt nrd; rw [Nat.zero_mul, List.drop_zero, List.take_take, List.drop_zero]; rfl
  have e1 : numAt 4 (d.take 8) 1 = nrd d 4 4 := by unfold numAt nrd; rw [List.drop_take, List.take_take]; rfl
  simp [List.range_succ, e0, e1]
/-- what Of hands back -/
def ofS (x : Ck) : Sk := if isS x = true then skOf x else ⟨0, 0, [], []⟩
def OfS (x : Ck) (w : World) (e : Ending) (w' : World) : Prop := Below w.heap.size w w' ∧ ∃ G gc D dc, e = .returned (.tuple #[skV (ofS x) G gc D dc, .bool (isS x)]) ∧ SkL w' w'.heap.size G gc D dc (ofS x)
theorem ofS_no {x : Ck} {w w' : World} (h : isS x = false) (hb : Below w.heap.size w w') : OfS x w (.returned (.tuple #[.agg #[.int .u32 0, .int .u32 0, .slice none 0 0, .slice none 0 0], .bool false])) w' := by
  unfold OfS ofS
  rw [h]
  exact ⟨hb, none, 0, none, 0, rfl, ⟨Lies.nil, Nat.le_refl _, Nat.zero_le _⟩, Lies.nil, Nat.le_refl _, Nat.zero_le _⟩
theorem isS_no {x : Ck} (h : x.t ≠ 3 ∨ chkC x ≠ 0) : isS x = false := by
  unfold isS
  rcases h with h | h
  · rw [decide_eq_false h]; rfl
  · rw [decide_eq_false h, Bool.and_false]
set_option maxRecDepth 100000 in
set_option maxHeartbeats 4000000 in
theorem sof_no (x : Ck) (hx : isS x = false) (hf : CkFine x) (A : Option Addr) (c : Nat) (K : Option Addr) (k : Nat) (w : World) (h : Chunk w w.heap.size A c K k x) (hh : Handle w) :
    Calls Tryz.prog 17 #[ckV x A c K k] w (OfS x w) := by
  have b0 : Below w.heap.size w ((w.alloc (.cells (ckCells x A c K k) 33)).alloc (.cells #[.int .u32 0, .int .u32 0, .slice none 0 0, .slice none 0 0] 38)) := ((Below.refl _ w).alloc (Nat.le_refl _) _).alloc (by simp) _
  have x0 := (CkBox.new w x A c K k).below (((Below.refl _ _).alloc (Nat.le_refl _) (.cells #[.int .u32 0, .int .u32 0, .slice none 0 0, .slice none 0 0] 38)))
  have y0 := Whole.new (w.alloc (.cells (ckCells x A c K k) 33)) 38 #[.int .u32 0, .int .u32 0, .slice none 0 0, .slice none 0 0]
  rw [World.size_alloc] at y0
  have HC := ccheck_any x hf A c K k _ (h.on b0) (hh.below b0 hh.lt)
  have hz : w.heap.size + 1 < ((w.alloc (.cells (ckCells x A c K k) 33)).alloc (.cells #[.int .u32 0, .int .u32 0, .slice none 0 0, .slice none 0 0] 38)).heap.size := by simp
  have HN := Lib.hid (fun (V : World) (hV : Below w.heap.size w V) => ofS_no (x := x) hx hV)
  have HE : Hid ((x.t = 3 ∧ chkC x ≠ 0) ∨ x.t ≠ 3) := by
    unfold Hid
    by_cases h1 : x.t = 3
    · refine .inl ⟨h1, fun h2 => ?_⟩
      unfold isS at hx
      rw [decide_eq_true h1, decide_eq_true h2] at hx
      exact absurd hx (by simp)
    · exact .inr h1
  have HCC := Lib.hid (fun hc : chkC x ≠ 0 => codeE_ne hc)
  obtain ⟨q0, q1, q2, q3⟩ := x0.cs
  have HB := Lib.hid b0
  clear h hf b0 hh hx x0
  generalize hR : OfS x w = R at *
  clear hR
  generalize chkC x = cc at *
  obtain ⟨t, fl, d, ks⟩ := x
  simp only [ckV, ckCells] at *
  generalize hwa : (w.alloc (.cells #[bv t, bv fl, .slice A d.length c, .slice K ks.length k] 33)).alloc (.cells #[.int .u32 0, .int .u32 0, .slice none 0 0, .slice none 0 0] 38) = wa at *
  have HW := Lib.hid hwa
  clear hwa
  rcases HE.out with ⟨rfl, hc⟩ | ht
  · rw [HCC.out hc] at HC
    clear hc HCC HE
    refine (callsIn_wide (n := 6)).1 ?_
    refine callsIn_of_wp_marks Tryz.func17 rfl trivial ?_ rfl
    simp only [Tryz.ntmps17, List.size_toArray, List.length_cons, List.length_nil, Nat.reduceAdd, Nat.reduceSub, Array.replicate_succ, Array.replicate_zero, List.push_toArray, List.append_toArray, List.nil_append, List.cons_append]
    gi_upto_region 1 with fail
    rw [HW.out]
    clear HW
    gi_wp2_with fail
    refine ⟨trivial, (callsIn_wide.2 HC).mono ?_⟩
    rintro e w2 ⟨rfl, b2⟩
    have B2 := Lib.hid (HB.out.trans (b2.mono (by omega)))
    have y2 := y0.below b2 hz
    have f0 := y2.frozen 0
    have f1 := y2.frozen 1
    have f2 := y2.frozen 2
    have f3 := y2.frozen 3
    obtain ⟨e0, e1, e2, e3⟩ := wh4 y2
    clear q0 q1 q2 q3 b2
    gi_wp2_with fail
    refine ⟨_, results_row_tmp rfl _ _ (w.heap.size + 1) 38 _ _ rfl ((((y2.set_ 0 _).set_ 1 _).set_ 2 _).set_ 3 _) Tryz.underlying38 rfl (by kernel_rfl), ?_⟩
    exact HN.out _ ((((B2.out.setCell (Nat.le_succ _) _).setCell (Nat.le_succ _) _).setCell (Nat.le_succ _) _).setCell (Nat.le_succ _) _)
  · have e1 : ((t.toNat : Int) != 3) = true := by rw [bne_iff_ne]; intro e; exact ht (UInt8.toNat_inj.1 (by have : (3 : UInt8).toNat = 3 := rfl; omega))
    clear ht HC HE HCC
    refine (callsIn_wide (n := 6)).1 ?_
    refine callsIn_of_wp_marks Tryz.func17 rfl trivial ?_ rfl
    simp only [Tryz.ntmps17, List.size_toArray, List.length_cons, List.length_nil, Nat.reduceAdd, Nat.reduceSub, Array.replicate_succ, Array.replicate_zero, List.push_toArray, List.append_toArray, List.nil_append, List.cons_append]
    gi_upto_region 1 with fail
    rw [HW.out]
    clear HW
    have f0 := y0.frozen 0
    have f1 := y0.frozen 1
    have f2 := y0.frozen 2
    have f3 := y0.frozen 3
    obtain ⟨c0, c1, c2, c3⟩ := wh4 y0
    gi_wp2_with fail
    refine ⟨trivial, ?_⟩
    gi_wp2_with fail
    refine ⟨_, results_row_tmp rfl _ _ (w.heap.size + 1) 38 _ _ rfl ((((y0.set_ 0 _).set_ 1 _).set_ 2 _).set_ 3 _) Tryz.underlying38 rfl (by kernel_rfl), ?_⟩
    exact HN.out _ ((((HB.out.setCell (Nat.le_succ _) _).setCell (Nat.le_succ _) _).setCell (Nat.le_succ _) _).setCell (Nat.le_succ _) _)
theorem own_obj {X Y : World} {row : Option Nat} {b e s n : Nat} {v : Value} {xs : List Value} (h : X.ownsRow b e s v n xs) (hg : X.grownBy Y row) (hr : ∀ r, row = some r → ∃ o : Obj, X.heap[r]? = some o ∧ o.isCells = false) : Y.ownsRow b e s v n xs := by
  refine h.kept hg ?_
  rcases h.2 with ⟨rfl, _⟩ | ⟨g, cap, cur, rfl, _, hh, _⟩
  · exact .inl rfl
  · refine .inr (fun e => ?_)
    obtain ⟨o, ho, hoc⟩ := hr g e.symm
    rw [hh] at ho
    cases ho
    cases hoc
theorem wp_append_wide14 {P : Program} {w : World} {o : Oper} {a : Act} {K : Act → World → Prop} {Q : Exit → Act → World → Prop} (s x : Operand) (t : TypeId)
    (ho : o.op = .call { callee := .builtin .append, args := #[s, x], argTypes := #[t, t] })
    (base : Nat) (e : TypeId) (z : Value) (size bytes : Nat) (ht : P.underlying t = some (.slice e)) (hi : (P.info? e).map (fun i => (i.zero, i.size, i.bytes)) = some (some z, size, bytes))
    (hzs : z.cells.size = size) (hsz : 0 < size) (v : Value) (n : Nat) (xs : List Value) (hs : a.eval s = v) (hown : w.ownsRow base e size v n xs)
    (B : Nat) (A : Option Addr) (m c : Nat) (news : List Value) (hx : a.eval x = .slice A m c) (hm : news.length = m * size) (hl : Lies w B A news) (h1 : ∀ u ∈ news, u.oneCell' = true)
    (hbytes : (n + m) * bytes ≤ 140737488355328) (h63 : n + m ≤ maxLen) (hbase : base ≤ w.heap.size)
    (h : ∀ v' w', w'.ownsRow base e size v' (n + m) (xs ++ news) → w.grownBy w' v.ownBlock → K (a.put o.dst v') w') : o.wp P a w K Q := by
  obtain ⟨v', w', hr, h2, h3⟩ := run_append_wide13 (P := P) w base t o.type e z size bytes ht hi hzs hsz v n xs hown B A m c news hm hl h1 hbytes h63 hbase
  unfold Oper.wp execOp
  simp only [ho, resolve, invoke, builtin, Sem.run_bind, Sem.run_pure, Result.andThen_ok, List.map_toArray, List.map_cons, List.map_nil, hs, hx, hr]
  exact h v' w' h2 h3
/-- what the loop of Of holds -/
structure SoI (B g7 gr g8 : Nat) (w0 : World) (a b : UInt32) (gs : List Gp) (A5 : Option Addr) (c5 m : Nat) (Ns : List UInt32) (b5 : Nat) (D : Option Addr) (dc N : Nat) (Ds : List UInt32) (pre : List Nat) (V : World) : Prop where
  box : ∃ Gv gc, Whole V g7 38 #[uv a, uv b, .slice Gv pre.length gc, .slice D N dc] ∧ V.ownsRow B 86 2 (.slice Gv pre.length gc) pre.length (gpFlat (gs.take pre.length))
  nr : V.ownsRow b5 22 1 (.slice A5 m c5) m (Ns.map uv)
  dr : V.ownsRow B 22 1 (.slice D N dc) N (Ds.map uv)
  res : Whole V gr 38 #[.int .u32 0, .int .u32 0, .slice none 0 0, .slice none 0 0]
  low : Below B w0 V
  le : pre.length ≤ gs.length
  bs : Whole V g8 24 #[.slice A5 m c5]
  bn : Whole V (g8 + 1) 3 #[.int .i64 2]
theorem whole_obj {X Y : World} {row : Option Nat} {g t : Nat} {cs : Array Value} (h : Whole X g t cs) (hg : X.grownBy Y row) (hr : ∀ r, row = some r → ∃ o : Obj, X.heap[r]? = some o ∧ o.isCells = false) : Whole Y g t cs :=
  h.grown hg (fun e => by
    obtain ⟨o, ho, hoc⟩ := hr g e.symm
    unfold Whole at h
    rw [h] at ho
    cases ho
    cases hoc)
theorem soI_own {B g7 gr g8 X : Nat} {w0 : World} {a b : UInt32} {gs : List Gp} {A5 : Option Addr} {c5 m : Nat} {Ns : List UInt32} {b5 : Nat} {D : Option Addr} {dc N : Nat} {Ds : List UInt32} (hX : B ≤ X) (hB : B ≤ w0.heap.size) : OwnFrom X (SoI B g7 gr g8 w0 a b gs A5 c5 m Ns b5 D dc N Ds) := by
  rintro pre V V' row ⟨⟨Gv, gc, h1, h2⟩, h3, h4, h5, h6, h7, h8, h9⟩ hg hr
  have hr' := fun r e => (hr r e).2
  exact ⟨⟨Gv, gc, whole_obj h1 hg hr', own_obj h2 hg hr'⟩, own_obj h3 hg hr', own_obj h4 hg hr', whole_obj h5 hg hr', h6.grown hg (Nat.le_trans hB h6.size) (fun r e => Nat.le_trans hX (hr r e).1), h7, whole_obj h8 hg hr', whole_obj h9 hg hr'⟩
theorem prG_at : ∀ (k : Nat) (l : List UInt32) (a b : UInt32), l[2 * k]? = some a → l[2 * k + 1]? = some b → (prG l)[k]? = some ⟨UInt16.ofNat a.toNat, UInt16.ofNat b.toNat⟩
  | 0, [], a, b, h, _ => by simp at h
  | 0, [x], a, b, _, h => by simp at h
  | 0, x :: y :: r, a, b, h0, h1 => by
    simp only [Nat.mul_zero, List.getElem?_cons_zero, Option.some.injEq] at h0
    simp only [Nat.mul_zero, Nat.zero_add, List.getElem?_cons_succ, List.getElem?_cons_zero, Option.some.injEq] at h1
    subst h0 h1
    rfl
  | k + 1, [], a, b, h, _ => by simp at h
  | k + 1, [x], a, b, h, _ => by simp [Nat.mul_add] at h
  | k + 1, x :: y :: r, a, b, h0, h1 => by
    have ih := prG_at k r a b (by simpa [Nat.mul_add] using h0) (by simpa [Nat.mul_add] using h1)
    simpa [prG] using ih
theorem own_get14 {w : World} {base n c g j : Nat} {A : Option Addr} {t : TypeId} {xs : List Value} (h : w.ownsRow base t 1 (.slice A n c) n xs) (hA : A = some ⟨g, 0, none⟩) {u : Value} (hc : w.cell? ⟨g, j, none⟩ = some u) (hj : j < n) : xs[j]? = some u := by
  have hl : j < xs.length := by rw [h.1]; omega
  have hx : xs[j]? = some xs[j] := List.getElem?_eq_getElem hl
  obtain ⟨g', x, e, hx', hc', _⟩ := own_at h hj
  rw [hA] at e
  simp only [Option.some.injEq, Addr.mk.injEq] at e
  obtain ⟨rfl, _, _⟩ := e
  rw [hc] at hc'
  cases hc'
  exact hx'.out
theorem own_cell14 {w : World} {base n c g j : Nat} {A : Option Addr} {t : TypeId} {xs : List Value} (h : w.ownsRow base t 1 (.slice A n c) n xs) (hA : A = some ⟨g, 0, none⟩) {u : Value} (hx : xs[j]? = some u) : w.cell? ⟨g, j, none⟩ = some u := by
  have hl := (List.getElem?_eq_some_iff.1 hx).1
  rw [h.1] at hl
  obtain ⟨g', x, e, hx', hc', _⟩ := own_at h (k := j) (by omega)
  rw [hA] at e
  simp only [Option.some.injEq, Addr.mk.injEq] at e
  obtain ⟨rfl, _, _⟩ := e
  rw [hx'.out] at hx
  cases hx
  exact hc'
theorem so_next {B g7 gr g8 X : Nat} {w0 : World} {a b : UInt32} {gs : List Gp} {A5 : Option Addr} {c5 m : Nat} {Ns : List UInt32} {b5 : Nat} {D : Option Addr} {dc N : Nat} {Ds : List UInt32} {pre : List Nat} {V w7 : World} {Gv A7 : Option Addr} {gc c7 : Nat} {news : List Value} (x : Nat)
    (hi : SoI B g7 gr g8 w0 a b gs A5 c5 m Ns b5 D dc N Ds pre V) (hw : Whole V g7 38 #[uv a, uv b, .slice Gv pre.length gc, .slice D N dc]) (hrow : V.ownsRow B 86 2 (.slice Gv pre.length gc) pre.length (gpFlat (gs.take pre.length)))
    (x7 : Whole w7 g7 38 #[uv a, uv b, .slice Gv pre.length gc, .slice D N dc]) (own7 : w7.ownsRow B 86 2 (.slice A7 (pre.length + 1) c7) (pre.length + 1) (gpFlat (gs.take pre.length) ++ news)) (hT : gpFlat (gs.take (pre.length + 1)) = gpFlat (gs.take pre.length) ++ news)
    (n7 : w7.ownsRow b5 22 1 (.slice A5 m c5) m (Ns.map uv)) (d7 : w7.ownsRow B 22 1 (.slice D N dc) N (Ds.map uv)) (B7 : ∀ k, k < V.heap.size → (Value.slice Gv pre.length gc).ownBlock ≠ some k → w7.heap[k]? = V.heap[k]?) (low7 : Below B V w7)
    (hge : B ≤ g7) (hne : gr ≠ g7) (hlt : g7 < g8) (hple : pre.length + 1 ≤ gs.length) :
    KeepsFrom X V (w7.setCell ⟨g7, 2, none⟩ (.slice A7 (pre.length + 1) c7)) ∧ KpC g8 (g8 + 1) V (w7.setCell ⟨g7, 2, none⟩ (.slice A7 (pre.length + 1) c7)) ∧ SoI B g7 gr g8 w0 a b gs A5 c5 m Ns b5 D dc N Ds (pre ++ [x]) (w7.setCell ⟨g7, 2, none⟩ (.slice A7 (pre.length + 1) c7)) := by
  have hl : (pre ++ [x]).length = pre.length + 1 := by simp
  have hsz : (w7.setCell ⟨g7, 2, none⟩ (.slice A7 (pre.length + 1) c7)).heap.size = w7.heap.size := by simp
  have hs : ∀ k, k < V.heap.size → k ≠ g7 → (Value.slice Gv pre.length gc).ownBlock ≠ some k → (w7.setCell ⟨g7, 2, none⟩ (.slice A7 (pre.length + 1) c7)).heap[k]? = V.heap[k]? := fun k h1 h2 h3 => (Below.heap_setCell w7 ⟨g7, 2, none⟩ _ k h2).trans (B7 k h1 h3)
  have lowF : Below B V (w7.setCell ⟨g7, 2, none⟩ (.slice A7 (pre.length + 1) c7)) := low7.setCell (p := ⟨g7, 2, none⟩) hge _
  have hbs : ∀ {g t : Nat} {cs : Array Value}, Whole V g t cs → t ≠ 86 → g ≠ g7 → Whole (w7.setCell ⟨g7, 2, none⟩ (.slice A7 (pre.length + 1) c7)) g t cs := fun h ht hn => (hs _ h.lt hn (whole_row_ne13 h ht hrow)).trans h
  refine ⟨⟨by rw [hsz]; exact low7.size, fun k o _ hk ho => ?_⟩, ⟨lowF.mono (Nat.zero_le _), hs _ hi.bs.lt (by omega) (whole_row_ne13 hi.bs (by decide) hrow), hs _ hi.bn.lt (by omega) (whole_row_ne13 hi.bn (by decide) hrow)⟩, ⟨?_, own_set13 n7 x7 (by decide), own_set13 d7 x7 (by decide), hbs hi.res (by decide) hne, hi.low.trans lowF, by rw [hl]; exact hple, hbs hi.bs (by decide) (by omega), hbs hi.bn (by decide) (by omega)⟩⟩
  · refine (hs k (Array.getElem?_eq_some_iff.1 hk).1 (fun e => ?_) (own_ne_obj hrow hk ho)).trans hk
    subst e
    unfold Whole at hw
    rw [hw] at hk
    cases hk
    cases ho
  · rw [hl, hT]
    exact ⟨A7, c7, x7.set_ 2 _, own7.kept (grownBy_setCell1 w7 g7 2 _) (.inr (whole_row_ne13 x7 (by decide) own7))⟩
theorem cutI {F : Fence} {n : Nat} {P : Program} {C : Code} {a : Act} {w : World} {Q : Exit → Act → World → Prop} (T : (Exit → Act → World → Prop) → Prop) (hT : T Q) (h : ∀ QQ, T QQ → Code.wpIn F n P C QQ a w) : Code.wpIn F n P C Q a w := h Q hT
theorem own_cells2 {w : World} {base n c : Nat} {A : Option Addr} {t : TypeId} {xs : List Value} (h : w.ownsRow base t 1 (.slice A n c) n xs) (h0 : 0 < n) : ∃ g, A = some ⟨g, 0, none⟩ ∧ g < w.heap.size ∧ base ≤ g ∧ ∀ j x, xs[j]? = some x → w.cell? ⟨g, j, none⟩ = some x := by
  rcases h.2 with ⟨_, q⟩ | ⟨g, cap, cur, q1, q2, q3, _⟩
  · omega
  · simp only [Value.slice.injEq] at q1
    obtain ⟨rfl, _, rfl⟩ := q1
    refine ⟨g, rfl, (Array.getElem?_eq_some_iff.1 q3).1, q2, fun j x hx => ?_⟩
    have := h.cells (g := g) rfl j x hx
    cases j with
    | zero => simpa [Addr.add] using this
    | succ j => simpa [Addr.add] using this
set_option maxRecDepth 100000 in
set_option maxHeartbeats 16000000 in
theorem sof_yes (d : List UInt8) (hx : isS ⟨3, 0, d, []⟩ = true) (A : Option Addr) (c : Nat) (K : Option Addr) (k : Nat) (w : World) (h : Chunk w w.heap.size A c K k ⟨3, 0, d, []⟩) (hh : Handle w) :
    Calls Tryz.prog 17 #[.agg #[.int .u8 3, .int .u8 0, .slice A d.length c, .slice K 0 k]] w (OfS ⟨3, 0, d, []⟩ w) := by
  have hf : CkFine ⟨3, 0, d, []⟩ := ⟨by have := (isS_all hx).2.2.2.1; simp only at this ⊢; omega, by simp, by simp⟩
  have b0 : Below w.heap.size w ((w.alloc (.cells #[.int .u8 3, .int .u8 0, .slice A d.length c, .slice K 0 k] 33)).alloc (.cells #[.int .u32 0, .int .u32 0, .slice none 0 0, .slice none 0 0] 38)) := ((Below.refl _ w).alloc (Nat.le_refl _) _).alloc (by simp) _
  have x0 := (Whole.new w 33 #[.int .u8 3, .int .u8 0, .slice A d.length c, .slice K 0 k]).alloc (.cells #[.int .u32 0, .int .u32 0, .slice none 0 0, .slice none 0 0] 38)
  have y0 := Whole.new (w.alloc (.cells #[.int .u8 3, .int .u8 0, .slice A d.length c, .slice K 0 k] 33)) 38 #[.int .u32 0, .int .u32 0, .slice none 0 0, .slice none 0 0]
  rw [World.size_alloc] at y0
  have HC := ccheck_any ⟨3, 0, d, []⟩ hf A c K k _ (h.on b0) (hh.below b0 hh.lt)
  rw [(isS_parts hx).2] at HC
  have e0 : codeE 0 = .nilIface := rfl
  rw [e0] at HC
  obtain ⟨_, _, _, hd1, hd2⟩ := isS_all hx
  simp only at hd1 hd2
  have hOf : ofS ⟨3, 0, d, []⟩ = ⟨nrd d 0 4, nrd d 4 4, prG (nums 2 ((d.drop 12).take (4 * num2 d 8))), nums 4 (d.drop (12 + 4 * num2 d 8))⟩ := by unfold ofS; rw [if_pos hx]; rfl
  have hgl := (skOf_len hx).1
  have hdl := (skOf_len hx).2
  have hLd : Lies _ _ A (d.map bv) := (h.on b0).data
  have hdc : d.length ≤ c := h.dc
  have hdm := h.dm
  obtain ⟨ad, hA, hadb, _⟩ := hLd (fun e => by rw [List.map_eq_nil_iff] at e; rw [e] at hd2; simp at hd2; omega)
  subst hA
  obtain ⟨G, hG⟩ : ∃ G, G = num2 d 8 := ⟨_, rfl⟩
  obtain ⟨N, hN⟩ : ∃ N, N = num2 d 10 := ⟨_, rfl⟩
  have hGlt : G < 65536 := by rw [hG]; exact num2_lt d 8
  rw [← hG, ← hN] at hd2
  have HD2 := Lib.hid hd2
  have hd3 : 12 + 4 * G ≤ d.length := by omega
  have hd4 : 12 ≤ d.length := by omega
  unfold OfS
  rw [hOf, hx]
  have hz : w.heap.size + 1 < ((w.alloc (.cells #[.int .u8 3, .int .u8 0, .slice (some ad) d.length c, .slice K 0 k] 33)).alloc (.cells #[.int .u32 0, .int .u32 0, .slice none 0 0, .slice none 0 0] 38)).heap.size := by simp
  have HB := Lib.hid b0
  have HG := Lib.hid hG
  clear h hf b0 hh hx hOf e0 hd2
  generalize hwa : (w.alloc (.cells #[.int .u8 3, .int .u8 0, .slice (some ad) d.length c, .slice K 0 k] 33)).alloc (.cells #[.int .u32 0, .int .u32 0, .slice none 0 0, .slice none 0 0] 38) = wa at *
  have HW := Lib.hid hwa
  clear hwa hG hN
  obtain ⟨q0, q1, q2, q3⟩ := wh4 x0
  refine (callsIn_wide (n := 6)).1 ?_
  refine callsIn_of_wp_marks Tryz.func17 rfl trivial ?_ rfl
  simp only [Tryz.ntmps17, List.size_toArray, List.length_cons, List.length_nil, Nat.reduceAdd, Nat.reduceSub, Array.replicate_succ, Array.replicate_zero, List.push_toArray, List.append_toArray, List.nil_append, List.cons_append]
  gi_upto_region 1 with fail
  rw [HW.out]
  clear HW
  gi_wp2_with fail
  simp only [ckV] at HC
  refine ⟨trivial, (callsIn_wide.2 HC).mono ?_⟩
  rintro e w2 ⟨rfl, b2⟩
  have x2 := x0.below b2 (by omega)
  have y2 := y0.below b2 hz
  have B2 := HB.out.trans (b2.mono (by omega))
  have L2 : Lies w2 w2.heap.size (some ad) (d.map bv) := (hLd.below b2).more b2.size
  have hz2 : w.heap.size + 1 < w2.heap.size := y2.lt
  clear q0 q1 q2 q3 x0 y0 HC hLd HB b2 hadb
  obtain ⟨q0, q1, q2, q3⟩ := wh4 x2
  gi_upto_region 3 with fail
  have N1 := num_len 4 rfl (some ad) c (d.take 8) 8 2 (by rw [List.length_take]; omega) rfl (by omega) (by omega) w2 (by rw [List.map_take]; exact L2.take 8)
  rw [nums4_8 (by omega)] at N1
  have hc12 : (12 : Int) ≤ (c : Int) := by omega
  gi_wp2_with fail
  refine ⟨trivial, (callsIn_wide.2 N1).mono ?_⟩
  rintro e w3 ⟨A3, c3, rfl, own3, b3⟩
  have x3 := x2.below b3 (by omega)
  have y3 := y2.below b3 hz2
  have B3 := B2.trans (b3.mono (by omega))
  have L3 : Lies w3 w3.heap.size (some ad) (d.map bv) := (L2.below b3).more b3.size
  have hz3 : w.heap.size + 1 < w3.heap.size := y3.lt
  have R3 := Lib.hid own3
  clear q0 q1 q2 q3 x2 y2 L2 B2 b3 N1 own3
  obtain ⟨q0, q1, q2, q3⟩ := wh4 x3
  have N2 := four_any ad d 8 (c - 8) (by omega) (by omega) w3 L3
  rw [← HG.out] at N2
  gi_wp2_with fail
  refine ⟨trivial, (callsIn_wide.2 N2).mono ?_⟩
  rintro e w4 ⟨g4, c4, rfl, r0, _, b4⟩
  have x4 := x3.below b4 (by omega)
  have y4 := y3.below b4 hz3
  have B4 := B3.trans (b4.mono (by omega))
  have L4 : Lies w4 w4.heap.size (some ad) (d.map bv) := (L3.below b4).more b4.size
  have hz4 : w.heap.size + 1 < w4.heap.size := y4.lt
  have hR4 := own_below' R3.out b4
  clear q0 q1 q2 q3 x3 y3 L3 B3 b4 N2 R3
  obtain ⟨q0, q1, q2, q3⟩ := wh4 x4
  gi_upto_region 6 with fail
  obtain ⟨g3, rfl, hg3, _, hc3⟩ := own_cells2 hR4 (by omega)
  have k0 := hc3 0 _ rfl
  have k1 := hc3 1 _ rfl
  have KS : Hid (∀ V, Below w4.heap.size w4 V → V.cell? ⟨g3, 0, none⟩ = some (uv (nrd d 0 4)) ∧ V.cell? ⟨g3, 1, none⟩ = some (uv (nrd d 4 4)) ∧ V.cell? ⟨w.heap.size, 2, none⟩ = some (.slice (some ad) d.length c)) := Lib.hid (fun V hV => ⟨(hV.cell (p := ⟨g3, 0, none⟩) hg3).trans k0, (hV.cell (p := ⟨g3, 1, none⟩) hg3).trans k1, (hV.cell (p := ⟨w.heap.size, 2, none⟩) (by show w.heap.size < _; omega)).trans q2⟩)
  have hLD := L4.drop (k := 12 + 4 * G) (c := c) (by simpa using hdc)
  have h2 : (12 : Int) + 4 * (G : Int) ≤ (d.length : Int) := by omega
  have h4 : (12 : Int) + 4 * (G : Int) ≤ (c : Int) := by omega
  have h5 : (0 : Int) ≤ (12 : Int) + 4 * (G : Int) := by omega
  have hTN : ((12 : Int) + 4 * (G : Int)).toNat = 12 + 4 * G := by omega
  have HTN := Lib.hid hTN
  simp only [Option.map_some] at hLD
  obtain ⟨P, hP⟩ : ∃ P, P = (if c = 12 + 4 * G then some ad else some (ad.add (12 + 4 * G))) := ⟨_, rfl⟩
  rw [← hP] at hLD
  have HP := Lib.hid hP
  have hdN := HD2.out
  have KN : Hid (∀ V, Below w4.heap.size w4 V → Calls Tryz.prog 48 #[.int .i64 4, .slice P (d.length - (12 + 4 * G)) (c - (12 + 4 * G))] V fun e w' => ∃ A' c', e = .returned (.slice A' N c') ∧ w'.ownsRow V.heap.size 22 1 (.slice A' N c') N ((nums 4 (d.drop (12 + 4 * G))).map uv) ∧ Below V.heap.size V w') := Lib.hid (fun V hV =>
    num_len 4 rfl P (c - (12 + 4 * G)) (d.drop (12 + 4 * G)) (d.length - (12 + 4 * G)) N (by rw [List.length_drop]) (by omega) (by omega) (by omega) V (by rw [List.map_drop]; exact (hLD.below hV).more hV.size))
  clear hc3 k0 k1 q0 q1 q3 r0 hdN hP hTN hLD
  refine wpIn_onlyN (wpIn_wide.2 ?_)
  refine cut_post (fun QQ => ∀ (u32 u33 u34 u35 u36 u37 u38 u39 u40 u41 u42 u43 : Value) (g7 : Nat) (D : Option Addr) (dc : Nat) (W0 : World), Whole W0 g7 38 #[uv (nrd d 0 4), uv (nrd d 4 4), .slice none 0 0, .slice D N dc] → W0.ownsRow w4.heap.size 22 1 (.slice D N dc) N ((nums 4 (d.drop (12 + 4 * G))).map uv) → Below w4.heap.size w4 W0 → w4.heap.size ≤ g7 → QQ Exit.normal { tmps := #[.agg #[.int .u8 3, .int .u8 0, .slice (some ad) d.length c, .slice K 0 k], .pointer (some ⟨w.heap.size, 0, none⟩), .pointer (some ⟨w.heap.size + 1, 0, none⟩), .bool false, .slice (some ⟨g3, 0, none⟩) 2 c3, .slice (some ⟨g4, 0, none⟩) 2 c4, .int .i64 (12 + 4 * (G : Int)), .pointer (some ⟨g7, 0, none⟩), undef, .pointer (some ⟨w.heap.size, 0, none⟩), .int .u8 3, .bool false, .bool false, .agg #[.int .u8 3, .int .u8 0, .slice (some ad) d.length c, .slice K 0 k], .nilIface, .bool false, .bool false, undef, .pointer (some ⟨w.heap.size, 2, none⟩), .slice (some ad) d.length c, .slice (some ad) 8 c, .slice (some ⟨g3, 0, none⟩) 2 c3, .pointer (some ⟨w.heap.size, 2, none⟩), .slice (some ad) d.length c, .slice (some ⟨ad.block, ad.off + 8, none⟩) 4 (c - 8), .slice (some ⟨g4, 0, none⟩) 2 c4, .slice (some ⟨g4, 0, none⟩) 2 c4, .pointer (some ⟨g4, 0, none⟩), .int .u32 (G : Int), .int .i64 (G : Int), .int .i64 (4 * (G : Int)), .int .i64 (12 + 4 * (G : Int)), u32, u33, u34, u35, u36, u37, u38, u39, u40, u41, u42, u43, undef, undef, undef, undef, undef, undef, undef, undef, undef, undef, undef, undef, undef, undef, undef, undef, undef, undef, undef, undef, undef, undef], defers := [] } W0) ?_ (fun hT => ?_)
  rotate_left
  · refine wp_region_held_drew (S := (fun V => V.cell? ⟨g3, 0, none⟩ = some (uv (nrd d 0 4)) ∧ V.cell? ⟨g3, 1, none⟩ = some (uv (nrd d 4 4)) ∧ V.cell? ⟨w.heap.size, 2, none⟩ = some (.slice (some ad) d.length c))) (by kernel_rfl) (KS.out _ (below_drew (Below.refl _ _))) (fun hHeld => ?_)
    refine take_at (i := 0) (v := ?_) (some 32) rfl (by kernel_rfl) (by kernel_rfl) (by kernel_rfl) (fun _ _ _ h => h) (by kernel_rfl) (Or.inl ⟨by kernel_rfl, ?_⟩) (by assumption) ?_
    rotate_left
    · (intro w hSw; (try dsimp only at hSw); go_simp <;> with_reducible rfl)
    simp only [Act.put, List.setIfInBounds_toArray, List.set_cons_zero, List.set_cons_succ]
    refine take_at (i := 1) (v := ?_) (some 33) rfl (by kernel_rfl) (by kernel_rfl) (by kernel_rfl) (fun _ _ _ h => h) (by kernel_rfl) (Or.inl ⟨by kernel_rfl, ?_⟩) (by assumption) ?_
    rotate_left
    · (intro w hSw; (try dsimp only at hSw); go_simp <;> with_reducible rfl)
    simp only [Act.put, List.setIfInBounds_toArray, List.set_cons_zero, List.set_cons_succ]
    refine take_at (i := 2) (v := ?_) (some 34) rfl (by kernel_rfl) (by kernel_rfl) (by kernel_rfl) (fun _ _ _ h => h) (by kernel_rfl) (Or.inl ⟨by kernel_rfl, ?_⟩) (by assumption) ?_
    rotate_left
    · (intro w hSw; (try dsimp only at hSw); go_simp <;> with_reducible rfl)
    simp only [Act.put, List.setIfInBounds_toArray, List.set_cons_zero, List.set_cons_succ]
    refine take_at (i := 3) (v := ?_) (some 35) rfl (by kernel_rfl) (by kernel_rfl) (by kernel_rfl) (fun _ _ _ h => h) (by kernel_rfl) (Or.inl ⟨by kernel_rfl, ?_⟩) (by assumption) ?_
    rotate_left
    · (intro w hSw; (try dsimp only at hSw); go_simp <;> with_reducible rfl)
    simp only [Act.put, List.setIfInBounds_toArray, List.set_cons_zero, List.set_cons_succ]
    refine take_at (i := 4) (v := ?_) (some 36) rfl (by kernel_rfl) (by kernel_rfl) (by kernel_rfl) (fun _ _ _ h => h) (by kernel_rfl) (Or.inl ⟨by kernel_rfl, ?_⟩) (by assumption) ?_
    rotate_left
    · (intro w hSw; (try dsimp only at hSw); go_simp <;> with_reducible rfl)
    simp only [Act.put, List.setIfInBounds_toArray, List.set_cons_zero, List.set_cons_succ]
    refine take_at (i := 5) (v := ?_) (some 37) rfl (by kernel_rfl) (by kernel_rfl) (by kernel_rfl) (fun _ _ _ h => h) (by kernel_rfl) (Or.inl ⟨by kernel_rfl, ?_⟩) (by assumption) ?_
    rotate_left
    · (intro w hSw; (try dsimp only at hSw); go_simp <;> with_reducible rfl)
    simp only [Act.put, List.setIfInBounds_toArray, List.set_cons_zero, List.set_cons_succ]
    refine take_at (i := 6) (v := ?_) (some 38) rfl (by kernel_rfl) (by kernel_rfl) (by kernel_rfl) (fun _ _ _ h => h) (by kernel_rfl) (Or.inl ⟨by kernel_rfl, ?_⟩) (by assumption) ?_
    rotate_left
    · (intro w hSw; (try dsimp only at hSw); go_simp <;> with_reducible rfl)
    simp only [Act.put, List.setIfInBounds_toArray, List.set_cons_zero, List.set_cons_succ]
    refine take_at (i := 7) (v := ?_) (some 39) rfl (by kernel_rfl) (by kernel_rfl) (by kernel_rfl) (fun _ _ _ h => h) (by kernel_rfl) (Or.inl ⟨by kernel_rfl, ?_⟩) (by assumption) ?_
    rotate_left
    · (intro w hSw; (try dsimp only at hSw); go_simp <;> with_reducible rfl)
    simp only [Act.put, List.setIfInBounds_toArray, List.set_cons_zero, List.set_cons_succ]
    refine take_at (i := 8) (v := ?_) (some 40) rfl (by kernel_rfl) (by kernel_rfl) (by kernel_rfl) (fun _ _ _ h => h) (by kernel_rfl) (Or.inl ⟨by kernel_rfl, ?_⟩) (by assumption) ?_
    rotate_left
    · (intro w hSw; (try dsimp only at hSw); go_simp <;> with_reducible rfl)
    simp only [Act.put, List.setIfInBounds_toArray, List.set_cons_zero, List.set_cons_succ]
    refine take_at (i := 9) (v := ?_) (some 41) rfl (by kernel_rfl) (by kernel_rfl) (by kernel_rfl) (fun _ _ _ h => h) (by kernel_rfl) (Or.inl ⟨by kernel_rfl, ?_⟩) (by assumption) ?_
    rotate_left
    · (intro w hSw; (try dsimp only at hSw); go_simp <;> with_reducible rfl)
    simp only [Act.put, List.setIfInBounds_toArray, List.set_cons_zero, List.set_cons_succ]
    refine wpAnyH_ready (rs := [10, 12]) (by kernel_rfl) (by simp) ?_
    refine AllReadyH.cons rfl (fun K hK => ?_) (AllReadyH.cons rfl (fun K hK => ?_) AllReadyH.nil)
    · go_simp
      rw [HTN.out, ← HP.out]
      (with_reducible refine (KN.out w4.drew (below_drew (Below.refl w4.heap.size w4))).mono ?_); rintro e w5 ⟨D, dc, rfl, own5, b5⟩
      go_wp2_with fail
      have R5 : Below w4.heap.size w4 w5 := (below_drew (Below.refl w4.heap.size w4)).trans (b5.mono (below_drew (Below.refl w4.heap.size w4)).size)
      have O5 := own_base own5 (below_drew (Below.refl w4.heap.size w4)).size
      clear hHeld
      refine hK.out _ _ (KS.out _ R5) (fun hHeld => ?_)
      clear hK K
      try simp only [Act.put, List.setIfInBounds_toArray, List.set_cons_zero, List.set_cons_succ]
      refine take_at (i := 11) (v := ?_) (some 43) rfl (by kernel_rfl) (by kernel_rfl) (by kernel_rfl) (fun _ _ _ h => h) (by kernel_rfl) (Or.inl ⟨by kernel_rfl, ?_⟩) (by assumption) ?_
      rotate_left
      · (intro w hSw; (try dsimp only at hSw); go_simp <;> with_reducible rfl)
      simp only [Act.put, List.setIfInBounds_toArray, List.set_cons_zero, List.set_cons_succ]
      refine wpAnyH_ready (rs := [12]) (by kernel_rfl) (by simp) ?_
      refine AllReadyH.cons rfl (fun K hK => ?_) AllReadyH.nil
      go_simp
      have y6 : Whole (w5.alloc (.cells #[.int .u32 0, .int .u32 0, .slice none 0 0, .slice none 0 0] 38)) w5.heap.size 38 #[.int .u32 0, .int .u32 0, .slice none 0 0, .slice none 0 0] := Whole.new w5 38 #[.int .u32 0, .int .u32 0, .slice none 0 0, .slice none 0 0]
      have R6 : Below w4.heap.size w4 (w5.alloc (.cells #[.int .u32 0, .int .u32 0, .slice none 0 0, .slice none 0 0] 38)) := R5.trans (((Below.refl _ _).alloc (Nat.le_refl _) _).mono R5.size)
      have hgl6 : w5.heap.size < (w5.alloc (.cells #[.int .u32 0, .int .u32 0, .slice none 0 0, .slice none 0 0] 38)).heap.size := y6.lt
      have O6 := O5.alloc (.cells #[.int .u32 0, .int .u32 0, .slice none 0 0, .slice none 0 0] 38)
      generalize (w5.alloc (.cells #[.int .u32 0, .int .u32 0, .slice none 0 0, .slice none 0 0] 38)) = w6 at *
      generalize hg7 : w5.heap.size = g7 at y6 hgl6 ⊢
      have hge6 : w4.heap.size ≤ g7 := by rw [← hg7]; exact R5.size
      clear hg7
      clear hHeld
      refine hK.out _ _ (KS.out _ R6) (fun hHeld => ?_)
      clear hK K
      try simp only [Act.put, List.setIfInBounds_toArray, List.set_cons_zero, List.set_cons_succ]
      refine wpAnyH_ready (rs := [13]) (by kernel_rfl) (by simp) ?_
      refine AllReadyH.cons rfl (fun K hK => ?_) AllReadyH.nil
      have f0 := y6.frozen 0
      have f1 := y6.frozen 1
      have f2 := y6.frozen 2
      have f3 := y6.frozen 3
      obtain ⟨e0, e1, e2, e3⟩ := wh4 y6
      go_simp
      have R8 := (((R6.setCell (p := ⟨g7, 0, none⟩) hge6 (uv (nrd d 0 4))).setCell (p := ⟨g7, 1, none⟩) hge6 (uv (nrd d 4 4))).setCell (p := ⟨g7, 2, none⟩) hge6 (.slice none 0 0)).setCell (p := ⟨g7, 3, none⟩) hge6 (.slice D N dc)
      have y8 := (((y6.set_ 0 (uv (nrd d 0 4))).set_ 1 (uv (nrd d 4 4))).set_ 2 (.slice none 0 0)).set_ 3 (.slice D N dc)
      have O8 := own_set13 (i := 3) (u := (.slice D N dc)) (own_set13 (i := 2) (u := (.slice none 0 0)) (own_set13 (i := 1) (u := (uv (nrd d 4 4))) (own_set13 (i := 0) (u := (uv (nrd d 0 4))) O6 y6 (by decide)) (y6.set_ 0 _) (by decide)) ((y6.set_ 0 _).set_ 1 _) (by decide)) (((y6.set_ 0 _).set_ 1 _).set_ 2 _) (by decide)
      clear hHeld
      refine hK.out _ _ (KS.out _ R8) (fun hHeld => ?_)
      clear hK K
      try simp only [Act.put, List.setIfInBounds_toArray, List.set_cons_zero, List.set_cons_succ]
      refine wpAnyH_done (by kernel_rfl) ?_ _
      exact hT _ _ _ _ _ _ _ _ _ _ _ _ _ _ _ _ y8 O8 R8 hge6
    · go_simp
      have y6 : Whole (w4.alloc (.cells #[.int .u32 0, .int .u32 0, .slice none 0 0, .slice none 0 0] 38)).drew w4.heap.size 38 #[.int .u32 0, .int .u32 0, .slice none 0 0, .slice none 0 0] := Whole.drew (Whole.new w4 38 #[.int .u32 0, .int .u32 0, .slice none 0 0, .slice none 0 0])
      have R6 : Below w4.heap.size w4 (w4.alloc (.cells #[.int .u32 0, .int .u32 0, .slice none 0 0, .slice none 0 0] 38)).drew := below_drew ((Below.refl _ _).alloc (Nat.le_refl _) _)
      have hgl6 : w4.heap.size < (w4.alloc (.cells #[.int .u32 0, .int .u32 0, .slice none 0 0, .slice none 0 0] 38)).drew.heap.size := y6.lt
      generalize (w4.alloc (.cells #[.int .u32 0, .int .u32 0, .slice none 0 0, .slice none 0 0] 38)).drew = w6 at *
      generalize hg7 : w4.heap.size = g7 at y6 hgl6 ⊢
      have hge6 : w4.heap.size ≤ g7 := by rw [← hg7]; exact Nat.le_refl _
      clear hg7
      clear hHeld
      refine hK.out _ _ (KS.out _ R6) (fun hHeld => ?_)
      clear hK K
      try simp only [Act.put, List.setIfInBounds_toArray, List.set_cons_zero, List.set_cons_succ]
      refine wpAnyH_ready (rs := [10]) (by kernel_rfl) (by simp) ?_
      refine AllReadyH.cons rfl (fun K hK => ?_) AllReadyH.nil
      go_simp
      rw [HTN.out, ← HP.out]
      (with_reducible refine (KN.out w6 R6).mono ?_); rintro e w5 ⟨D, dc, rfl, own5, b5⟩
      go_wp2_with fail
      have R5 : Below w4.heap.size w4 w5 := R6.trans (b5.mono R6.size)
      have O5 := own_base own5 R6.size
      have y7 := y6.below b5 hgl6
      have s5 := b5.size
      clear hHeld
      refine hK.out _ _ (KS.out _ R5) (fun hHeld => ?_)
      clear hK K
      try simp only [Act.put, List.setIfInBounds_toArray, List.set_cons_zero, List.set_cons_succ]
      refine take_at (i := 11) (v := ?_) (some 43) rfl (by kernel_rfl) (by kernel_rfl) (by kernel_rfl) (fun _ _ _ h => h) (by kernel_rfl) (Or.inl ⟨by kernel_rfl, ?_⟩) (by assumption) ?_
      rotate_left
      · (intro w hSw; (try dsimp only at hSw); go_simp <;> with_reducible rfl)
      simp only [Act.put, List.setIfInBounds_toArray, List.set_cons_zero, List.set_cons_succ]
      refine wpAnyH_ready (rs := [13]) (by kernel_rfl) (by simp) ?_
      refine AllReadyH.cons rfl (fun K hK => ?_) AllReadyH.nil
      have f0 := y7.frozen 0
      have f1 := y7.frozen 1
      have f2 := y7.frozen 2
      have f3 := y7.frozen 3
      obtain ⟨e0, e1, e2, e3⟩ := wh4 y7
      go_simp
      have R8 := (((R5.setCell (p := ⟨g7, 0, none⟩) hge6 (uv (nrd d 0 4))).setCell (p := ⟨g7, 1, none⟩) hge6 (uv (nrd d 4 4))).setCell (p := ⟨g7, 2, none⟩) hge6 (.slice none 0 0)).setCell (p := ⟨g7, 3, none⟩) hge6 (.slice D N dc)
      have y8 := (((y7.set_ 0 (uv (nrd d 0 4))).set_ 1 (uv (nrd d 4 4))).set_ 2 (.slice none 0 0)).set_ 3 (.slice D N dc)
      have O8 := own_set13 (i := 3) (u := (.slice D N dc)) (own_set13 (i := 2) (u := (.slice none 0 0)) (own_set13 (i := 1) (u := (uv (nrd d 4 4))) (own_set13 (i := 0) (u := (uv (nrd d 0 4))) O5 y7 (by decide)) (y7.set_ 0 _) (by decide)) ((y7.set_ 0 _).set_ 1 _) (by decide)) (((y7.set_ 0 _).set_ 1 _).set_ 2 _) (by decide)
      clear hHeld
      refine hK.out _ _ (KS.out _ R8) (fun hHeld => ?_)
      clear hK K
      try simp only [Act.put, List.setIfInBounds_toArray, List.set_cons_zero, List.set_cons_succ]
      refine wpAnyH_done (by kernel_rfl) ?_ _
      exact hT _ _ _ _ _ _ _ _ _ _ _ _ _ _ _ _ y8 O8 R8 hge6
  intro u32 u33 u34 u35 u36 u37 u38 u39 u40 u41 u42 u43 g7 D dc W0 yW oW RW hge
  simp only [onlyN]
  have q2W : W0.cell? ⟨w.heap.size, 2, none⟩ = some (.slice (some ad) d.length c) := (RW.cell (p := ⟨w.heap.size, 2, none⟩) (by show w.heap.size < _; omega)).trans q2
  have x7 := x4.below RW (by omega)
  have z7 := y4.below RW hz4
  have BW := B4.trans (RW.mono (by omega))
  have L7 : Lies W0 w4.heap.size (some ad) (d.map bv) := L4.below RW
  have hzW : w.heap.size + 1 < W0.heap.size := z7.lt
  have hgW := yW.lt
  have h12G : (12 : Int) ≤ (12 : Int) + 4 * (G : Int) := by omega
  have h12c : (12 : Int) + 4 * (G : Int) ≤ (c : Int) := h4
  have B4k := B4
  clear q2 x4 y4 KS KN HP B4
  gi_upto_region 7 with fail
  refine cutI (fun QQ => ∀ (u47 : Value) (A5 : Option Addr) (c5 : Nat) (w8 : World), w8.ownsRow W0.heap.size 22 1 (.slice A5 (2 * G) c5) (2 * G) ((nums 2 ((d.drop 12).take (4 * G))).map uv) → Below W0.heap.size W0 w8 → QQ Exit.normal { tmps := #[.agg #[.int .u8 3, .int .u8 0, .slice (some ad) d.length c, .slice K 0 k], .pointer (some ⟨w.heap.size, 0, none⟩), .pointer (some ⟨w.heap.size + 1, 0, none⟩), .bool false, .slice (some ⟨g3, 0, none⟩) 2 c3, .slice (some ⟨g4, 0, none⟩) 2 c4, .int .i64 (12 + 4 * (G : Int)), .pointer (some ⟨g7, 0, none⟩), undef, .pointer (some ⟨w.heap.size, 0, none⟩), .int .u8 3, .bool false, .bool false, .agg #[.int .u8 3, .int .u8 0, .slice (some ad) d.length c, .slice K 0 k], .nilIface, .bool false, .bool false, undef, .pointer (some ⟨w.heap.size, 2, none⟩), .slice (some ad) d.length c, .slice (some ad) 8 c, .slice (some ⟨g3, 0, none⟩) 2 c3, .pointer (some ⟨w.heap.size, 2, none⟩), .slice (some ad) d.length c, .slice (some ⟨ad.block, ad.off + 8, none⟩) 4 (c - 8), .slice (some ⟨g4, 0, none⟩) 2 c4, .slice (some ⟨g4, 0, none⟩) 2 c4, .pointer (some ⟨g4, 0, none⟩), .int .u32 (G : Int), .int .i64 (G : Int), .int .i64 (4 * (G : Int)), .int .i64 (12 + 4 * (G : Int)), u32, u33, u34, u35, u36, u37, u38, u39, u40, u41, u42, u43, .pointer (some ⟨w.heap.size, 2, none⟩), .slice (some ad) d.length c, .int .i64 (12 + 4 * (G : Int)), u47, .slice A5 (2 * G) c5, .func (.func 93) #[] #[.pointer (some ⟨w8.heap.size, 0, none⟩), .pointer (some ⟨w8.heap.size + 1, 0, none⟩)], undef, undef, undef, undef, undef, undef, undef, undef, undef, undef, undef, undef, undef, undef, undef, undef], defers := [] } ((w8.alloc (.cells #[.slice A5 (2 * G) c5] 24)).alloc (.cells #[.int .i64 2] 3))) ?_ (fun QQ hT => ?_)
  rotate_left
  · have L12 := L7.drop (k := 12) (c := c) (by simpa using hdc)
    by_cases hc : c = 12
    · have hG0 : G = 0 := by omega
      rw [if_pos hc] at L12
      have N3 := num_len 2 rfl (some ad) (c - 12) ((d.drop 12).take (4 * G)) (4 * G) (2 * G) (by rw [List.length_take, List.length_drop]; omega) (by omega) (by omega) (by omega) W0 (by rw [List.map_take, List.map_drop]; exact (L12.take _).more (by omega))
      subst hc
      clear hG0
      gi_wp2_with fail
      refine ⟨trivial, (callsIn_wide.2 N3).mono ?_⟩
      rintro e w8 ⟨A5, c5, rfl, own8, b8⟩
      gi_wp2_with fail
      refine ⟨trivial, (schunk32_in _ _ _ _ 2 (by omega) _).mono ?_⟩
      rintro e w9 ⟨rfl, rfl⟩
      gi_wp2_with fail
      exact hT _ _ _ _ own8 b8
    · rw [if_neg hc] at L12
      have N3 := num_len 2 rfl (some (ad.add 12)) (c - 12) ((d.drop 12).take (4 * G)) (4 * G) (2 * G) (by rw [List.length_take, List.length_drop]; omega) (by omega) (by omega) (by omega) W0 (by rw [List.map_take, List.map_drop]; exact (L12.take _).more (by omega))
      gi_wp2_with fail
      refine ⟨trivial, (callsIn_wide.2 N3).mono ?_⟩
      rintro e w8 ⟨A5, c5, rfl, own8, b8⟩
      gi_wp2_with fail
      refine ⟨trivial, (schunk32_in _ _ _ _ 2 (by omega) _).mono ?_⟩
      rintro e w9 ⟨rfl, rfl⟩
      gi_wp2_with fail
      exact hT _ _ _ _ own8 b8
  intro u47 A5 c5 w8 own8 b8
  have x8 := x7.below b8 (by omega)
  have z8 := z7.below b8 hzW
  have y8 := yW.below b8 hgW
  have o8 := own_below' oW b8
  have R8 : Below w4.heap.size w4 w8 := RW.trans (b8.mono (by have := RW.size; omega))
  have B8 := BW.trans (b8.mono (by omega))
  have hRs := RW.size
  have hbs := b8.size
  have bb : Below w8.heap.size w8 ((w8.alloc (.cells #[.slice A5 (2 * G) c5] 24)).alloc (.cells #[.int .i64 2] 3)) := ((Below.refl _ w8).alloc (Nat.le_refl _) _).alloc (by simp) _
  have s9 : ((w8.alloc (.cells #[.slice A5 (2 * G) c5] 24)).alloc (.cells #[.int .i64 2] 3)).heap.size = w8.heap.size + 2 := by simp
  have vS := (Whole.new w8 24 #[.slice A5 (2 * G) c5]).alloc (.cells #[.int .i64 2] 3)
  have vN := Whole.new (w8.alloc (.cells #[.slice A5 (2 * G) c5] 24)) 3 #[.int .i64 2]
  rw [World.size_alloc] at vN
  have hnl : (nums 2 ((d.drop 12).take (4 * G))).length = 2 * G := by rw [nums_len, List.length_take, List.length_drop]; omega
  have hpl : (prG (nums 2 ((d.drop 12).take (4 * G)))).length = G := prG_len _ _ hnl
  have I0 : SoI w4.heap.size g7 (w.heap.size + 1) w8.heap.size w4 (nrd d 0 4) (nrd d 4 4) (prG (nums 2 ((d.drop 12).take (4 * G)))) A5 c5 (2 * G) (nums 2 ((d.drop 12).take (4 * G))) W0.heap.size D dc N (nums 4 (d.drop (12 + 4 * G))) [] ((w8.alloc (.cells #[.slice A5 (2 * G) c5] 24)).alloc (.cells #[.int .i64 2] 3)) := ⟨⟨none, 0, y8.below bb (by omega), World.ownsRow_nil _ _ _ _⟩, own_below' own8 bb, own_below' o8 bb, z8.below bb (by omega), R8.trans (bb.mono (by omega)), Nat.zero_le _, vS, vN⟩
  have hA5 : 0 < 2 * G → ∃ ad, A5 = some ad := fun h => by
    obtain ⟨g, e, _⟩ := own_cells2 own8 h
    exact ⟨_, e⟩
  have hcap := own_cap own8
  have HL := Lib.hid (And.intro hnl hpl)
  have HBW := Lib.hid (show Below w.heap.size w w4 from B4k)
  clear x8 z8 y8 o8 R8 x7 z7 L7 q2W own8 b8 oW yW hnl hpl bb BW
  gi_wp2_with fail
  generalize ((w8.alloc (.cells #[.slice A5 (2 * G) c5] 24)).alloc (.cells #[.int .i64 2] 3)) = W9 at *
  have hs9 : w4.heap.size + 2 ≤ W9.heap.size := by omega
  refine each_leave .ret (F := Fence.wide) (n := 6) (P := Tryz.prog) rfl (by omega) (gf := 93) (lb := #[.pointer (some ⟨w8.heap.size, 0, none⟩), .pointer (some ⟨w8.heap.size + 1, 0, none⟩)]) rfl trivial (enters_of Tryz.func93 (by kernel_rfl) rfl)
    (encs := encCh A5 2 (2 * G)) (Kp := KpC w8.heap.size (w8.heap.size + 1)) (G := fun _ _ => False) (Row := fun pre _ x => RowCh 2 (2 * G) pre x) (Fin := FinCh 2 (2 * G)) (FinX := fun q => RowCh 2 (2 * G) q.1 q.2) (N := 2 * G + 1) ?hseq (fun _ => rfl)
    KpC.trans ?hKb (SoI w4.heap.size g7 (w.heap.size + 1) w8.heap.size w4 (nrd d 0 4) (nrd d 4 4) (prG (nums 2 ((d.drop 12).take (4 * G)))) A5 c5 (2 * G) (nums 2 ((d.drop 12).take (4 * G))) W0.heap.size D dc N (nums 4 (d.drop (12 + 4 * G)))) (soI_own (by omega) (Nat.le_refl _)) (fun _ _ => False) (fun _ _ _ _ h _ _ => h) I0 (fun _ _ _ _ h => h.elim)
    (fun pre x a' V => a' = { tmps := #[.agg #[.int .u8 3, .int .u8 0, .slice (some ad) d.length c, .slice K 0 k], .pointer (some ⟨w.heap.size, 0, none⟩), .pointer (some ⟨w.heap.size + 1, 0, none⟩), .bool false, .slice (some ⟨g3, 0, none⟩) 2 c3, .slice (some ⟨g4, 0, none⟩) 2 c4, .int .i64 (12 + 4 * (G : Int)), .pointer (some ⟨g7, 0, none⟩), .slice (A5.map (·.add x)) (min 2 (2 * G - x)) (min 2 (2 * G - x)), .pointer (some ⟨w.heap.size, 0, none⟩), .int .u8 3, .bool false, .bool false, .agg #[.int .u8 3, .int .u8 0, .slice (some ad) d.length c, .slice K 0 k], .nilIface, .bool false, .bool false, undef, .pointer (some ⟨w.heap.size, 2, none⟩), .slice (some ad) d.length c, .slice (some ad) 8 c, .slice (some ⟨g3, 0, none⟩) 2 c3, .pointer (some ⟨w.heap.size, 2, none⟩), .slice (some ad) d.length c, .slice (some ⟨ad.block, ad.off + 8, none⟩) 4 (c - 8), .slice (some ⟨g4, 0, none⟩) 2 c4, .slice (some ⟨g4, 0, none⟩) 2 c4, .pointer (some ⟨g4, 0, none⟩), .int .u32 (G : Int), .int .i64 (G : Int), .int .i64 (4 * (G : Int)), .int .i64 (12 + 4 * (G : Int)), u32, u33, u34, u35, u36, u37, u38, u39, u40, u41, u42, u43, .pointer (some ⟨w.heap.size, 2, none⟩), .slice (some ad) d.length c, .int .i64 (12 + 4 * (G : Int)), u47, .slice A5 (2 * G) c5, .func (.func 93) #[] #[.pointer (some ⟨w8.heap.size, 0, none⟩), .pointer (some ⟨w8.heap.size + 1, 0, none⟩)], .slice (A5.map (·.add x)) (min 2 (2 * G - x)) (min 2 (2 * G - x)), undef, undef, undef, undef, undef, undef, undef, undef, undef, undef, undef, undef, undef, undef, undef], defers := [] } ∧ SoI w4.heap.size g7 (w.heap.size + 1) w8.heap.size w4 (nrd d 0 4) (nrd d 4 4) (prG (nums 2 ((d.drop 12).take (4 * G)))) A5 c5 (2 * G) (nums 2 ((d.drop 12).take (4 * G))) W0.heap.size D dc N (nums 4 (d.drop (12 + 4 * G))) pre V ∧ RowCh 2 (2 * G) pre x) ?hAx
    ?assign ?body ?done ?stop
  case hseq => exact chunk32_comes w8.heap.size (w8.heap.size + 1) A5 (2 * G) c5 2 (by omega) (by omega) hcap.2.1 hcap.2.2 (by omega) hA5 W9 vS vN
  case hKb =>
    intro V l o o' hl _ _
    exact KpC.put V l o' (by omega) (by omega)
  case hAx =>
    rintro pre x a' s X Y row ⟨ha, hi, hr1⟩ hg hr
    exact ⟨ha, soI_own (by omega) (Nat.le_refl _) _ _ _ _ hi hg hr, hr1⟩
  case assign =>
    intro l' pre x V K hi hrx hK
    simp only [encCh]
    gi_wp2
    exact hK _ _ (KeepsFrom.refl _ _) ⟨Below.refl _ _, rfl, rfl⟩ ⟨rfl, hi, hrx⟩
  case stop => exact fun _ _ _ _ _ h _ => h.elim
  case done =>
    rintro D' xs V hD hF hi hKD
    obtain ⟨Gv, gc, hw, hrow⟩ := hi.box
    have hxl : xs.length = G := by
      have h1 := hi.le
      rw [HL.out.2] at h1
      unfold FinCh at hF
      omega
    rw [hxl] at hw hrow
    rw [List.take_of_length_le (by rw [HL.out.2]; exact Nat.le_refl _)] at hrow
    have hres := hi.res
    have HI := Lib.hid hi
    have HR := Lib.hid hrow
    obtain ⟨r0, r1, r2, r3⟩ := wh4 hw
    obtain ⟨t0, t1, t2, t3⟩ := wh4 hres
    have f0 := hres.frozen 0
    have f1 := hres.frozen 1
    have f2 := hres.frozen 2
    have f3 := hres.frozen 3
    clear hi hF hxl hrow
    gi_wp2_with fail
    have hgr := (((grownBy_setCell1 V (w.heap.size + 1) 0 (uv (nrd d 0 4))).trans (grownBy_setCell1 _ (w.heap.size + 1) 1 (uv (nrd d 4 4)))).trans (grownBy_setCell1 _ (w.heap.size + 1) 2 (.slice Gv G gc))).trans (grownBy_setCell1 _ (w.heap.size + 1) 3 (.slice D N dc))
    have y4 := (((hres.set_ 0 (uv (nrd d 0 4))).set_ 1 (uv (nrd d 4 4))).set_ 2 (.slice Gv G gc)).set_ 3 (.slice D N dc)
    have hg3 := HR.out.kept hgr (.inr (whole_row_ne13 hres (by decide) HR.out))
    have hd3 := HI.out.dr.kept hgr (.inr (whole_row_ne13 hres (by decide) HI.out.dr))
    have hK4 := (hgr.block D' (Array.getElem?_eq_some_iff.1 hKD).1 (fun e => by simp only [Option.some.injEq] at e; have := hres.lt; omega)).trans hKD
    have hVs := HI.out.low.size
    have hl4 := (HBW.out.trans (HI.out.low.mono (by omega))).grown hgr (by omega) (fun r e => by cases e; omega)
    have hcG := own_capG hg3
    have hcD := own_capG hd3
    generalize (((V.setCell ⟨w.heap.size + 1, 0, none⟩ (uv (nrd d 0 4))).setCell ⟨w.heap.size + 1, 1, none⟩ (uv (nrd d 4 4))).setCell ⟨w.heap.size + 1, 2, none⟩ (.slice Gv G gc)).setCell ⟨w.heap.size + 1, 3, none⟩ (.slice D N dc) = X at *
    refine ⟨by simp, .inl ⟨_, _, rfl, run_takeDeferred hK4, ?_⟩⟩
    have hp := grownBy_putObj' X D' (.deferred none)
    have hpo : ∀ r, some D' = some r → ∃ o : Obj, X.heap[r]? = some o ∧ o.isCells = false := fun r e => by cases e; exact ⟨_, hK4, rfl⟩
    have y5 := whole_obj y4 hp hpo
    have hg5 := own_obj hg3 hp hpo
    have hd5 := own_obj hd3 hp hpo
    have hl5 := hl4.grown hp (by have := y4.lt; omega) (fun r e => by cases e; omega)
    refine ⟨_, results_row_tmp rfl _ _ (w.heap.size + 1) 38 _ _ rfl y5 Tryz.underlying38 rfl (by kernel_rfl), ?_⟩
    rw [← HG.out]
    have e1 : (prG (nums 2 ((d.drop 12).take (4 * G)))).length = G := HL.out.2
    have e2 : (nums 4 (d.drop (12 + 4 * G))).length = N := by have := hd5.1; rw [List.length_map] at this; omega
    refine ⟨hl5, Gv, gc, D, dc, ?_, ?_⟩
    · simp only [skV, e1, e2]
      rfl
    · refine ⟨⟨own_liesW hg5 (fun h0 => ?_), by rw [e1]; exact hcG.1, hcG.2⟩, Lies.own hd5, by rw [e2]; exact hcD.1, hcD.2⟩
      exact List.length_eq_zero_iff.1 (by rw [gpFlat_len, e1]; omega)
  case body =>
    rintro l' pre x a' V ⟨rfl, hi, hx1, hx2⟩ hlen
    obtain ⟨Gv, gc, hw, hrow⟩ := hi.box
    obtain ⟨g5, rfl, hg5, _, hcl⟩ := own_cells2 hi.nr (by omega)
    have hmin : min 2 (2 * G - x) = 2 := by omega
    obtain ⟨n0, hn0⟩ : ∃ n0, (nums 2 ((d.drop 12).take (4 * G)))[x]? = some n0 := ⟨_, List.getElem?_eq_getElem (by rw [HL.out.1]; omega)⟩
    obtain ⟨n1, hn1⟩ : ∃ n1, (nums 2 ((d.drop 12).take (4 * G)))[x + 1]? = some n1 := ⟨_, List.getElem?_eq_getElem (by rw [HL.out.1]; omega)⟩
    have c0 := hcl x (uv n0) (by rw [List.getElem?_map, hn0]; rfl)
    have c1 := hcl (x + 1) (uv n1) (by rw [List.getElem?_map, hn1]; rfl)
    have hgp : (prG (nums 2 ((d.drop 12).take (4 * G))))[pre.length]? = some ⟨UInt16.ofNat n0.toNat, UInt16.ofNat n1.toNat⟩ := prG_at _ _ _ _ (by rw [show 2 * pre.length = x by omega]; exact hn0) (by rw [show 2 * pre.length = x by omega]; exact hn1)
    have hb0 := nums2_lt _ n0 (List.mem_of_getElem? hn0)
    have hb1 := nums2_lt _ n1 (List.mem_of_getElem? hn1)
    have HT : Hid (gpFlat ((prG (nums 2 ((d.drop 12).take (4 * G)))).take (pre.length + 1)) = gpFlat ((prG (nums 2 ((d.drop 12).take (4 * G)))).take pre.length) ++ [hv (UInt16.ofNat n0.toNat), hv (UInt16.ofNat n1.toNat)]) := Lib.hid (by rw [take_some hgp, gpFlat_snoc])
    have hple : pre.length + 1 ≤ (prG (nums 2 ((d.drop 12).take (4 * G)))).length := (List.getElem?_eq_some_iff.1 hgp).1
    have HPL := Lib.hid hple
    have hpG : pre.length < G := by rw [HL.out.2] at hple; omega
    have HX := Lib.hid hx1
    have HI := Lib.hid hi
    have KB : Hid (∀ W, Below V.heap.size V W → W.cell? ⟨g5, x, none⟩ = some (uv n0) ∧ W.cell? ⟨g5, x + 1, none⟩ = some (uv n1)) := Lib.hid (fun W hW => ⟨(hW.cell (p := ⟨g5, x, none⟩) hg5).trans c0, (hW.cell (p := ⟨g5, x + 1, none⟩) hg5).trans c1⟩)
    simp only [Option.map_some, add_row, hmin]
    have w0' : (n0.toNat : Int) % 65536 = (n0.toNat : Int) := by omega
    have w1' : (n1.toNat : Int) % 65536 = (n1.toNat : Int) := by omega
    have eh : ∀ n : UInt32, n.toNat < 65536 → Value.int .u16 (n.toNat : Int) = hv (UInt16.ofNat n.toNat) := fun n h => by rw [hv, UInt16.toNat_ofNat', Nat.mod_eq_of_lt h]
    have HE0 := Lib.hid (eh n0 hb0)
    have HE1 := Lib.hid (eh n1 hb1)
    have HF0 : Hid (Value.int .u16 (IntKind.u16.wrap (n0.toNat : Int)) = hv (UInt16.ofNat n0.toNat)) := Lib.hid (u16wrap _)
    have HF1 : Hid (Value.int .u16 (IntKind.u16.wrap (n1.toNat : Int)) = hv (UInt16.ofNat n1.toNat)) := Lib.hid (u16wrap _)
    have k2 : V.drew.cell? ⟨g7, 2, none⟩ = some (.slice Gv pre.length gc) := (wh4 hw).2.2.1
    have k2a : (V.alloc (.cells #[hv (UInt16.ofNat n0.toNat), hv (UInt16.ofNat n1.toNat)] 86)).drew.cell? ⟨g7, 2, none⟩ = some (.slice Gv pre.length gc) := (wh4 (hw.alloc _)).2.2.1
    clear hcl hn0 hn1 hgp hx1 hi eh hple c0 c1
    gi_upto_region 9 with fail
    refine region_round_held (S := (fun W => W.cell? ⟨g5, x, none⟩ = some (uv n0) ∧ W.cell? ⟨g5, x + 1, none⟩ = some (uv n1))) (by kernel_rfl) (by kernel_rfl) (by rintro ⟨a, w, h⟩; exact h) (KB.out _ (below_drew (Below.refl _ _))) (fun hHeld => ?_)
    refine take_at (i := 0) (v := ?_) (some 51) rfl (by kernel_rfl) (by kernel_rfl) (by kernel_rfl) (fun _ _ _ h => h) (by kernel_rfl) (Or.inl ⟨by kernel_rfl, ?_⟩) (by assumption) ?_
    rotate_left
    · (intro w hSw; (try dsimp only at hSw); go_simp <;> with_reducible rfl)
    simp only [Act.put, List.setIfInBounds_toArray, List.set_cons_zero, List.set_cons_succ]
    refine take_at (i := 2) (v := ?_) (some 53) rfl (by kernel_rfl) (by kernel_rfl) (by kernel_rfl) (fun _ _ _ h => h) (by kernel_rfl) (Or.inl ⟨by kernel_rfl, ?_⟩) (by assumption) ?_
    rotate_left
    · (intro w hSw; (try dsimp only at hSw); go_simp <;> with_reducible rfl)
    simp only [Act.put, List.setIfInBounds_toArray, List.set_cons_zero, List.set_cons_succ]
    refine take_at (i := 3) (v := ?_) (some 54) rfl (by kernel_rfl) (by kernel_rfl) (by kernel_rfl) (fun _ _ _ h => h) (by kernel_rfl) (Or.inl ⟨by kernel_rfl, ?_⟩) (by assumption) ?_
    rotate_left
    · (intro w hSw; (try dsimp only at hSw); go_simp <;> with_reducible rfl)
    simp only [Act.put, List.setIfInBounds_toArray, List.set_cons_zero, List.set_cons_succ]
    refine take_at (i := 4) (v := ?_) (some 55) rfl (by kernel_rfl) (by kernel_rfl) (by kernel_rfl) (fun _ _ _ h => h) (by kernel_rfl) (Or.inl ⟨by kernel_rfl, ?_⟩) (by assumption) ?_
    rotate_left
    · (intro w hSw; (try dsimp only at hSw); go_simp <;> with_reducible rfl)
    simp only [Act.put, List.setIfInBounds_toArray, List.set_cons_zero, List.set_cons_succ]
    refine take_at (i := 5) (v := ?_) (some 56) rfl (by kernel_rfl) (by kernel_rfl) (by kernel_rfl) (fun _ _ _ h => h) (by kernel_rfl) (Or.inl ⟨by kernel_rfl, ?_⟩) (by assumption) ?_
    rotate_left
    · (intro w hSw; (try dsimp only at hSw); go_simp <;> with_reducible rfl)
    simp only [Act.put, List.setIfInBounds_toArray, List.set_cons_zero, List.set_cons_succ]
    refine take_at (i := 6) (v := ?_) (some 57) rfl (by kernel_rfl) (by kernel_rfl) (by kernel_rfl) (fun _ _ _ h => h) (by kernel_rfl) (Or.inl ⟨by kernel_rfl, ?_⟩) (by assumption) ?_
    rotate_left
    · (intro w hSw; (try dsimp only at hSw); go_simp <;> with_reducible rfl)
    simp only [Act.put, List.setIfInBounds_toArray, List.set_cons_zero, List.set_cons_succ]
    refine take_at (i := 7) (v := ?_) (some 58) rfl (by kernel_rfl) (by kernel_rfl) (by kernel_rfl) (fun _ _ _ h => h) (by kernel_rfl) (Or.inl ⟨by kernel_rfl, ?_⟩) (by assumption) ?_
    rotate_left
    · (intro w hSw; (try dsimp only at hSw); go_simp <;> with_reducible rfl)
    simp only [Act.put, List.setIfInBounds_toArray, List.set_cons_zero, List.set_cons_succ]
    refine take_at (i := 8) (v := ?_) (some 59) rfl (by kernel_rfl) (by kernel_rfl) (by kernel_rfl) (fun _ _ _ h => h) (by kernel_rfl) (Or.inl ⟨by kernel_rfl, ?_⟩) (by assumption) ?_
    rotate_left
    · (intro w hSw; (try dsimp only at hSw); go_simp <;> with_reducible rfl)
    simp only [Act.put, List.setIfInBounds_toArray, List.set_cons_zero, List.set_cons_succ]
    refine take_at (i := 9) (v := ?_) (some 60) rfl (by kernel_rfl) (by kernel_rfl) (by kernel_rfl) (fun _ _ _ h => h) (by kernel_rfl) (Or.inl ⟨by kernel_rfl, ?_⟩) (by assumption) ?_
    rotate_left
    · (intro w hSw; (try dsimp only at hSw); go_simp <;> with_reducible rfl)
    simp only [Act.put, List.setIfInBounds_toArray, List.set_cons_zero, List.set_cons_succ]
    refine take_at (i := 10) (v := ?_) (some 61) rfl (by kernel_rfl) (by kernel_rfl) (by kernel_rfl) (fun _ _ _ h => h) (by kernel_rfl) (Or.inl ⟨by kernel_rfl, ?_⟩) (by assumption) ?_
    rotate_left
    · (intro w hSw; (try dsimp only at hSw); go_simp <;> with_reducible rfl)
    simp only [Act.put, List.setIfInBounds_toArray, List.set_cons_zero, List.set_cons_succ]
    refine wpAnyH_ready (rs := [1, 11]) (by kernel_rfl) (by simp) ?_
    refine AllReadyH.cons rfl (fun K hK => ?_) (AllReadyH.cons rfl (fun K hK => ?_) AllReadyH.nil)
    · go_simp
      clear hHeld
      refine hK.out _ _ (KB.out _ (below_drew (Below.refl _ _))) (fun hHeld => ?_)
      clear hK K
      try simp only [Act.put, List.setIfInBounds_toArray, List.set_cons_zero, List.set_cons_succ]
      refine wpAnyH_ready (rs := [11]) (by kernel_rfl) (by simp) ?_
      refine AllReadyH.cons rfl (fun K hK => ?_) AllReadyH.nil
      go_simp
      (try rw [HF0.out, HF1.out])
      (try rw [HE0.out, HE1.out])
      have bB : Below V.heap.size V (V.alloc (.cells #[hv (UInt16.ofNat n0.toNat), hv (UInt16.ofNat n1.toNat)] 86)).drew := below_drew ((Below.refl _ _).alloc (Nat.le_refl _) _)
      have LB : Lies (V.alloc (.cells #[hv (UInt16.ofNat n0.toNat), hv (UInt16.ofNat n1.toNat)] 86)).drew (V.heap.size + 1) (some ⟨V.heap.size, 0, none⟩) [hv (UInt16.ofNat n0.toNat), hv (UInt16.ofNat n1.toNat)] := (Lies.newN V [hv (UInt16.ofNat n0.toNat), hv (UInt16.ofNat n1.toNat)] 86).below (below_drew (Below.refl _ _))
      have rB : World.ownsRow (V.alloc (.cells #[hv (UInt16.ofNat n0.toNat), hv (UInt16.ofNat n1.toNat)] 86)).drew w4.heap.size 86 2 (.slice Gv pre.length gc) pre.length (gpFlat ((prG (nums 2 ((d.drop 12).take (4 * G)))).take pre.length)) := hrow.alloc _
      have xB : Whole (V.alloc (.cells #[hv (UInt16.ofNat n0.toNat), hv (UInt16.ofNat n1.toNat)] 86)).drew g7 38 #[uv (nrd d 0 4), uv (nrd d 4 4), .slice Gv pre.length gc, .slice D N dc] := hw.alloc _
      have nB := own_below' HI.out.nr bB
      have dB := own_below' HI.out.dr bB
      have kB : (V.alloc (.cells #[hv (UInt16.ofNat n0.toNat), hv (UInt16.ofNat n1.toNat)] 86)).drew.cell? ⟨g7, 2, none⟩ = some (.slice Gv pre.length gc) := k2a
      generalize (V.alloc (.cells #[hv (UInt16.ofNat n0.toNat), hv (UInt16.ofNat n1.toNat)] 86)).drew = wB at *
      clear hHeld
      refine hK.out _ _ (KB.out _ bB) (fun hHeld => ?_)
      clear hK K
      try simp only [Act.put, List.setIfInBounds_toArray, List.set_cons_zero, List.set_cons_succ]
      refine wpAnyH_ready (rs := [12]) (by kernel_rfl) (by simp) ?_
      refine AllReadyH.cons rfl (fun K hK => ?_) AllReadyH.nil
      have hone : ∀ u ∈ [hv (UInt16.ofNat n0.toNat), hv (UInt16.ofNat n1.toNat)], u.oneCell' = true := by intro u hu; simp at hu; rcases hu with rfl | rfl <;> rfl
      refine wp_append_wide14 (.tmp 52) (.tmp 62) 36 rfl w4.heap.size 86 _ 2 4 Tryz.underlying36 gapinfo rfl (by omega) (.slice Gv pre.length gc) pre.length _ rfl rB _ (some ⟨V.heap.size, 0, none⟩) 1 1 [hv (UInt16.ofNat n0.toNat), hv (UInt16.ofNat n1.toNat)] rfl rfl LB hone (by omega) (by unfold maxLen; omega) (Nat.le_trans (Nat.le_trans HI.out.low.size (Nat.le_refl _)) bB.size) ?_
      intro v' w7 own7 gr7
      obtain ⟨A7, c7, rfl⟩ := own_slice2 own7
      have x7 : Whole w7 g7 38 _ := xB.grown gr7 (fun e => whole_row_ne13 xB (by decide) rB e.symm)
      have n7 := nB.kept gr7 (row_ne2 (by decide) nB rB)
      have d7 := dB.kept gr7 (row_ne2 (by decide) dB rB)
      have B7 : ∀ k, k < V.heap.size → (Value.slice Gv pre.length gc).ownBlock ≠ some k → w7.heap[k]? = V.heap[k]? := fun k hk hn => (gr7.block k (Nat.lt_of_lt_of_le hk bB.size) (fun e => hn e.symm)).trans (bB.block k hk)
      have e7 := (wh4 x7).2.2.1
      have f7 := x7.frozen 2
      have S7 : w7.cell? ⟨g5, x, none⟩ = some (uv n0) ∧ w7.cell? ⟨g5, x + 1, none⟩ = some (uv n1) := ⟨(own_cell14 n7 rfl (own_get14 HI.out.nr rfl (KB.out V (Below.refl _ _)).1 (by omega))), (own_cell14 n7 rfl (own_get14 HI.out.nr rfl (KB.out V (Below.refl _ _)).2 (by omega)))⟩
      clear hHeld
      refine hK.out _ _ S7 (fun hHeld => ?_)
      clear hK K
      try simp only [Act.put, List.setIfInBounds_toArray, List.set_cons_zero, List.set_cons_succ]
      refine take_at (i := 13) (v := ?_) (some 64) rfl (by kernel_rfl) (by kernel_rfl) (by kernel_rfl) (fun _ _ _ h => h) (by kernel_rfl) (Or.inl ⟨by kernel_rfl, ?_⟩) (by assumption) ?_
      rotate_left
      · (intro w hSw; (try dsimp only at hSw); go_simp <;> with_reducible rfl)
      simp only [Act.put, List.setIfInBounds_toArray, List.set_cons_zero, List.set_cons_succ]
      refine wpAnyH_ready (rs := [14]) (by kernel_rfl) (by simp) ?_
      refine AllReadyH.cons rfl (fun K hK => ?_) AllReadyH.nil
      go_simp
      have S9 : (w7.setCell ⟨g7, 2, none⟩ (.slice A7 (pre.length + 1) c7)).cell? ⟨g5, x, none⟩ = some (uv n0) ∧ (w7.setCell ⟨g7, 2, none⟩ (.slice A7 (pre.length + 1) c7)).cell? ⟨g5, x + 1, none⟩ = some (uv n1) := ⟨(own_cell14 (own_set13 n7 x7 (by decide)) rfl (own_get14 HI.out.nr rfl (KB.out V (Below.refl _ _)).1 (by omega))), (own_cell14 (own_set13 n7 x7 (by decide)) rfl (own_get14 HI.out.nr rfl (KB.out V (Below.refl _ _)).2 (by omega)))⟩
      clear hHeld
      refine hK.out _ _ S9 (fun hHeld => ?_)
      clear hK K
      try simp only [Act.put, List.setIfInBounds_toArray, List.set_cons_zero, List.set_cons_succ]
      refine wpAnyH_done (by kernel_rfl) ?_ _
      (try simp only [Exit.inBlock, Exit.then])
      have low7 : Below w4.heap.size V w7 := (bB.mono (HI.out.low.size)).grown gr7 (Nat.le_trans HI.out.low.size bB.size) (fun r e => (rB.lt r e).1)
      exact so_next x HI.out hw hrow x7 own7 HT.out n7 d7 B7 low7 hge (by omega) (by omega) HPL.out
    · go_simp
      (try rw [HF0.out, HF1.out])
      (try rw [HE0.out, HE1.out])
      have bB : Below V.heap.size V (V.alloc (.cells #[hv (UInt16.ofNat n0.toNat), hv (UInt16.ofNat n1.toNat)] 86)).drew := below_drew ((Below.refl _ _).alloc (Nat.le_refl _) _)
      have LB : Lies (V.alloc (.cells #[hv (UInt16.ofNat n0.toNat), hv (UInt16.ofNat n1.toNat)] 86)).drew (V.heap.size + 1) (some ⟨V.heap.size, 0, none⟩) [hv (UInt16.ofNat n0.toNat), hv (UInt16.ofNat n1.toNat)] := (Lies.newN V [hv (UInt16.ofNat n0.toNat), hv (UInt16.ofNat n1.toNat)] 86).below (below_drew (Below.refl _ _))
      have rB : World.ownsRow (V.alloc (.cells #[hv (UInt16.ofNat n0.toNat), hv (UInt16.ofNat n1.toNat)] 86)).drew w4.heap.size 86 2 (.slice Gv pre.length gc) pre.length (gpFlat ((prG (nums 2 ((d.drop 12).take (4 * G)))).take pre.length)) := hrow.alloc _
      have xB : Whole (V.alloc (.cells #[hv (UInt16.ofNat n0.toNat), hv (UInt16.ofNat n1.toNat)] 86)).drew g7 38 #[uv (nrd d 0 4), uv (nrd d 4 4), .slice Gv pre.length gc, .slice D N dc] := hw.alloc _
      have nB := own_below' HI.out.nr bB
      have dB := own_below' HI.out.dr bB
      have kB : (V.alloc (.cells #[hv (UInt16.ofNat n0.toNat), hv (UInt16.ofNat n1.toNat)] 86)).drew.cell? ⟨g7, 2, none⟩ = some (.slice Gv pre.length gc) := k2a
      generalize (V.alloc (.cells #[hv (UInt16.ofNat n0.toNat), hv (UInt16.ofNat n1.toNat)] 86)).drew = wB at *
      clear hHeld
      refine hK.out _ _ (KB.out _ bB) (fun hHeld => ?_)
      clear hK K
      try simp only [Act.put, List.setIfInBounds_toArray, List.set_cons_zero, List.set_cons_succ]
      refine wpAnyH_ready (rs := [1]) (by kernel_rfl) (by simp) ?_
      refine AllReadyH.cons rfl (fun K hK => ?_) AllReadyH.nil
      go_simp
      clear hHeld
      refine hK.out _ _ (KB.out _ bB) (fun hHeld => ?_)
      clear hK K
      try simp only [Act.put, List.setIfInBounds_toArray, List.set_cons_zero, List.set_cons_succ]
      refine wpAnyH_ready (rs := [12]) (by kernel_rfl) (by simp) ?_
      refine AllReadyH.cons rfl (fun K hK => ?_) AllReadyH.nil
      have hone : ∀ u ∈ [hv (UInt16.ofNat n0.toNat), hv (UInt16.ofNat n1.toNat)], u.oneCell' = true := by intro u hu; simp at hu; rcases hu with rfl | rfl <;> rfl
      refine wp_append_wide14 (.tmp 52) (.tmp 62) 36 rfl w4.heap.size 86 _ 2 4 Tryz.underlying36 gapinfo rfl (by omega) (.slice Gv pre.length gc) pre.length _ rfl rB _ (some ⟨V.heap.size, 0, none⟩) 1 1 [hv (UInt16.ofNat n0.toNat), hv (UInt16.ofNat n1.toNat)] rfl rfl LB hone (by omega) (by unfold maxLen; omega) (Nat.le_trans (Nat.le_trans HI.out.low.size (Nat.le_refl _)) bB.size) ?_
      intro v' w7 own7 gr7
      obtain ⟨A7, c7, rfl⟩ := own_slice2 own7
      have x7 : Whole w7 g7 38 _ := xB.grown gr7 (fun e => whole_row_ne13 xB (by decide) rB e.symm)
      have n7 := nB.kept gr7 (row_ne2 (by decide) nB rB)
      have d7 := dB.kept gr7 (row_ne2 (by decide) dB rB)
      have B7 : ∀ k, k < V.heap.size → (Value.slice Gv pre.length gc).ownBlock ≠ some k → w7.heap[k]? = V.heap[k]? := fun k hk hn => (gr7.block k (Nat.lt_of_lt_of_le hk bB.size) (fun e => hn e.symm)).trans (bB.block k hk)
      have e7 := (wh4 x7).2.2.1
      have f7 := x7.frozen 2
      have S7 : w7.cell? ⟨g5, x, none⟩ = some (uv n0) ∧ w7.cell? ⟨g5, x + 1, none⟩ = some (uv n1) := ⟨(own_cell14 n7 rfl (own_get14 HI.out.nr rfl (KB.out V (Below.refl _ _)).1 (by omega))), (own_cell14 n7 rfl (own_get14 HI.out.nr rfl (KB.out V (Below.refl _ _)).2 (by omega)))⟩
      clear hHeld
      refine hK.out _ _ S7 (fun hHeld => ?_)
      clear hK K
      try simp only [Act.put, List.setIfInBounds_toArray, List.set_cons_zero, List.set_cons_succ]
      refine take_at (i := 13) (v := ?_) (some 64) rfl (by kernel_rfl) (by kernel_rfl) (by kernel_rfl) (fun _ _ _ h => h) (by kernel_rfl) (Or.inl ⟨by kernel_rfl, ?_⟩) (by assumption) ?_
      rotate_left
      · (intro w hSw; (try dsimp only at hSw); go_simp <;> with_reducible rfl)
      simp only [Act.put, List.setIfInBounds_toArray, List.set_cons_zero, List.set_cons_succ]
      refine wpAnyH_ready (rs := [14]) (by kernel_rfl) (by simp) ?_
      refine AllReadyH.cons rfl (fun K hK => ?_) AllReadyH.nil
      go_simp
      have S9 : (w7.setCell ⟨g7, 2, none⟩ (.slice A7 (pre.length + 1) c7)).cell? ⟨g5, x, none⟩ = some (uv n0) ∧ (w7.setCell ⟨g7, 2, none⟩ (.slice A7 (pre.length + 1) c7)).cell? ⟨g5, x + 1, none⟩ = some (uv n1) := ⟨(own_cell14 (own_set13 n7 x7 (by decide)) rfl (own_get14 HI.out.nr rfl (KB.out V (Below.refl _ _)).1 (by omega))), (own_cell14 (own_set13 n7 x7 (by decide)) rfl (own_get14 HI.out.nr rfl (KB.out V (Below.refl _ _)).2 (by omega)))⟩
      clear hHeld
      refine hK.out _ _ S9 (fun hHeld => ?_)
      clear hK K
      try simp only [Act.put, List.setIfInBounds_toArray, List.set_cons_zero, List.set_cons_succ]
      refine wpAnyH_done (by kernel_rfl) ?_ _
      (try simp only [Exit.inBlock, Exit.then])
      have low7 : Below w4.heap.size V w7 := (bB.mono (HI.out.low.size)).grown gr7 (Nat.le_trans HI.out.low.size bB.size) (fun r e => (rB.lt r e).1)
      exact so_next x HI.out hw hrow x7 own7 HT.out n7 d7 B7 low7 hge (by omega) (by omega) HPL.out
theorem sof_any (x : Ck) (hf : CkFine x) (A : Option Addr) (c : Nat) (K : Option Addr) (k : Nat) (w : World) (h : Chunk w w.heap.size A c K k x) (hh : Handle w) :
    Calls Tryz.prog 17 #[ckV x A c K k] w (OfS x w) := by
  cases hx : isS x with
  | false => exact sof_no x hx hf A c K k w h hh
  | true =>
    obtain ⟨h1, h2, h3, _⟩ := isS_all hx
    obtain ⟨t, fl, d, ks⟩ := x
    simp only at h1 h2 h3
    subst h1 h2 h3
    exact sof_yes d hx A c K k w h hh
end Go.Proofs.YtabljmiiekpgiaaGreatDoor


