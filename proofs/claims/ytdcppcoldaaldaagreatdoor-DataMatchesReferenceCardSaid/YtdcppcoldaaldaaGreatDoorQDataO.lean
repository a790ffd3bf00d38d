/- Layer 13: the iterator over the pieces of a description (pieces). It writes nothing that was there. -/
import Derived.Test.YtdcppcoldaaldaaGreatDoorQDataN
import Derived.Test.YtdcppcoldaaldaaGreatDoorQDJ
import Derived.Test.YtdcppcoldaaldaaGreatDoorQEL
import Derived.Test.YtdcppcoldaaldaaGreatDoorQNF
import Derived.Test.YtdcppcoldaaldaaGreatDoorQCL
import Derived.Test.YtdcppcoldaaldaaGreatDoorQTC
import Derived.Test.YtdcppcoldaaldaaGreatDoorQNW
import Derived.BigGuard
import Derived.Deep.RegionLaw
import Derived.Sort.CutIn











namespace Go.Proofs.YtdcppcoldaaldaaGreatDoor
open Go.RowKit Go.Shelf

attribute [local go_sem] Oper.semAt_some
set_option linter.unusedSimpArgs false
/-- piece j of n bytes of a description -/
def pieceP (p : Pt) (n j : Nat) : Pt := ⟨p.inter, p.tsn + UInt32.ofNat j, p.st, p.sq, if p.inter = true ∧ 0 < j then UInt32.ofNat j else p.pr, decide (j = 0), decide (p.us.length ≤ (j + 1) * n), p.un, p.nw, (p.us.drop (j * n)).take n⟩
theorem pieceP_len (p : Pt) (n j : Nat) : (pieceP p n j).us.length = min n (p.us.length - j * n) := by
  show ((p.us.drop (j * n)).take n).length = _
  rw [List.length_take, List.length_drop]
def encPc (p : Pt) (A : Option Addr) (n j : Nat) : Array Value := #[ptV (pieceP p n j) (A.map (·.add (j * n))) (min n (p.us.length - j * n))]
def RowPc (p : Pt) (n : Nat) (pre : List Nat) (j : Nat) : Prop := j = pre.length ∧ j * n < p.us.length
def FinPc (p : Pt) (n : Nat) (xs : List Nat) : Prop := p.us.length ≤ xs.length * n
/-- what the loop over the chunks holds: the yield's box, the number, what is left, the description, what the caller holds -/
structure PcI (p : Pt) (A : Option Addr) (c n : Nat) (G : World → Nat → Prop) (J : List Nat → World → Prop) (l By gN gL Bp X : Nat) (ys : List Nat) (W : World) : Prop where
  j : J (List.range ys.length) W
  y : Boxed W By 100 (.func (.yield l) #[] #[])
  ny : ¬ G W By
  num : Boxed W gN 22 (.int .u32 (ys.length : Int))
  nn : ¬ G W gN
  left : Boxed W gL 3 (.int .i64 ((p.us.length - ys.length * n : Nat) : Int))
  nl : ¬ G W gL
  pt : Whole W Bp 34 (ptCells p A c)
  np : ¬ G W Bp
  sz : X ≤ W.heap.size
  ne : By ≠ gN ∧ By ≠ gL ∧ gN ≠ gL ∧ Bp ≠ gN ∧ Bp ≠ gL ∧ Bp ≠ By
  lt : By < X ∧ gN < X ∧ gL < X
def PcX (Jx : List Nat × Nat → World → Prop) (p : List Nat × Nat) (W : World) : Prop := Jx (List.range p.1.length, p.1.length) W
theorem ownFrom_wider13 {β : Type} {B B' : Nat} {I : β → World → Prop} (h : OwnFrom B I) (hB : B ≤ B') : OwnFrom B' I := fun s W W' row hs hg hr => h s W W' row hs hg fun r e => ⟨Nat.le_trans hB (hr r e).1, (hr r e).2⟩
section
variable {p : Pt} {A : Option Addr} {c n l By gN gL Bp X X' : Nat} {G : World → Nat → Prop} {J : List Nat → World → Prop} {Jx : List Nat × Nat → World → Prop}
theorem cells_row_ne {V : World} {i : Nat} {cs : Array Value} {t : TypeId} {z : Nat × Nat} {row : Option Nat} (hi : V.heap[i]? = some (.cells cs t z)) (hr : ∀ r, row = some r → X ≤ r ∧ ∃ o : Obj, V.heap[r]? = some o ∧ o.isCells = false) : some i ≠ row := by
  intro e
  obtain ⟨_, o, ho, hoc⟩ := hr i e.symm
  rw [hi] at ho
  cases ho
  cases hoc
theorem pcI_own (hGo : GOwnN X G) (hJo : OwnFrom X J) (hX : X ≤ X') : OwnFrom X' (PcI p A c n G J l By gN gL Bp X) := by
  rintro ys V V' row h hg hr
  have hr' : ∀ r, row = some r → X ≤ r ∧ ∃ o : Obj, V.heap[r]? = some o ∧ o.isCells = false := fun r e => ⟨Nat.le_trans hX (hr r e).1, (hr r e).2⟩
  have hG : ∀ i, G V' i → G V i := hGo _ _ _ h.sz hg hr'
  exact ⟨hJo _ _ _ _ h.j hg hr', h.y.kept hg (cells_row_ne h.y hr'), fun e => h.ny (hG _ e), h.num.kept hg (cells_row_ne h.num hr'), fun e => h.nn (hG _ e), h.left.kept hg (cells_row_ne h.left hr'), fun e => h.nl (hG _ e),
    h.pt.grown hg (cells_row_ne h.pt hr'), fun e => h.np (hG _ e), Nat.le_trans h.sz hg.size, h.ne, h.lt⟩
theorem pcX_own (hJo : OwnFrom X Jx) (hX : X ≤ X') : OwnFrom X' (PcX Jx) := by
  rintro q V V' row h hg hr
  exact hJo _ _ _ _ h hg (fun r e => ⟨Nat.le_trans hX (hr r e).1, (hr r e).2⟩)
end
/-- the blocks that the loop over the chunks writes: the caller's, the number, what is left -/
def PcG (G : World → Nat → Prop) (gN gL : Nat) (W : World) (i : Nat) : Prop := G W i ∨ i = gN ∨ i = gL
theorem pcG_own {G : World → Nat → Prop} {X gN gL : Nat} (h : GOwnN X G) : GOwnN X (PcG G gN gL) := fun A B row hA hg hr i hi => by
  rcases hi with hi | hi | hi
  · exact .inl (h A B row hA hg hr i hi)
  · exact .inr (.inl hi)
  · exact .inr (.inr hi)
/-- a statement that ends in no other way than by going on -/
def onlyN (Q : Exit → Act → World → Prop) : Exit → Act → World → Prop
  | .normal, a, w => Q .normal a w
  | .ret, _, _ => False
  | .exit _, _, _ => False
  | .goto _, _, _ => False
  | .panic _, _, _ => False
  | .outgrown, _, _ => False
theorem wpIn_onlyN {F : Fence} {n : Nat} {P : Program} {C : Code} {Q : Exit → Act → World → Prop} {a : Act} {w : World} (h : C.wpIn F n P (onlyN Q) a w) : C.wpIn F n P Q a w :=
  wpIn_mono h fun e a w hq => by
    cases e with
    | normal => exact hq
    | ret => exact hq.elim
    | exit id => exact hq.elim
    | goto t => exact hq.elim
    | panic c => exact hq.elim
    | outgrown => exact hq.elim
/-- what the caller's rounds may write does not change where another block is written -/
def KeepG (X : Nat) (G : World → Nat → Prop) : Prop := ∀ A g i u cs t z, X ≤ g → A.heap[g]? = some (.cells cs t z) → ¬ G A g → ∀ k, G (A.setCell ⟨g, i, none⟩ u) k → G A k
/-- from a round's beginning to the yield: only what is left and new blocks were written -/
structure PcK (X n₀ gL : Nat) (G : World → Nat → Prop) (J : World → Prop) (V U : World) : Prop where
  low : Below n₀ V U
  same : ∀ i, i < V.heap.size → i ≠ gL → U.heap[i]? = V.heap[i]?
  g : ∀ i, G U i → G V i
  j : J U
section
variable {X n₀ gL : Nat} {G : World → Nat → Prop} {β : Type} {J : β → World → Prop} {s : β} {V U : World}
theorem PcK.refl (h : J s V) : PcK X n₀ gL G (J s) V V := ⟨Below.refl _ _, fun _ _ _ => rfl, fun _ h => h, h⟩
theorem PcK.set (hJk : KeepJ X (fun t => t ≠ 5) G J) (hGk : KeepG X G) (hlt : ∀ i, G V i → i < V.heap.size) (hL : ¬ G V gL) (h0 : n₀ ≤ gL) (h1 : n₀ ≤ V.heap.size) (hX : X ≤ gL) (hX2 : X ≤ V.heap.size) (h : PcK X n₀ gL G (J s) V U) {b i : Nat} {t : TypeId} {cs : Array Value} (hb : Whole U b t cs) (ht : t ≠ 5) (hc : b = gL ∨ V.heap.size ≤ b) (u : Value) :
    PcK X n₀ gL G (J s) V (U.setCell ⟨b, i, none⟩ u) := by
  have hn : ¬ G U b := fun hg => by
    have h2 := h.g b hg
    rcases hc with e | e
    · rw [e] at h2; exact hL h2
    · have := hlt b h2; omega
  have hXb : X ≤ b := by rcases hc with e | e <;> omega
  exact ⟨h.low.setCell (by rcases hc with e | e <;> (show n₀ ≤ b; omega)) _, fun k hk hkL => (Below.heap_setCell U ⟨b, i, none⟩ u k (by show k ≠ b; rcases hc with e | e <;> omega)).trans (h.same k hk hkL), fun k hk => h.g k (hGk U b i u _ _ _ hXb hb hn k hk), hJk s U b i u _ _ _ h.j hXb hb ht hn⟩
theorem PcK.grow (hJo : OwnFrom X J) (hGo : GOwnN X G) (hX : X ≤ V.heap.size) (h1 : n₀ ≤ V.heap.size) (h : PcK X n₀ gL G (J s) V U) {U' : World} (hb : Below U.heap.size U U') (hs : V.heap.size ≤ U.heap.size) : PcK X n₀ gL G (J s) V U' :=
  ⟨h.low.trans (hb.mono (by omega)), fun k hk hkL => (hb.block k (by omega)).trans (h.same k hk hkL), fun k hk => h.g k (hGo _ _ none (by omega) (grown_of_below hb) (fun r e => by cases e) k hk), hJo _ _ _ none h.j (grown_of_below hb) (fun r e => by cases e)⟩
end
section
variable {p : Pt} {A : Option Addr} {c n l By gN gL Bp X X0 n₀ : Nat} {G : World → Nat → Prop} {J : List Nat → World → Prop} {pre : List Nat} {V V6 w7 : World}
theorem PcK.kf {J' : World → Prop} (K : PcK X0 n₀ gL G J' V V6) (hs : V.heap.size ≤ V6.heap.size) {t : TypeId} {v : Value} (hL : Boxed V gL t v) (B : Nat) : KeepsFrom B V V6 :=
  ⟨hs, fun k o _ hk ho => (K.same k (Array.getElem?_eq_some_iff.1 hk).1 (fun e => by
    have h : V.heap[gL]? = some (.cells #[v] t (0, 0)) := hL
    rw [e, h] at hk
    cases hk
    cases ho)).trans hk⟩
theorem pc_next (x : Nat) (hJk : KeepJ X0 (fun t => t ≠ 5) G J) (hGk : KeepG X0 G) (hI : PcI p A c n G J l By gN gL Bp X pre V) (K6 : PcK X0 n₀ gL G (J (List.range pre.length)) V V6) (hs6 : V.heap.size ≤ V6.heap.size) (hj7 : J (List.range pre.length ++ [pre.length]) w7) (hk7 : KpG G n₀ V6 w7)
    (hkf : KeepsFrom X0 V6 w7) (left6 : Boxed V6 gL 3 (.int .i64 ((p.us.length - (pre.length + 1) * n : Nat) : Int))) (h1 : X0 ≤ gN) (h2 : n₀ ≤ gN) (h3 : X0 ≤ X) :
    KeepsFrom X V (w7.setCell ⟨gN, 0, none⟩ (.int .u32 ((pre.length + 1 : Nat) : Int))) ∧ KpG (PcG G gN gL) n₀ V (w7.setCell ⟨gN, 0, none⟩ (.int .u32 ((pre.length + 1 : Nat) : Int))) ∧
      PcI p A c n G J l By gN gL Bp X (pre ++ [x]) (w7.setCell ⟨gN, 0, none⟩ (.int .u32 ((pre.length + 1 : Nat) : Int))) := by
  have hltN := boxed_lt hI.num
  have hltY := boxed_lt hI.y
  have hltL := boxed_lt hI.left
  have hltP := hI.pt.lt
  have h7 := hk7.low.size
  have num6 : Boxed V6 gN 22 (.int .u32 (pre.length : Int)) := (K6.same gN hltN hI.ne.2.2.1).trans hI.num
  have y6 : Boxed V6 By 100 (.func (.yield l) #[] #[]) := (K6.same By hltY hI.ne.2.1).trans hI.y
  have pt6 : Whole V6 Bp 34 (ptCells p A c) := (K6.same Bp hltP hI.ne.2.2.2.2.1).trans hI.pt
  have n6 : ∀ i, ¬ G V i → ¬ G V6 i := fun i h hg => h (K6.g i hg)
  have n7 : ∀ i, i < V6.heap.size → ¬ G V6 i → ¬ G w7 i := fun i hi h hg => h (hk7.own i hi hg)
  have num7 : Boxed w7 gN 22 (.int .u32 (pre.length : Int)) := hk7.same _ _ _ _ (n6 _ hI.nn) num6
  have nN7 : ¬ G w7 gN := n7 _ (by omega) (n6 _ hI.nn)
  have g8 : ∀ k, G (w7.setCell ⟨gN, 0, none⟩ (.int .u32 ((pre.length + 1 : Nat) : Int))) k → G w7 k := hGk w7 gN 0 _ _ _ _ h1 num7 nN7
  have hsz : (w7.setCell ⟨gN, 0, none⟩ (.int .u32 ((pre.length + 1 : Nat) : Int))).heap.size = w7.heap.size := by simp
  have hy7 : Boxed w7 By 100 (.func (.yield l) #[] #[]) := hk7.same _ _ _ _ (n6 _ hI.ny) y6
  have hL7 : Boxed w7 gL 3 (.int .i64 ((p.us.length - (pre.length + 1) * n : Nat) : Int)) := hk7.same _ _ _ _ (n6 _ hI.nl) left6
  have hp7 : Whole w7 Bp 34 (ptCells p A c) := hk7.same _ _ _ _ (n6 _ hI.np) pt6
  refine ⟨(K6.kf hs6 hI.left X).trans (KeepsFrom.trans ⟨hkf.size, fun k o hk ho => hkf.same k o (by omega) ho⟩ ((KeepsOthers.setCell _ _ _).from _)), ⟨(K6.low.trans hk7.low).setCell h2 _, fun i cs t z hg hi => ?_, fun i hi hg => ?_⟩, ?_⟩
  · have hiV := (Array.getElem?_eq_some_iff.1 hi).1
    refine (Below.heap_setCell w7 ⟨gN, 0, none⟩ _ i (fun e => hg (.inr (.inl e)))).trans ?_
    exact hk7.same i cs t z (n6 _ (fun h => hg (.inl h))) ((K6.same i hiV (fun e => hg (.inr (.inr e)))).trans hi)
  · rcases hg with hg | hg | hg
    · exact .inl (K6.g i (hk7.own i (by omega) (g8 i hg)))
    · exact .inr (.inl hg)
    · exact .inr (.inr hg)
  · have hl : (pre ++ [x]).length = pre.length + 1 := by simp
    refine ⟨?_, Whole.far hy7 hI.ne.1 _, fun h => n7 _ (by omega) (n6 _ hI.ny) (g8 _ h), ?_, fun h => nN7 (g8 _ h), ?_, fun h => n7 _ (by omega) (n6 _ hI.nl) (g8 _ h), hp7.far hI.ne.2.2.2.1 _, fun h => n7 _ (by omega) (n6 _ hI.np) (g8 _ h), by rw [hsz]; have := hI.sz; omega, hI.ne, hI.lt⟩
    · rw [hl, List.range_succ]
      exact hJk _ w7 gN 0 _ _ _ _ hj7 h1 num7 (by decide) nN7
    · rw [hl]
      exact num7.set _
    · rw [hl]
      exact Whole.far hL7 (fun e => hI.ne.2.2.1 e.symm) _
end
theorem encPc_of (p : Pt) (A : Option Addr) (n j x r e y : Nat) (hj : j ≤ 65535) (hx : x = j * n) (hr : r = p.us.length - x) (he : e = min n r) (hy : y = r - e) (hlt : x < p.us.length) (prv : Value) (hp : prv = uv (pieceP p n j).pr) :
    encPc p A n j = #[.agg #[.bool p.inter, uv (p.tsn + UInt32.ofNat j), hv p.st, uv p.sq, prv, .bool ((j : Int) == 0), .bool ((y : Int) == 0), .bool p.un, .bool p.nw, .slice (A.map (·.add x)) e e]] := by
  have h1 : decide (j = 0) = ((j : Int) == 0) := by
    by_cases h : j = 0
    · subst h; rfl
    · rw [decide_eq_false h, eq_comm, beq_eq_false_iff_ne]; omega
  have hm : (j + 1) * n = x + n := by rw [Nat.add_mul, Nat.one_mul, hx]
  have h2 : decide (p.us.length ≤ (j + 1) * n) = ((y : Int) == 0) := by
    rw [hm]
    by_cases h : p.us.length ≤ x + n
    · rw [decide_eq_true h, eq_comm, beq_iff_eq]; omega
    · rw [decide_eq_false h, eq_comm, beq_eq_false_iff_ne]; omega
  have h3 := pieceP_len p n j
  rw [← hx, ← hr, ← he] at h3
  unfold encPc
  rw [← hx, ← hr, ← he]
  show #[Value.agg #[.bool p.inter, uv (p.tsn + UInt32.ofNat j), hv p.st, uv p.sq, uv (pieceP p n j).pr, .bool (decide (j = 0)), .bool (decide (p.us.length ≤ (j + 1) * n)), .bool p.un, .bool p.nw, .slice (A.map (·.add x)) (pieceP p n j).us.length e]] = _
  rw [h1, h2, h3, hp]
theorem roundIn_wide13 {n m : Nat} {l l' : Nat} {P : Program} {f : FuncId} {tmps : Array Value} {assign body : Code} {w : World} {R : Ending → World → Prop} (h : RoundIn Fence.wide n P l f tmps assign body w R) : RoundIn (Fence.wide.inRound l') m P l f tmps assign body w R :=
  ⟨h.1, fun c cs _ => h.2 c cs (by simp [Fence.room, Fence.wide])⟩
theorem pieces_in (n : Nat) (p : Pt) (A : Option Addr) (c : Nat) (k : Int) (w : World) :
    CallsIn Fence.wide n Tryz.prog 115 #[ptV p A c, .int .i64 k] w fun e w' => e = .returned (.func (.func 146) #[] #[.pointer (some ⟨w.heap.size, 0, none⟩), .pointer (some ⟨w.heap.size + 1, 0, none⟩)]) ∧
      w' = (w.alloc (.cells (ptCells p A c) 34)).alloc (.cells #[.int .i64 k] 3) := by
  refine callsIn_of_wp Tryz.func115 rfl trivial ?_ rfl
  simp only [Tryz.ntmps115, List.size_toArray, List.length_cons, List.length_nil, Nat.reduceAdd, Nat.reduceSub, Array.replicate_succ, Array.replicate_zero, List.push_toArray, List.append_toArray, List.nil_append, List.cons_append]
  gi_wp2_with fail
  go_ret
  exact ⟨rfl, rfl⟩
set_option maxRecDepth 100000 in
set_option maxHeartbeats 8000000 in
theorem pieces1_in (l Bp Bn n₀ N : Nat) (p : Pt) (A : Option Addr) (c n : Nat) (hp1 : 1 ≤ p.us.length) (hp2 : p.us.length ≤ 65535) (hcc : p.us.length ≤ c) (hm : c ≤ maxLen) (hA : ∃ ad, A = some ad) (hn1 : 1 ≤ n) (hn2 : n ≤ 9223372036854775807) (hN : 65536 ≤ N)
    (G : World → Nat → Prop) (W : World) (hGo : GOwnN W.heap.size G) (J : List Nat → World → Prop) (Jx : List Nat × Nat → World → Prop) (hJo : OwnFrom W.heap.size J) (hJxo : OwnFrom W.heap.size Jx) (hJk : KeepJ W.heap.size (fun t => t ≠ 5) G J) (hGk : KeepG W.heap.size G) (hJG : ∀ s A, J s A → ∀ i, G A i → i < A.heap.size)
    (hY : ∀ pre x W1, J pre W1 → pre.length < N → RowPc p n pre x → YieldAt Fence.wide 4 Tryz.prog l (encPc p A n x) W1 fun e W' => ((e = .returned (.bool true) ∧ J (pre ++ [x]) W' ∧ KpG G n₀ W1 W') ∨ (e = .returned (.bool false) ∧ Jx (pre, x) W')) ∧ KeepsFrom W.heap.size W1 W')
    (hBp : Whole W Bp 34 (ptCells p A c)) (gBp : ¬ G W Bp) (hBn : Whole W Bn 3 #[.int .i64 (n : Int)]) (hn₀ : n₀ ≤ W.heap.size) (h0 : J [] W) :
    CallsIn Fence.wide 5 Tryz.prog 146 #[.func (.yield l) #[] #[], .pointer (some ⟨Bp, 0, none⟩), .pointer (some ⟨Bn, 0, none⟩)] W fun e W' => (∃ v, e = .returned v) ∧ ((∃ xs, FinPc p n xs ∧ J xs W') ∨ (∃ q : List Nat × Nat, RowPc p n q.1 q.2 ∧ Jx q W')) := by
  obtain ⟨q0, q1, q2, q3, q4, q5, q6, q7, q8, q9⟩ := hBp.cs10
  have hBplt := hBp.lt
  have cBn : W.cell? ⟨Bn, 0, none⟩ = some (.int .i64 (n : Int)) := by rw [hBn.cell]; rfl
  have bY : Below W.heap.size W (W.alloc (.cells #[.func (.yield l) #[] #[]] 100)) := (Below.refl _ _).alloc (Nat.le_refl _) _
  have yY := Boxed.new W 100 (.func (.yield l) #[] #[])
  have hsY : (W.alloc (.cells #[.func (.yield l) #[] #[]] 100)).heap.size = W.heap.size + 1 := by simp
  have r9 : (W.alloc (.cells #[.func (.yield l) #[] #[]] 100)).cell? ⟨Bp, 9, none⟩ = some (.slice A p.us.length c) := (bY.cell hBplt).trans q9
  refine callsIn_of_wp_marks Tryz.func146 rfl trivial ?_ rfl
  simp only [Tryz.ntmps146, List.size_toArray, List.length_cons, List.length_nil, Nat.reduceAdd, Nat.reduceSub, Array.replicate_succ, Array.replicate_zero, List.push_toArray, List.append_toArray, List.nil_append, List.cons_append]
  gi_wp2_with fail
  generalize hW1 : W.alloc (.cells #[.func (.yield l) #[] #[]] 100) = w1 at *
  clear hW1
  refine wpIn_onlyN (wpIn_wide.2 ?_)
  refine cut_post (fun QQ => ∀ (u8 u9 u10 : Value) (gN gL : Nat) (W0 : World), Below w1.heap.size w1 W0 → Boxed W0 gN 22 (.int .u32 0) → Boxed W0 gL 3 (.int .i64 (p.us.length : Int)) → w1.heap.size ≤ gN → w1.heap.size ≤ gL → gN ≠ gL →
    QQ Exit.normal { tmps := #[.func (.yield l) #[] #[], .pointer (some ⟨Bp, 0, none⟩), .pointer (some ⟨Bn, 0, none⟩), .pointer (some ⟨W.heap.size, 0, none⟩), .pointer (some ⟨gN, 0, none⟩), .pointer (some ⟨gL, 0, none⟩), undef, undef, u8, u9, u10, undef, undef, undef, undef, undef, undef, undef, undef, undef, undef, undef, undef, undef, undef, undef, undef, undef, undef, undef, undef, undef, undef, undef, undef, undef, undef, undef, undef, undef, undef, undef, undef, undef, undef, undef, undef, undef], defers := [] } W0) ?_ (fun hT => ?_)
  rotate_left
  · have KS : Hid (∀ V, Below w1.heap.size w1 V → V.cell? ⟨Bp, 9, none⟩ = some (.slice A p.us.length c)) := fun V hV => (hV.cell (by show Bp < w1.heap.size; omega)).trans r9
    refine wp_region_held_drew (S := (fun V => V.cell? ⟨Bp, 9, none⟩ = some (.slice A p.us.length c))) (by kernel_rfl) (KS.out _ (below_drew (Below.refl _ _))) (fun hHeld => ?_)
    refine take_at (i := 0) (v := ?_) (some 8) rfl (by kernel_rfl) (by kernel_rfl) (by kernel_rfl) (fun _ _ _ h => h) (by kernel_rfl) (Or.inl ⟨by kernel_rfl, ?_⟩) (by assumption) ?_
    rotate_left
    · (intro w hSw; (try dsimp only at hSw); go_simp <;> with_reducible rfl)
    simp only [Act.put, List.setIfInBounds_toArray, List.set_cons_zero, List.set_cons_succ]
    refine take_at (i := 1) (v := ?_) (some 9) rfl (by kernel_rfl) (by kernel_rfl) (by kernel_rfl) (fun _ _ _ h => h) (by kernel_rfl) (Or.inl ⟨by kernel_rfl, ?_⟩) (by assumption) ?_
    rotate_left
    · (intro w hSw; (try dsimp only at hSw); go_simp <;> with_reducible rfl)
    simp only [Act.put, List.setIfInBounds_toArray, List.set_cons_zero, List.set_cons_succ]
    refine take_at (i := 2) (v := ?_) (some 10) rfl (by kernel_rfl) (by kernel_rfl) (by kernel_rfl) (fun _ _ _ h => h) (by kernel_rfl) (Or.inl ⟨by kernel_rfl, ?_⟩) (by assumption) ?_
    rotate_left
    · (intro w hSw; (try dsimp only at hSw); go_simp <;> with_reducible rfl)
    simp only [Act.put, List.setIfInBounds_toArray, List.set_cons_zero, List.set_cons_succ]
    refine wpAnyH_ready (rs := [3, 4]) (by kernel_rfl) (by simp) ?_
    refine AllReadyH.cons rfl (fun K hK => ?_) (AllReadyH.cons rfl (fun K hK => ?_) AllReadyH.nil)
    · go_simp
      clear hHeld
      refine hK.out _ _ (KS.out _ (below_drew ((Below.refl w1.heap.size w1).alloc (Nat.le_refl _) _))) (fun hHeld => ?_)
      clear hK K
      try simp only [Act.put, List.setIfInBounds_toArray, List.set_cons_zero, List.set_cons_succ]
      refine wpAnyH_ready (rs := [4]) (by kernel_rfl) (by simp) ?_
      refine AllReadyH.cons rfl (fun K hK => ?_) AllReadyH.nil
      go_simp
      clear hHeld
      refine hK.out _ _ (KS.out _ (below_drew (((Below.refl w1.heap.size w1).alloc (Nat.le_refl _) _).alloc (by simp) _))) (fun hHeld => ?_)
      clear hK K
      try simp only [Act.put, List.setIfInBounds_toArray, List.set_cons_zero, List.set_cons_succ]
      refine wpAnyH_ready (rs := [5]) (by kernel_rfl) (by simp) ?_
      refine AllReadyH.cons rfl (fun K hK => ?_) AllReadyH.nil
      go_simp
      clear hHeld
      refine hK.out _ _ (KS.out _ (below_drew (((Below.refl w1.heap.size w1).alloc (Nat.le_refl _) _).alloc (by simp) _))) (fun hHeld => ?_)
      clear hK K
      try simp only [Act.put, List.setIfInBounds_toArray, List.set_cons_zero, List.set_cons_succ]
      refine wpAnyH_ready (rs := [6]) (by kernel_rfl) (by simp) ?_
      refine AllReadyH.cons rfl (fun K hK => ?_) AllReadyH.nil
      go_simp
      clear hHeld
      refine hK.out _ _ (KS.out _ (below_drew (((Below.refl w1.heap.size w1).alloc (Nat.le_refl _) _).alloc (by simp) _))) (fun hHeld => ?_)
      clear hK K
      try simp only [Act.put, List.setIfInBounds_toArray, List.set_cons_zero, List.set_cons_succ]
      refine wpAnyH_done (by kernel_rfl) ?_ _
      have e1 := (Boxed.new w1 22 (.int .u32 0)).alloc (.cells #[.int .i64 (p.us.length : Int)] 3)
      have e2 := Boxed.new (w1.alloc (.cells #[.int .u32 0] 22)) 3 (.int .i64 (p.us.length : Int))
      rw [World.size_alloc] at e2
      rw [hsY] at e1 e2
      exact hT _ _ _ _ _ _ (below_drew (((Below.refl w1.heap.size w1).alloc (Nat.le_refl _) _).alloc (by simp) _)) e1 e2 (by omega) (by omega) (by omega)
    · go_simp
      clear hHeld
      refine hK.out _ _ (KS.out _ (below_drew ((Below.refl w1.heap.size w1).alloc (Nat.le_refl _) _))) (fun hHeld => ?_)
      clear hK K
      try simp only [Act.put, List.setIfInBounds_toArray, List.set_cons_zero, List.set_cons_succ]
      refine wpAnyH_ready (rs := [3]) (by kernel_rfl) (by simp) ?_
      refine AllReadyH.cons rfl (fun K hK => ?_) AllReadyH.nil
      go_simp
      clear hHeld
      refine hK.out _ _ (KS.out _ (below_drew (((Below.refl w1.heap.size w1).alloc (Nat.le_refl _) _).alloc (by simp) _))) (fun hHeld => ?_)
      clear hK K
      try simp only [Act.put, List.setIfInBounds_toArray, List.set_cons_zero, List.set_cons_succ]
      refine wpAnyH_ready (rs := [5]) (by kernel_rfl) (by simp) ?_
      refine AllReadyH.cons rfl (fun K hK => ?_) AllReadyH.nil
      go_simp
      clear hHeld
      refine hK.out _ _ (KS.out _ (below_drew (((Below.refl w1.heap.size w1).alloc (Nat.le_refl _) _).alloc (by simp) _))) (fun hHeld => ?_)
      clear hK K
      try simp only [Act.put, List.setIfInBounds_toArray, List.set_cons_zero, List.set_cons_succ]
      refine wpAnyH_ready (rs := [6]) (by kernel_rfl) (by simp) ?_
      refine AllReadyH.cons rfl (fun K hK => ?_) AllReadyH.nil
      go_simp
      clear hHeld
      refine hK.out _ _ (KS.out _ (below_drew (((Below.refl w1.heap.size w1).alloc (Nat.le_refl _) _).alloc (by simp) _))) (fun hHeld => ?_)
      clear hK K
      try simp only [Act.put, List.setIfInBounds_toArray, List.set_cons_zero, List.set_cons_succ]
      refine wpAnyH_done (by kernel_rfl) ?_ _
      have e1 := (Boxed.new w1 3 (.int .i64 (p.us.length : Int))).alloc (.cells #[.int .u32 0] 22)
      have e2 := Boxed.new (w1.alloc (.cells #[.int .i64 (p.us.length : Int)] 3)) 22 (.int .u32 0)
      rw [World.size_alloc] at e2
      rw [hsY] at e1 e2
      exact hT _ _ _ _ _ _ (below_drew (((Below.refl w1.heap.size w1).alloc (Nat.le_refl _) _).alloc (by simp) _)) e2 e1 (by omega) (by omega) (by omega)
  · intro u8 u9 u10 gN gL W0 hB0 xN xL hgN hgL hNL
    have hs0 := hB0.size
    have h9 : W0.cell? ⟨Bp, 9, none⟩ = some (.slice A p.us.length c) := (hB0.cell (by show Bp < w1.heap.size; omega)).trans r9
    have hBn0 : W0.cell? ⟨Bn, 0, none⟩ = some (.int .i64 (n : Int)) := (hB0.cell (by show Bn < w1.heap.size; have := hBn.lt; omega)).trans ((bY.cell hBn.lt).trans cBn)
    simp only [onlyN]
    gi_wp2_with fail
    refine ⟨trivial, (schunk_in _ _ _ _ _ (by omega) _).mono ?_⟩
    rintro e w2 ⟨rfl, rfl⟩
    have hB2 : Below W0.heap.size W0 ((W0.alloc (.cells #[.slice A p.us.length c] 24)).alloc (.cells #[.int .i64 (n : Int)] 3)) := ((Below.refl _ W0).alloc (Nat.le_refl _) _).alloc (by simp) _
    have s0 := (Boxed.new W0 24 (.slice A p.us.length c)).alloc (.cells #[.int .i64 (n : Int)] 3)
    have s1 := Boxed.new (W0.alloc (.cells #[.slice A p.us.length c] 24)) 3 (.int .i64 (n : Int))
    rw [World.size_alloc] at s1
    have hs2 : ((W0.alloc (.cells #[.slice A p.us.length c] 24)).alloc (.cells #[.int .i64 (n : Int)] 3)).heap.size = W0.heap.size + 2 := by simp
    gi_wp2_with fail
    generalize (W0.alloc (.cells #[.slice A p.us.length c] 24)).alloc (.cells #[.int .i64 (n : Int)] 3) = W2 at *
    have hxN := boxed_lt xN
    have hxL := boxed_lt xL
    have b02 : Below w1.heap.size w1 W2 := hB0.trans (hB2.mono hs0)
    have bW2 : Below W.heap.size W W2 := bY.trans (b02.mono (by omega))
    have hG2 : ∀ i, G W2 i → i < W.heap.size := fun i hi => hJG _ _ h0 i (hGo _ _ none (Nat.le_refl _) (grown_of_below bW2) (fun r e => by cases e) i hi)
    have hG2' : ∀ i, G W2 i → G W i := hGo _ _ none (Nat.le_refl _) (grown_of_below bW2) (fun r e => by cases e)
    have hGo2 : GOwnN W2.heap.size G := fun A B row hA hg hr => hGo A B row (by omega) hg fun r e => ⟨by have := (hr r e).1; omega, (hr r e).2⟩
    have hI0 : PcI p A c n G J l W.heap.size gN gL Bp W2.heap.size [] W2 := ⟨hJo _ _ _ none h0 (grown_of_below bW2) (fun r e => by cases e), Whole.below yY b02 (by show W.heap.size < w1.heap.size; omega), fun h => Nat.lt_irrefl _ (hG2 _ h), Whole.below xN hB2 hxN, fun h => by have := hG2 _ h; omega,
      by rw [show p.us.length - ([] : List Nat).length * n = p.us.length by simp]; exact Whole.below xL hB2 hxL, fun h => by have := hG2 _ h; omega, hBp.below bW2 hBplt, fun h => gBp (hG2' _ h), Nat.le_refl _, by omega, by omega⟩
    have hIo : OwnFrom W2.heap.size (PcI p A c n G J l W.heap.size gN gL Bp W2.heap.size) := pcI_own hGo2 (ownFrom_wider13 hJo (by omega)) (Nat.le_refl _)
    have hIxo : OwnFrom W2.heap.size (PcX Jx) := pcX_own (ownFrom_wider13 hJxo (by omega)) (Nat.le_refl _)
    have HX := Lib.hid (show W.heap.size ≤ gN ∧ W.heap.size ≤ gL by omega)
    clear q0 q1 q2 q3 q4 q5 q6 q7 q8 q9 r9 h9 hBn0
    refine each_leave .ret (F := Fence.wide) (n := 5) (P := Tryz.prog) rfl (by omega) (gf := 167) (lb := #[.pointer (some ⟨W0.heap.size, 0, none⟩), .pointer (some ⟨W0.heap.size + 1, 0, none⟩)]) rfl trivial (enters_of Tryz.func167 (by kernel_rfl) rfl)
      (encs := encCh A n p.us.length) (Kp := KpG (PcG G gN gL) n₀) (G := PcG G gN gL) (Row := fun pre _ x => RowCh n p.us.length pre x) (Fin := FinCh n p.us.length) (FinX := fun q => RowCh n p.us.length q.1 q.2) (N := N) ?hseq (fun _ => rfl)
      KpG.trans ?hKb (PcI p A c n G J l W.heap.size gN gL Bp W2.heap.size) hIo (PcX Jx) hIxo hI0 ?hG
      (fun pre x a' V => a' = { tmps := #[.func (.yield l) #[] #[], .pointer (some ⟨Bp, 0, none⟩), .pointer (some ⟨Bn, 0, none⟩), .pointer (some ⟨W.heap.size, 0, none⟩), .pointer (some ⟨gN, 0, none⟩), .pointer (some ⟨gL, 0, none⟩), .slice (A.map (·.add x)) (min n (p.us.length - x)) (min n (p.us.length - x)), undef, u8, u9, u10, .pointer (some ⟨Bp, 9, none⟩), .slice A p.us.length c, .int .i64 (n : Int), .func (.func 167) #[] #[.pointer (some ⟨W0.heap.size, 0, none⟩), .pointer (some ⟨W0.heap.size + 1, 0, none⟩)], .slice (A.map (·.add x)) (min n (p.us.length - x)) (min n (p.us.length - x)), undef, undef, undef, undef, undef, undef, undef, undef, undef, undef, undef, undef, undef, undef, undef, undef, undef, undef, undef, undef, undef, undef, undef, undef, undef, undef, undef, undef, undef, undef, undef, undef], defers := [] } ∧
        PcI p A c n G J l W.heap.size gN gL Bp W2.heap.size pre V ∧ RowCh n p.us.length pre x) ?hAx
      ?assign ?body ?done ?stop
    case hseq =>
      intro l' J' Jx' V hV hJo' hJxo' hJG' hY' hj'
      have hVs := hV.size
      exact chunk1_in 4 (by omega) l' W0.heap.size (W0.heap.size + 1) n₀ W2.heap.size A p.us.length c n hn1 hn2 hcc hm (by omega) (fun _ => hA) (PcG G gN gL) (pcG_own hGo2) J' Jx' (fun s A B h hg => hJo' s A B none h hg (fun r e => by cases e))
        (fun pre x W1 h1 h2 h3 => by
          obtain ⟨fn, tmps, assign, body, hy, hR⟩ := hY' pre x W1 h1 (by omega) h3
          exact ⟨fn, tmps, assign, body, hy, hR.mono fun e w' h => h.1⟩) V (by omega) (Whole.below s0 hV (by omega)) (fun h => by rcases pcG_own hGo2 _ _ none (Nat.le_refl _) (grown_of_below hV) (fun r e => by cases e) _ h with h | h | h <;> first | (have := hG2 _ h; omega) | omega)
        (Whole.below s1 hV (by omega)) (fun h => by rcases pcG_own hGo2 _ _ none (Nat.le_refl _) (grown_of_below hV) (fun r e => by cases e) _ h with h | h | h <;> first | (have := hG2 _ h; omega) | omega) hj'
    case hKb =>
      intro V l' o o' hl ho hoc
      have hlt := (Array.getElem?_eq_some_iff.1 ho).1
      refine ⟨(Below.refl _ V).grown (grownBy_putObj' V l' o') (by omega) (fun k e => by cases e; omega), fun i cs t z _ hi => ?_, fun i _ hi => pcG_own hGo2 _ _ (some l') (by omega) (grownBy_putObj' V l' o') (fun r e => by cases e; exact ⟨by omega, o, ho, hoc⟩) i hi⟩
      rw [World.putObj_heap_other (fun e => ?_)]
      · exact hi
      · subst e
        rw [hi] at ho
        cases ho
        cases hoc
    case hG =>
      rintro s V h i (hi | hi | hi)
      · exact hJG _ _ h.j i hi
      · subst hi; exact boxed_lt h.num
      · subst hi; exact boxed_lt h.left
    case hAx =>
      rintro pre x a' s X Y row ⟨ha, hi, hr1⟩ hg hr
      exact ⟨ha, hIo _ _ _ _ hi hg hr, hr1⟩
    case assign =>
      intro l' pre x V K hi hrx hK
      simp only [encCh]
      gi_wp2
      exact hK _ _ (KeepsFrom.refl _ _) (KpG.refl _ _ _) ⟨rfl, hi, hrx⟩
    case done =>
      rintro D xs V hD hF hi hKD
      have hj := hi.j
      gi_wp2_with fail
      refine ⟨by simp, .inl ⟨_, _, rfl, run_takeDeferred hKD, ?_⟩⟩
      refine ⟨_, results_none rfl _ _ _, ?_⟩
      exact ⟨⟨_, rfl⟩, .inl ⟨List.range xs.length, by unfold FinPc; rw [List.length_range]; exact hF, hJo.putObj _ hj (by omega) hKD rfl⟩⟩
    case stop =>
      rintro D q V hD hF hi hKD
      gi_wp2_with fail
      refine ⟨by simp, .inl ⟨_, _, rfl, run_takeDeferred hKD, ?_⟩⟩
      refine ⟨_, results_none rfl _ _ _, ?_⟩
      obtain ⟨h1, h2⟩ := hF
      exact ⟨⟨_, rfl⟩, .inr ⟨(List.range q.1.length, q.1.length), ⟨by simp, by rw [← h1]; exact h2⟩, hJxo.putObj _ hi (by omega) hKD rfl⟩⟩
    case body =>
      rintro l' pre x a' V ⟨rfl, hi, hr1, hr2⟩ hlen
      obtain ⟨j, hj⟩ : ∃ j, j = pre.length := ⟨_, rfl⟩
      obtain ⟨r, hrr⟩ : ∃ r, r = p.us.length - x := ⟨_, rfl⟩
      obtain ⟨e, hee⟩ : ∃ e, e = min n r := ⟨_, rfl⟩
      obtain ⟨y, hyy⟩ : ∃ y, y = r - e := ⟨_, rfl⟩
      have hj5 : j ≤ 65535 := by
        have : pre.length ≤ pre.length * n := Nat.le_mul_of_pos_right _ hn1
        omega
      have i1 : (1 : Int) ≤ (e : Int) := by omega
      have i2 : (e : Int) ≤ (r : Int) := by omega
      have i3 : (r : Int) - (e : Int) = (y : Int) := by omega
      have i4 : (r : Int) ≤ 65535 := by omega
      have hi0 := hi
      have hlft := hi.left
      have hnum := hi.num
      rw [← hr1, ← hrr] at hlft
      rw [← hj] at hnum
      have cL := hlft.cell
      have fL := hlft.frozen
      have HJ := Lib.hid hj; have HR := Lib.hid hrr; have HE := Lib.hid hee; have HY := Lib.hid hyy; have HR1 := Lib.hid hr1; have HR2 := Lib.hid hr2
      rw [← hrr, ← hee]
      clear hj hrr hee hyy hr1 hr2
      gi_upto_region 5 with fail
      have pt1 : Whole (V.setCell ⟨gL, 0, none⟩ (.int .i64 (y : Int))) Bp 34 (ptCells p A c) := hi0.pt.far hi0.ne.2.2.2.2.1 _
      have num1 : Boxed (V.setCell ⟨gL, 0, none⟩ (.int .i64 (y : Int))) gN 22 (.int .u32 (j : Int)) := hnum.other hi0.ne.2.2.1 _
      have left1 : Boxed (V.setCell ⟨gL, 0, none⟩ (.int .i64 (y : Int))) gL 3 (.int .i64 (y : Int)) := hlft.set _
      have yv1 : Boxed (V.setCell ⟨gL, 0, none⟩ (.int .i64 (y : Int))) W.heap.size 100 (.func (.yield l) #[] #[]) := hi0.y.other hi0.ne.2.1 _
      have hsV1 : (V.setCell ⟨gL, 0, none⟩ (.int .i64 (y : Int))).heap.size = V.heap.size := by simp
      have hVz := hi0.sz
      have hjV : J (List.range j) V := by rw [HJ.out]; exact hi0.j
      have hlt : ∀ i, G V i → i < V.heap.size := hJG _ _ hjV
      have K0 : PcK W.heap.size n₀ gL G (J (List.range j)) V V := PcK.refl hjV
      have KS := fun {U : World} (h : PcK W.heap.size n₀ gL G (J (List.range j)) V U) {b : Nat} (i : Nat) {t : TypeId} {cs : Array Value} (hb : Whole U b t cs) (ht : t ≠ 5) (hc : b = gL ∨ V.heap.size ≤ b) (u : Value) => PcK.set (i := i) hJk hGk hlt hi0.nl (by omega) (by omega) HX.out.2 (by omega) h hb ht hc u
      have K1 := KS K0 0 hlft (by decide) (.inl rfl) (.int .i64 (y : Int))
      generalize V.setCell ⟨gL, 0, none⟩ (.int .i64 (y : Int)) = V1 at *
      obtain ⟨q0, q1, q2, q3, q4, q5, q6, q7, q8, q9⟩ := pt1.cs10
      have hb2 : Below V1.heap.size V1 (V1.alloc (.cells (ptCells p A c) 34)) := (Below.refl _ _).alloc (Nat.le_refl _) _
      have px2 := Whole.new V1 34 (ptCells p A c)
      have hsV2 : (V1.alloc (.cells (ptCells p A c) 34)).heap.size = V1.heap.size + 1 := by simp
      rw [hsV1] at px2 hsV2
      clear hi hnum hlft cL fL i1 i2 i3
      gi_upto_region 6 with fail
      have pt2 := pt1.alloc (.cells (ptCells p A c) 34)
      have num2 : Boxed (V1.alloc (.cells (ptCells p A c) 34)) gN 22 (.int .u32 (j : Int)) := Boxed.alloc num1 _
      have left2 : Boxed (V1.alloc (.cells (ptCells p A c) 34)) gL 3 (.int .i64 (y : Int)) := Boxed.alloc left1 _
      have yv2 : Boxed (V1.alloc (.cells (ptCells p A c) 34)) W.heap.size 100 (.func (.yield l) #[] #[]) := Boxed.alloc yv1 _
      have K2 := PcK.grow hJo hGo (by omega) (by omega) K1 (show Below V1.heap.size V1 (V1.alloc (.cells (ptCells p A c) 34)) from (Below.refl _ _).alloc (Nat.le_refl _) _) (by omega)
      have hne2 : gN ≠ V.heap.size ∧ gL ≠ V.heap.size ∧ Bp ≠ V.heap.size ∧ W.heap.size ≠ V.heap.size := by
        have h1 := boxed_lt hi0.num; have h2 := boxed_lt hi0.left; have h3 := hi0.pt.lt; have h4 := boxed_lt hi0.y
        omega
      generalize hV2 : V1.alloc (.cells (ptCells p A c) 34) = V2 at *
      clear q0 q1 q2 q3 q4 q5 q6 q7 q8 q9
      obtain ⟨q0, q1, q2, q3, q4, q5, q6, q7, q8, q9⟩ := px2.cs10
      have f1 := px2.frozen 1
      have cN := num2.cell
      generalize hg : V.heap.size = g at *
      gi_upto_region 7 with fail
      have hTS : Value.int .u32 (((p.tsn.toNat : Int) + (j : Int)) % 4294967296) = uv (p.tsn + UInt32.ofNat j) := by
        rw [uv, UInt32.toNat_add, UInt32.toNat_ofNat', Nat.mod_eq_of_lt (by omega : j < 2 ^ 32)]
        congr 1
      rw [hTS]
      have num3 : Boxed (V2.setCell ⟨g, 1, none⟩ (uv (p.tsn + UInt32.ofNat j))) gN 22 (.int .u32 (j : Int)) := Whole.far num2 hne2.1 _
      have left3 : Boxed (V2.setCell ⟨g, 1, none⟩ (uv (p.tsn + UInt32.ofNat j))) gL 3 (.int .i64 (y : Int)) := Whole.far left2 hne2.2.1 _
      have yv3 : Boxed (V2.setCell ⟨g, 1, none⟩ (uv (p.tsn + UInt32.ofNat j))) W.heap.size 100 (.func (.yield l) #[] #[]) := Whole.far yv2 hne2.2.2.2 _
      have pt3 : Whole (V2.setCell ⟨g, 1, none⟩ (uv (p.tsn + UInt32.ofNat j))) Bp 34 (ptCells p A c) := pt2.far hne2.2.2.1 _
      have px3 : Whole (V2.setCell ⟨g, 1, none⟩ (uv (p.tsn + UInt32.ofNat j))) g 34 #[.bool p.inter, uv (p.tsn + UInt32.ofNat j), hv p.st, uv p.sq, uv p.pr, .bool p.bg, .bool p.en, .bool p.un, .bool p.nw, .slice A p.us.length c] := px2.set_ 1 _
      have hsV3 : (V2.setCell ⟨g, 1, none⟩ (uv (p.tsn + UInt32.ofNat j))).heap.size = V2.heap.size := by simp
      have K3 := KS K2 1 px2 (by decide) (.inr (by omega)) (uv (p.tsn + UInt32.ofNat j))
      generalize V2.setCell ⟨g, 1, none⟩ (uv (p.tsn + UInt32.ofNat j)) = V3 at *
      clear q0 q1 q2 q3 q4 q5 q6 q7 q8 q9 f1 cN hTS num2 left2 yv2 pt2 px2 num1 left1 yv1 pt1
      have k5 := px3.cell 5
      have k6 := px3.cell 6
      have f5 := px3.frozen 5
      have f6 := px3.frozen 6
      simp only [List.getElem?_toArray, List.getElem?_cons_succ, List.getElem?_cons_zero] at k5 k6
      refine region_round_held (S := (fun V => V.cell? ⟨gN, 0, none⟩ = some (.int .u32 (j : Int)) ∧ V.cell? ⟨gL, 0, none⟩ = some (.int .i64 (y : Int)))) (by kernel_rfl) (by kernel_rfl) (by rintro ⟨a, w, h⟩; exact h) ⟨num3.cell, left3.cell⟩ (fun hHeld => ?_)
      refine take_at (i := 0) (v := ?_) (some 26) rfl (by kernel_rfl) (by kernel_rfl) (by kernel_rfl) (fun _ _ _ h => h) (by kernel_rfl) (Or.inl ⟨by kernel_rfl, ?_⟩) (by assumption) ?_
      rotate_left
      · (intro w hSw; (try dsimp only at hSw); go_simp <;> with_reducible rfl)
      simp only [Act.put, List.setIfInBounds_toArray, List.set_cons_zero, List.set_cons_succ]
      refine take_at (i := 1) (v := ?_) (some 27) rfl (by kernel_rfl) (by kernel_rfl) (by kernel_rfl) (fun _ _ _ h => h) (by kernel_rfl) (Or.inl ⟨by kernel_rfl, ?_⟩) (by assumption) ?_
      rotate_left
      · (intro w hSw; (try dsimp only at hSw); go_simp <;> with_reducible rfl)
      simp only [Act.put, List.setIfInBounds_toArray, List.set_cons_zero, List.set_cons_succ]
      refine take_at (i := 2) (v := ?_) (some 28) rfl (by kernel_rfl) (by kernel_rfl) (by kernel_rfl) (fun _ _ _ h => h) (by kernel_rfl) (Or.inl ⟨by kernel_rfl, ?_⟩) (by assumption) ?_
      rotate_left
      · (intro w hSw; (try dsimp only at hSw); go_simp <;> with_reducible rfl)
      simp only [Act.put, List.setIfInBounds_toArray, List.set_cons_zero, List.set_cons_succ]
      refine take_at (i := 3) (v := ?_) (some 29) rfl (by kernel_rfl) (by kernel_rfl) (by kernel_rfl) (fun _ _ _ h => h) (by kernel_rfl) (Or.inl ⟨by kernel_rfl, ?_⟩) (by assumption) ?_
      rotate_left
      · (intro w hSw; (try dsimp only at hSw); go_simp <;> with_reducible rfl)
      simp only [Act.put, List.setIfInBounds_toArray, List.set_cons_zero, List.set_cons_succ]
      refine take_at (i := 4) (v := ?_) (some 30) rfl (by kernel_rfl) (by kernel_rfl) (by kernel_rfl) (fun _ _ _ h => h) (by kernel_rfl) (Or.inl ⟨by kernel_rfl, ?_⟩) (by assumption) ?_
      rotate_left
      · (intro w hSw; (try dsimp only at hSw); go_simp <;> with_reducible rfl)
      simp only [Act.put, List.setIfInBounds_toArray, List.set_cons_zero, List.set_cons_succ]
      refine wpAnyH_ready (rs := [5]) (by kernel_rfl) (by simp) ?_
      refine AllReadyH.cons rfl (fun K hK => ?_) AllReadyH.nil
      go_simp
      clear hHeld
      refine hK.out _ _ (⟨(Boxed.cell (Whole.far (Whole.drew num3) hne2.1 _)), (Boxed.cell (Whole.far (Whole.drew left3) hne2.2.1 _))⟩) (fun hHeld => ?_)
      clear hK K
      try simp only [Act.put, List.setIfInBounds_toArray, List.set_cons_zero, List.set_cons_succ]
      refine take_at (i := 6) (v := ?_) (some 31) rfl (by kernel_rfl) (by kernel_rfl) (by kernel_rfl) (fun _ _ _ h => h) (by kernel_rfl) (Or.inl ⟨by kernel_rfl, ?_⟩) (by assumption) ?_
      rotate_left
      · (intro w hSw; (try dsimp only at hSw); go_simp <;> with_reducible rfl)
      simp only [Act.put, List.setIfInBounds_toArray, List.set_cons_zero, List.set_cons_succ]
      refine wpAnyH_ready (rs := [7]) (by kernel_rfl) (by simp) ?_
      refine AllReadyH.cons rfl (fun K hK => ?_) AllReadyH.nil
      go_simp
      clear hHeld
      refine hK.out _ _ (⟨(Boxed.cell (Whole.far (Whole.far (Whole.drew num3) hne2.1 _) hne2.1 _)), (Boxed.cell (Whole.far (Whole.far (Whole.drew left3) hne2.2.1 _) hne2.2.1 _))⟩) (fun hHeld => ?_)
      clear hK K
      try simp only [Act.put, List.setIfInBounds_toArray, List.set_cons_zero, List.set_cons_succ]
      refine wpAnyH_done (by kernel_rfl) ?_ _
      skip
      have K4 := PcK.grow hJo hGo (by omega) (by omega) (KS (KS K3 5 px3 (by decide) (.inr (by omega)) (.bool ((j : Int) == 0))) 6 (px3.set_ 5 _) (by decide) (.inr (by omega)) (.bool ((y : Int) == 0))) (below_drew (Below.refl _ _)) (by simp; omega)
      have px4 : Whole ((V3.setCell ⟨g, 5, none⟩ (.bool ((j : Int) == 0))).setCell ⟨g, 6, none⟩ (.bool ((y : Int) == 0))).drew g 34 #[.bool p.inter, uv (p.tsn + UInt32.ofNat j), hv p.st, uv p.sq, uv p.pr, .bool ((j : Int) == 0), .bool ((y : Int) == 0), .bool p.un, .bool p.nw, .slice A p.us.length c] := Whole.drew ((px3.set_ 5 _).set_ 6 _)
      have num4 : Boxed ((V3.setCell ⟨g, 5, none⟩ (.bool ((j : Int) == 0))).setCell ⟨g, 6, none⟩ (.bool ((y : Int) == 0))).drew gN 22 (.int .u32 (j : Int)) := Whole.drew (Whole.far (Whole.far num3 hne2.1 _) hne2.1 _)
      have left4 : Boxed ((V3.setCell ⟨g, 5, none⟩ (.bool ((j : Int) == 0))).setCell ⟨g, 6, none⟩ (.bool ((y : Int) == 0))).drew gL 3 (.int .i64 (y : Int)) := Whole.drew (Whole.far (Whole.far left3 hne2.2.1 _) hne2.2.1 _)
      have yv4 : Boxed ((V3.setCell ⟨g, 5, none⟩ (.bool ((j : Int) == 0))).setCell ⟨g, 6, none⟩ (.bool ((y : Int) == 0))).drew W.heap.size 100 (.func (.yield l) #[] #[]) := Whole.drew (Whole.far (Whole.far yv3 hne2.2.2.2 _) hne2.2.2.2 _)
      have pt4 : Whole ((V3.setCell ⟨g, 5, none⟩ (.bool ((j : Int) == 0))).setCell ⟨g, 6, none⟩ (.bool ((y : Int) == 0))).drew Bp 34 (ptCells p A c) := Whole.drew (Whole.far (Whole.far pt3 hne2.2.2.1 _) hne2.2.2.1 _)
      have hsV4 : ((V3.setCell ⟨g, 5, none⟩ (.bool ((j : Int) == 0))).setCell ⟨g, 6, none⟩ (.bool ((y : Int) == 0))).drew.heap.size = V3.heap.size := by simp
      generalize ((V3.setCell ⟨g, 5, none⟩ (.bool ((j : Int) == 0))).setCell ⟨g, 6, none⟩ (.bool ((y : Int) == 0))).drew = V4 at *
      clear k5 k6 f5 f6 px3 num3 left3 yv3 pt3
      have HLY : Hid (p.us.length - (j + 1) * n = y) := by
        unfold Hid
        have h1 := HR1.out; have h2 := HR.out; have h3 := HE.out; have h4 := HY.out
        rw [← HJ.out] at h1
        rw [Nat.add_mul, Nat.one_mul, ← h1]
        omega
      have hn₀gN : n₀ ≤ gN := by omega
      have cI : V4.cell? ⟨Bp, 0, none⟩ = some (.bool p.inter) := by rw [pt4.cell]; rfl
      have cN4 := num4.cell
      have c4 : V4.cell? ⟨g, 4, none⟩ = some (uv p.pr) := by rw [px4.cell]; rfl
      have c9 : V4.cell? ⟨g, 9, none⟩ = some (.slice A p.us.length c) := by rw [px4.cell]; rfl
      have f4 := px4.frozen 4
      have f9 := px4.frozen 9
      cases hin : p.inter with
      | false =>
        rw [hin] at cI
        gi_upto_region 11 with fail
        have px6 : Whole (V4.setCell ⟨g, 9, none⟩ (.slice (A.map (·.add x)) e e)) g 34 #[.bool p.inter, uv (p.tsn + UInt32.ofNat j), hv p.st, uv p.sq, uv p.pr, .bool ((j : Int) == 0), .bool ((y : Int) == 0), .bool p.un, .bool p.nw, .slice (A.map (·.add x)) e e] := px4.set_ 9 _
        have left6 : Boxed (V4.setCell ⟨g, 9, none⟩ (.slice (A.map (·.add x)) e e)) gL 3 (.int .i64 (y : Int)) := Whole.far left4 hne2.2.1 _
        have yv6 : Boxed (V4.setCell ⟨g, 9, none⟩ (.slice (A.map (·.add x)) e e)) W.heap.size 100 (.func (.yield l) #[] #[]) := Whole.far yv4 hne2.2.2.2 _
        have K6 := KS K4 9 px4 (by decide) (.inr (by omega)) (.slice (A.map (·.add x)) e e)
        have hsV6 : (V4.setCell ⟨g, 9, none⟩ (.slice (A.map (·.add x)) e e)).heap.size = V4.heap.size := by simp
        have n6 : Boxed (V4.setCell ⟨g, 9, none⟩ (.slice (A.map (·.add x)) e e)) gN 22 (.int .u32 (j : Int)) := Whole.far num4 hne2.1 _
        generalize (V4.setCell ⟨g, 9, none⟩ (.slice (A.map (·.add x)) e e)) = V6 at *
        clear px4 num4 left4 yv4 pt4 K4 c4 f4 c9 f9 cI cN4
        obtain ⟨q0, q1, q2, q3, q4, q5, q6, q7, q8, q9⟩ := px6.cs10
        have cY := yv6.cell
        have hY6 := hY (List.range j) j V6 K6.j (by rw [List.length_range]; omega) ⟨(List.length_range).symm, by rw [HJ.out, ← HR1.out]; exact HR2.out⟩
        rw [encPc_of p A n j x r e y hj5 (by rw [HJ.out]; exact HR1.out) HR.out HE.out HY.out HR2.out (uv p.pr) (by unfold pieceP; simp [hin])] at hY6
        obtain ⟨fn, tmps, assign, body, hy, hR⟩ := hY6
        simp only [hin] at hy
        gi_wp2_with fail
        refine (roundIn_wide13 hR).mono ?_
        rintro e9 w7 ⟨⟨rfl, hj7, hk7⟩ | ⟨rfl, hx7⟩, hkf⟩
        · have num7 : Boxed w7 gN 22 (.int .u32 (j : Int)) := hk7.same _ _ _ _ (fun h => hi0.nn (K6.g _ h)) n6
          have hne := pc_next x hJk hGk hi0 (by rw [← HJ.out]; exact K6) (by omega) (by rw [← HJ.out]; exact hj7) hk7 hkf (by rw [← HJ.out, HLY.out]; exact left6) HX.out.1 (by omega) (by omega)
          rw [← HJ.out] at hne
          have d0 := num7.cell
          have d1 := num7.frozen
          have hj1 : (j : Int) + 1 < 4294967296 := by omega
          have hne := Lib.hid hne
          clear q0 q1 q2 q3 q4 q5 q6 q7 q8 q9 cY hj7 hk7 hkf num7 hR hy
          gi_wp2_with fail
          have e1 : ((j + 1 : Nat) : Int) = (j : Int) + 1 := by omega
          have e2 := hne.out
          rw [e1] at e2
          exact e2
        · have hkV := (PcK.kf K6 (by omega) hi0.left W2.heap.size).trans (⟨hkf.size, fun k o hk ho => hkf.same k o (by omega) ho⟩ : KeepsFrom W2.heap.size V6 w7)
          rw [HJ.out] at hx7
          gi_wp2_with fail
          exact ⟨rfl, hkV, hx7⟩
      | true =>
        rw [hin] at cI
        by_cases hj0 : j = 0
        · have hgt : ¬ (0 : Int) < (j : Int) := by omega
          have HJ0 := Lib.hid hj0
          clear hj0
          gi_upto_region 11 with fail
          have px6 : Whole (V4.setCell ⟨g, 9, none⟩ (.slice (A.map (·.add x)) e e)) g 34 #[.bool p.inter, uv (p.tsn + UInt32.ofNat j), hv p.st, uv p.sq, uv p.pr, .bool ((j : Int) == 0), .bool ((y : Int) == 0), .bool p.un, .bool p.nw, .slice (A.map (·.add x)) e e] := px4.set_ 9 _
          have left6 : Boxed (V4.setCell ⟨g, 9, none⟩ (.slice (A.map (·.add x)) e e)) gL 3 (.int .i64 (y : Int)) := Whole.far left4 hne2.2.1 _
          have yv6 : Boxed (V4.setCell ⟨g, 9, none⟩ (.slice (A.map (·.add x)) e e)) W.heap.size 100 (.func (.yield l) #[] #[]) := Whole.far yv4 hne2.2.2.2 _
          have K6 := KS K4 9 px4 (by decide) (.inr (by omega)) (.slice (A.map (·.add x)) e e)
          have hsV6 : (V4.setCell ⟨g, 9, none⟩ (.slice (A.map (·.add x)) e e)).heap.size = V4.heap.size := by simp
          have n6 : Boxed (V4.setCell ⟨g, 9, none⟩ (.slice (A.map (·.add x)) e e)) gN 22 (.int .u32 (j : Int)) := Whole.far num4 hne2.1 _
          generalize (V4.setCell ⟨g, 9, none⟩ (.slice (A.map (·.add x)) e e)) = V6 at *
          clear px4 num4 left4 yv4 pt4 K4 c4 f4 c9 f9 cI cN4
          obtain ⟨q0, q1, q2, q3, q4, q5, q6, q7, q8, q9⟩ := px6.cs10
          have cY := yv6.cell
          have hY6 := hY (List.range j) j V6 K6.j (by rw [List.length_range]; omega) ⟨(List.length_range).symm, by rw [HJ.out, ← HR1.out]; exact HR2.out⟩
          rw [encPc_of p A n j x r e y hj5 (by rw [HJ.out]; exact HR1.out) HR.out HE.out HY.out HR2.out (uv p.pr) (by unfold pieceP; simp [HJ0.out])] at hY6
          obtain ⟨fn, tmps, assign, body, hy, hR⟩ := hY6
          simp only [hin] at hy
          gi_wp2_with fail
          refine (roundIn_wide13 hR).mono ?_
          rintro e9 w7 ⟨⟨rfl, hj7, hk7⟩ | ⟨rfl, hx7⟩, hkf⟩
          · have num7 : Boxed w7 gN 22 (.int .u32 (j : Int)) := hk7.same _ _ _ _ (fun h => hi0.nn (K6.g _ h)) n6
            have hne := pc_next x hJk hGk hi0 (by rw [← HJ.out]; exact K6) (by omega) (by rw [← HJ.out]; exact hj7) hk7 hkf (by rw [← HJ.out, HLY.out]; exact left6) HX.out.1 (by omega) (by omega)
            rw [← HJ.out] at hne
            have d0 := num7.cell
            have d1 := num7.frozen
            have hj1 : (j : Int) + 1 < 4294967296 := by omega
            have hne := Lib.hid hne
            clear q0 q1 q2 q3 q4 q5 q6 q7 q8 q9 cY hj7 hk7 hkf num7 hR hy
            gi_wp2_with fail
            have e1 : ((j + 1 : Nat) : Int) = (j : Int) + 1 := by omega
            have e2 := hne.out
            rw [e1] at e2
            exact e2
          · have hkV := (PcK.kf K6 (by omega) hi0.left W2.heap.size).trans (⟨hkf.size, fun k o hk ho => hkf.same k o (by omega) ho⟩ : KeepsFrom W2.heap.size V6 w7)
            rw [HJ.out] at hx7
            gi_wp2_with fail
            exact ⟨rfl, hkV, hx7⟩
        · have hgt : (0 : Int) < (j : Int) := by omega
          gi_upto_region 11 with fail
          have px6 : Whole ((V4.setCell ⟨g, 4, none⟩ (.int .u32 (j : Int))).setCell ⟨g, 9, none⟩ (.slice (A.map (·.add x)) e e)) g 34 #[.bool p.inter, uv (p.tsn + UInt32.ofNat j), hv p.st, uv p.sq, .int .u32 (j : Int), .bool ((j : Int) == 0), .bool ((y : Int) == 0), .bool p.un, .bool p.nw, .slice (A.map (·.add x)) e e] := (px4.set_ 4 (.int .u32 (j : Int))).set_ 9 _
          have left6 : Boxed ((V4.setCell ⟨g, 4, none⟩ (.int .u32 (j : Int))).setCell ⟨g, 9, none⟩ (.slice (A.map (·.add x)) e e)) gL 3 (.int .i64 (y : Int)) := Whole.far (Whole.far left4 hne2.2.1 _) hne2.2.1 _
          have yv6 : Boxed ((V4.setCell ⟨g, 4, none⟩ (.int .u32 (j : Int))).setCell ⟨g, 9, none⟩ (.slice (A.map (·.add x)) e e)) W.heap.size 100 (.func (.yield l) #[] #[]) := Whole.far (Whole.far yv4 hne2.2.2.2 _) hne2.2.2.2 _
          have K6 := KS (KS K4 4 px4 (by decide) (.inr (by omega)) (.int .u32 (j : Int))) 9 (px4.set_ 4 (.int .u32 (j : Int))) (by decide) (.inr (by omega)) (.slice (A.map (·.add x)) e e)
          have hsV6 : ((V4.setCell ⟨g, 4, none⟩ (.int .u32 (j : Int))).setCell ⟨g, 9, none⟩ (.slice (A.map (·.add x)) e e)).heap.size = V4.heap.size := by simp
          have n6 : Boxed ((V4.setCell ⟨g, 4, none⟩ (.int .u32 (j : Int))).setCell ⟨g, 9, none⟩ (.slice (A.map (·.add x)) e e)) gN 22 (.int .u32 (j : Int)) := Whole.far (Whole.far num4 hne2.1 _) hne2.1 _
          generalize ((V4.setCell ⟨g, 4, none⟩ (.int .u32 (j : Int))).setCell ⟨g, 9, none⟩ (.slice (A.map (·.add x)) e e)) = V6 at *
          clear px4 num4 left4 yv4 pt4 K4 c4 f4 c9 f9 cI cN4
          obtain ⟨q0, q1, q2, q3, q4, q5, q6, q7, q8, q9⟩ := px6.cs10
          have cY := yv6.cell
          have hY6 := hY (List.range j) j V6 K6.j (by rw [List.length_range]; omega) ⟨(List.length_range).symm, by rw [HJ.out, ← HR1.out]; exact HR2.out⟩
          rw [encPc_of p A n j x r e y hj5 (by rw [HJ.out]; exact HR1.out) HR.out HE.out HY.out HR2.out (.int .u32 (j : Int)) (by unfold pieceP; simp only [hin, true_and]; rw [if_pos (by omega), uv, UInt32.toNat_ofNat', Nat.mod_eq_of_lt (by omega : j < 2 ^ 32)])] at hY6
          obtain ⟨fn, tmps, assign, body, hy, hR⟩ := hY6
          simp only [hin] at hy
          gi_wp2_with fail
          refine (roundIn_wide13 hR).mono ?_
          rintro e9 w7 ⟨⟨rfl, hj7, hk7⟩ | ⟨rfl, hx7⟩, hkf⟩
          · have num7 : Boxed w7 gN 22 (.int .u32 (j : Int)) := hk7.same _ _ _ _ (fun h => hi0.nn (K6.g _ h)) n6
            have hne := pc_next x hJk hGk hi0 (by rw [← HJ.out]; exact K6) (by omega) (by rw [← HJ.out]; exact hj7) hk7 hkf (by rw [← HJ.out, HLY.out]; exact left6) HX.out.1 (by omega) (by omega)
            rw [← HJ.out] at hne
            have d0 := num7.cell
            have d1 := num7.frozen
            have hj1 : (j : Int) + 1 < 4294967296 := by omega
            have hne := Lib.hid hne
            clear q0 q1 q2 q3 q4 q5 q6 q7 q8 q9 cY hj7 hk7 hkf num7 hR hy
            gi_wp2_with fail
            have e1 : ((j + 1 : Nat) : Int) = (j : Int) + 1 := by omega
            have e2 := hne.out
            rw [e1] at e2
            exact e2
          · have hkV := (PcK.kf K6 (by omega) hi0.left W2.heap.size).trans (⟨hkf.size, fun k o hk ho => hkf.same k o (by omega) ho⟩ : KeepsFrom W2.heap.size V6 w7)
            rw [HJ.out] at hx7
            gi_wp2_with fail
            exact ⟨rfl, hkV, hx7⟩
end Go.Proofs.YtdcppcoldaaldaaGreatDoor


