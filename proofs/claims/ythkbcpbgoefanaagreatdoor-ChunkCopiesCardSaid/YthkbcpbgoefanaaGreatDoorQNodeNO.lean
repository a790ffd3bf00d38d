/- NodeN + NodeO -/
import Derived.Test.YthkbcpbgoefanaaGreatDoorQNodeKL

namespace Go.Proofs.YthkbcpbgoefanaaGreatDoor
open Go.RowKit Go.Shelf

attribute [local go_sem] Oper.semAt_some

section
variable {w w' : World} {S S' : Nat → Prop} {A K : Option Addr} {c k B : Nat} {n : Nd} {ns : List Nd} {xs us : List Value} {v : Value} {l : List UInt8}
theorem LiesS.turn2 (h : LiesS w S A xs) (hk : ∀ (p : Addr) (u : Value), S p.block → w.cell? p = some u → w'.cell? p = some u) (hs : ∀ b, S b → S' b) : LiesS w' S' A xs := fun hne => by
  obtain ⟨ad, h1, h2, h3⟩ := h hne
  exact ⟨ad, h1, hs _ h2, fun j u hu => hk _ u (by rw [blk_add]; exact h2) (h3 j u hu)⟩
theorem IsBS.turn2 (h : IsBS w S v l) (hk : ∀ (p : Addr) (u : Value), S p.block → w.cell? p = some u → w'.cell? p = some u) (hs : ∀ b, S b → S' b) : IsBS w' S' v l := by
  obtain ⟨A, c, h1, h2, h3⟩ := h
  exact ⟨A, c, h1, h2.turn2 hk hs, h3⟩
theorem NodesS.turn2 (h : NodesS w S A ns) (hk : ∀ (p : Addr) (u : Value), S p.block → w.cell? p = some u → w'.cell? p = some u) (hs : ∀ b, S b → S' b) : NodesS w' S' A ns := by
  induction h with
  | mk vs K c lies len each kids ih =>
    refine .mk vs K c (lies.turn2 hk hs) len (fun i n hn => ?_) ih
    obtain ⟨h1, ⟨d, h2, h3⟩, h6⟩ := each i n hn
    exact ⟨h1, ⟨d, h2, h3.turn2 hk hs⟩, h6⟩
variable {Ks : Nat → Option Addr} {cs : Nat → Nat}
theorem Elems.turn2 (h : Elems w S us ns Ks cs) (hk : ∀ (p : Addr) (u : Value), S p.block → w.cell? p = some u → w'.cell? p = some u) (hs : ∀ b, S b → S' b) : Elems w' S' us ns Ks cs :=
  ⟨h.len, fun i n hn => by obtain ⟨h1, ⟨d, h2, h3⟩, h6⟩ := h.each i n hn; exact ⟨h1, ⟨d, h2, h3.turn2 hk hs⟩, h6⟩, fun i n hn => (h.kids i n hn).turn2 hk hs⟩
end
/-- All: the iterator over a copy of the bytes -/
theorem all_copy (A : Option Addr) (c : Nat) (b : List UInt8) (w : World) (h : Lies w w.heap.size A (b.map bv)) (hc : b.length ≤ c) (hm : c ≤ maxLen) (hn : b.length ≤ 10000000) :
    Calls Tryz.prog 143 #[.slice A b.length c] w fun e w' => ∃ g A2 c2, e = .returned (.func (.func 165) #[] #[.pointer (some ⟨g, 0, none⟩)]) ∧ Whole w' g 22 #[.slice A2 b.length c2] ∧ w.heap.size ≤ g ∧
      (∃ base, w.heap.size < base ∧ w'.ownsRow base 5 1 (.slice A2 b.length c2) b.length (b.map bv)) ∧ Below w.heap.size w w' := by
  have hJ := copy_join A c b (w.alloc (.cells #[.slice A b.length c] 22)) ((h.alloc (Nat.le_refl _) _).more (by simp)) hc hm hn
  simp only [World.size_alloc] at hJ
  have hW := Whole.new w 22 #[.slice A b.length c]
  have hb0 : Below w.heap.size w (w.alloc (.cells #[.slice A b.length c] 22)) := (Below.refl _ w).alloc (Nat.le_refl _) _
  go_enter Tryz.func143, Tryz.ntmps143
  go_wp2_with fail
  refine hJ.mono ?_
  rintro e w2 ⟨A2, c2, rfl, own2, b2⟩
  have hW2 := hW.below b2 (by omega)
  have d0 := hW2.cell 0
  have d1 := hW2.frozen 0
  simp only [List.getElem?_toArray, List.getElem?_cons_zero] at d0
  go_wp2_with fail
  go_ret
  refine ⟨w.heap.size, A2, c2, rfl, hW2.set_ 0 _, Nat.le_refl _, ⟨w.heap.size + 1, by omega, own_set own2 (by omega) _⟩, (hb0.trans (b2.mono (by omega))).setCell (Nat.le_refl _) _⟩

/-- the blocks that the rounds may write: the list's variable, and the row that it holds -/
def NpG (Bl : Nat) (W : World) (i : Nat) : Prop := i = Bl ∨ ∃ (v : Value), Boxed W Bl 23 v ∧ v.ownBlock = some i
/-- what parse holds (L: new memory; Bl: the list's variable) -/
structure NpI (w : World) (R : Fr → NR) (c d : Int) (Bl X : Nat) (ys : List Yf) (W : World) : Prop where
  box : ∃ v ns, Boxed W Bl 23 v ∧ NRow W (Bl + 1) v ns ∧ ys.map (fun y => R y.f) = ns.map NR.ok
  p0 : Boxed W w.heap.size 3 (.int .i64 c)
  p1 : Boxed W (w.heap.size + 1) 3 (.int .i64 d)
  r0 : Boxed W (w.heap.size + 1 + 1) 23 (.slice none 0 0)
  r1 : Boxed W (w.heap.size + 1 + 1 + 1) 30 .nilIface
  low : Below w.heap.size w W
  ge : Bl < W.heap.size
  sz : X ≤ W.heap.size
theorem npg_same {A B : World} {Bl : Nat} (hl : B.heap[Bl]? = A.heap[Bl]?) {i : Nat} (h : NpG Bl B i) : NpG Bl A i := by
  rcases h with h | ⟨v, hv, hi⟩
  · exact .inl h
  · exact .inr ⟨v, hl.symm.trans hv, hi⟩
theorem npg_own {Bl X : Nat} (h : Bl < X) : GOwn X (NpG Bl) := fun A B row hA hg hr i hi => npg_same (hg.block Bl (by omega) (fun e => by have := hr Bl e.symm; omega)) hi
section
variable {w W A B : World} {R : Fr → NR} {c d : Int} {Bl X : Nat} {ys : List Yf}
theorem NpI.lt (h : NpI w R c d Bl X ys W) : ∀ i, NpG Bl W i → i < W.heap.size := by
  rintro i (rfl | ⟨v, hv, hi⟩)
  · exact h.ge
  · obtain ⟨u, ns, hu, hr, _⟩ := h.box
    obtain ⟨us, hown, _⟩ := hr.own
    rw [boxed_uniq hu hv] at hown
    exact (hown.lt i hi).2
/-- a row of nodes where nothing that is cells turns -/
theorem NRow.turn {L : Nat} {v : Value} {ns : List Nd} {row : Option Nat} (h : NRow A L v ns) (hg : A.grownBy B row) (hr : ∀ r, row = some r → ∃ o : Obj, A.heap[r]? = some o ∧ o.isCells = false) : NRow B L v ns := by
  obtain ⟨us, hown, Ks, cs, hE⟩ := h.own
  have hcell : ∀ (p : Addr) (u : Value), p.block < A.heap.size → A.cell? p = some u → B.cell? p = some u := fun p u h1 h2 => (World.cell?_of_block (hg.block p.block h1 fun e => by
    obtain ⟨o, ho, hoc⟩ := hr p.block e.symm
    unfold World.cell? at h2
    rw [ho] at h2
    cases o <;> first | (simp [Obj.isCells] at hoc; done) | (simp at h2; done))).trans h2
  refine ⟨us, hown.kept hg ?_, Ks, cs, ?_⟩
  · rcases hown.2 with ⟨rfl, _⟩ | ⟨g, cap, cur, rfl, _, hh, _⟩
    · exact .inl rfl
    · refine .inr (fun e => ?_)
      obtain ⟨o, ho, hoc⟩ := hr g e.symm
      rw [hh] at ho
      cases ho
      cases hoc
  · exact hE.turn2 (fun p u hp hu => hcell p u hp.2.1 hu) (fun b hb => ⟨hb.1, by have := hb.2.1; have := hg.size; omega, hb.2.2⟩)
/-- what turns a block that is no cells, or grows, keeps all that is said -/
theorem npi_own (X' : Nat) (hX2 : w.heap.size ≤ X') : OwnFrom X' (fun ys W => NpI w R c d Bl X ys W) := by
  rintro ys A B row ⟨⟨v, ns, h1, h2, h3⟩, p0, p1, r0, r1, h4, h5, h6⟩ hg hr
  have hne : ∀ (i : Nat) (cs : Array Value) (t : TypeId) (z : Nat × Nat), A.heap[i]? = some (.cells cs t z) → some i ≠ row := by
    intro i cs t z hi e
    obtain ⟨_, o, ho, hoc⟩ := hr i e.symm
    rw [hi] at ho
    cases ho
    cases hoc
  exact ⟨⟨v, ns, h1.kept hg (hne _ _ _ _ h1), h2.turn hg (fun r e => (hr r e).2), h3⟩, p0.kept hg (hne _ _ _ _ p0), p1.kept hg (hne _ _ _ _ p1), r0.kept hg (hne _ _ _ _ r0), r1.kept hg (hne _ _ _ _ r1), h4.grown hg h4.size (fun k e => by have := (hr k e).1; omega), Nat.lt_of_lt_of_le h5 hg.size, Nat.le_trans h6 hg.size⟩
end
/-- what the last round has left: the error that it met -/
def NpX (w : World) (R : Fr → NR) (p : List Yf × Yf) (W : World) : Prop := Below w.heap.size w W ∧ (∃ ns, p.1.map (fun y => R y.f) = List.map NR.ok ns) ∧ ∃ code a, R p.2.f = .bad code a ∧
  Boxed W (w.heap.size + 1 + 1) 23 (.slice none 0 0) ∧ Boxed W (w.heap.size + 1 + 1 + 1) 30 (faultV (code : Int) ((a + p.2.k : Nat) : Int))
theorem npx_own (w : World) (R : Fr → NR) (X : Nat) (hX : w.heap.size ≤ X) : OwnFrom X (NpX w R) := by
  rintro p A B row ⟨h1, h2, code, a, h3, h4, h5⟩ hg hr
  have hne : ∀ (i : Nat) (cs : Array Value) (t : TypeId) (z : Nat × Nat), A.heap[i]? = some (.cells cs t z) → some i ≠ row := by
    intro i cs t z hi e
    obtain ⟨_, o, ho, hoc⟩ := hr i e.symm
    rw [hi] at ho
    cases ho
    cases hoc
  exact ⟨h1.grown hg h1.size (fun k e => by have := (hr k e).1; omega), h2, code, a, h3, h4.kept hg (hne _ _ _ _ h4), h5.kept hg (hne _ _ _ _ h5)⟩

end Go.Proofs.YthkbcpbgoefanaaGreatDoor


namespace Go.Proofs.YthkbcpbgoefanaaGreatDoor
open Go.RowKit Go.Shelf

attribute [local go_sem] Oper.semAt_some

def ops11 : Array Oper :=
  #[{ dst := some 39, op := Op.load 23 (Operand.tmp 10), type := 23, pos := "node.go:150", after := #[], guard := none },
    { dst := some 40, op := Op.load 50 (Operand.tmp 13), type := 50, pos := "node.go:150", after := #[], guard := none },
    { dst := some 41, op := Op.call { callee := Callee.builtin Builtin.len, args := #[Operand.tmp 39], argTypes := #[23] }, type := 3, pos := "node.go:150", after := #[{ on := 0, ground := Ground.data }], guard := none },
    { dst := some 42, op := Op.buildSlice 23 1 #[(0, Operand.const (Value.agg #[Value.int IntKind.u16 0, Value.slice none 0 0, Value.slice none 0 0]))], type := 23, pos := "node.go:150", after := #[], guard := none },
    { dst := some 43, op := Op.call { callee := Callee.builtin Builtin.append, args := #[Operand.tmp 39, Operand.tmp 42], argTypes := #[23, 23] }, type := 23, pos := "node.go:150", after := #[{ on := 0, ground := Ground.data }, { on := 3, ground := Ground.data }, { on := 0, ground := Ground.phase }, { on := 1, ground := Ground.phase }, { on := 2, ground := Ground.phase }, { on := 3, ground := Ground.phase }], guard := none },
    { dst := some 44, op := Op.indexAddr 23 (Operand.tmp 43) (Operand.tmp 41), type := 0, pos := "node.go:150", after := #[{ on := 4, ground := Ground.data }, { on := 2, ground := Ground.data }, { on := 0, ground := Ground.phase }, { on := 1, ground := Ground.phase }, { on := 2, ground := Ground.phase }, { on := 3, ground := Ground.phase }, { on := 4, ground := Ground.phase }, { on := 7, ground := Ground.gcOnly Departure.appendInPlace }], guard := none },
    { dst := none, op := Op.store 50 (Operand.tmp 44) (Operand.tmp 40), type := 0, pos := "node.go:150", after := #[{ on := 5, ground := Ground.data }, { on := 1, ground := Ground.data }, { on := 4, ground := Ground.chain }, { on := 0, ground := Ground.phase }, { on := 1, ground := Ground.phase }, { on := 2, ground := Ground.phase }, { on := 3, ground := Ground.phase }, { on := 4, ground := Ground.phase }, { on := 7, ground := Ground.gcOnly Departure.appendInPlace }], guard := none },
    { dst := none, op := Op.store 23 (Operand.tmp 10) (Operand.tmp 43), type := 0, pos := "node.go:150", after := #[{ on := 4, ground := Ground.data }, { on := 4, ground := Ground.chain }, { on := 6, ground := Ground.textOnly Departure.appendInPlace }, { on := 0, ground := Ground.phase }, { on := 1, ground := Ground.phase }, { on := 2, ground := Ground.phase }, { on := 3, ground := Ground.phase }, { on := 4, ground := Ground.phase }, { on := 5, ground := Ground.textOnly Departure.appendInPlace }, { on := 6, ground := Ground.textOnly Departure.appendInPlace }], guard := none }]
theorem any_node {F : Fence} {n : Nat} {P : Program} {md : Region.Mode} {ops : Array Oper} {Q : Exit → Act → World → Prop} {fuel : Nat} {listed : Array Bool} {a : Act} {w : World} (r : List Nat) (hr : Region.ready md ops listed = r) (hne : r ≠ [])
    (h : ∀ i ∈ r, wpOpIn F n P ops Q i (wpAnyIn F n P md ops Q fuel (listed.setIfInBounds i true)) a w) : wpAnyIn F n P md ops Q (fuel + 1) listed a w :=
  ⟨fun e => absurd (hr.symm.trans e) hne, fun i hi => h i (by rw [← hr]; exact hi)⟩
theorem any_end {F : Fence} {n : Nat} {P : Program} {md : Region.Mode} {ops : Array Oper} {Q : Exit → Act → World → Prop} {listed : Array Bool} {a : Act} {w : World} (hr : Region.ready md ops listed = []) (h : Q .normal a w) : wpAnyIn F n P md ops Q 0 listed a w := ⟨hr, h⟩
theorem op_of_list {F : Fence} {n : Nat} {P : Program} {ops : Array Oper} {Q : Exit → Act → World → Prop} {i : Nat} {K : Act → World → Prop} {a : Act} {w : World} (o : Oper) (hi : ops[i]? = some o) (hg : o.guard = none)
    (h : wpListIn F n P ops (Exit.then K Q) [o] a w) : wpOpIn F n P ops Q i K a w := by
  unfold wpOpIn
  simp only [hi]
  have hw : Region.wanted o (yielded ops a.tmps) = true := by unfold Region.wanted; rw [hg]
  rw [if_pos hw]
  simp only [wpListIn, hw, if_true] at h
  refine ⟨h.1, ?_⟩
  have h2 := h.2
  generalize (o.semAt F.round a.eval).run P w = r at h2 ⊢
  exact h2

theorem setCell_comm (w : World) (p q : Addr) (u v : Value) (h : p.block ≠ q.block) : (w.setCell p u).setCell q v = (w.setCell q v).setCell p u := by
  unfold World.setCell
  simp only [World.mk.injEq, and_true]
  apply Array.ext_getElem?
  intro i
  rw [Array.getElem?_modify, Array.getElem?_modify, Array.getElem?_modify, Array.getElem?_modify]
  by_cases h1 : p.block = i
  · have h2 : ¬ q.block = i := fun e => h (h1.trans e.symm)
    simp only [h1, h2, if_true, if_false]
  · simp only [h1, if_false]
set_option maxRecDepth 100000 in
set_option maxHeartbeats 4000000 in
theorem region11 {l m : Nat} {Q : Exit → Act → World → Prop} (t0 t1 t2 t3 t4 t5 t6 t7 t8 t9 t11 t12 t14 t15 t16 t17 t18 t19 t20 t21 t22 t23 t24 t25 t26 t27 t28 t29 t30 t31 t32 t33 t34 t35 t36 t37 t38 t39 t40 t41 t42 t43 t44 t45 : Value) (Bl gb k c1 L : Nat) (A1 : Option Addr) (us : List Value) (x : Int) (Ad : Option Addr) (nd cd : Nat) (Ak : Option Addr) (nk ck : Nat) (w : World)
    (hl : Boxed w Bl 23 (.slice A1 k c1)) (hn : Whole w gb 50 #[.int .u16 x, .slice Ad nd cd, .slice Ak nk ck]) (hown : w.ownsRow L 50 3 (.slice A1 k c1) k us) (hk : k ≤ 100000000) (hL : L ≤ w.heap.size)
    (hQ : ∀ (a : Act) (g4 c4 : Nat) (W4 Wf : World), W4.ownsRow L 50 3 (.slice (some ⟨g4, 0, none⟩) (k + 1) c4) (k + 1) (us ++ [.int .u16 0, .slice none 0 0, .slice none 0 0]) → (w.drew.alloc (.cells #[.int .u16 0, .slice none 0 0, .slice none 0 0] 50)).grownBy W4 (Value.slice A1 k c1).ownBlock → ((Value.slice (some ⟨g4, 0, none⟩) (k + 1) c4).ownBlock = some (w.heap.size + 1) ∨ ((Value.slice (some ⟨g4, 0, none⟩) (k + 1) c4).ownBlock = (Value.slice A1 k c1).ownBlock ∧ ∃ g, (Value.slice A1 k c1).ownBlock = some g)) → Wf = (((W4.setCell ⟨g4, k * 3, none⟩ (.int .u16 x)).setCell ⟨g4, k * 3 + 1, none⟩ (.slice Ad nd cd)).setCell ⟨g4, k * 3 + 2, none⟩ (.slice Ak nk ck)).setCell ⟨Bl, 0, none⟩ (.slice (some ⟨g4, 0, none⟩) (k + 1) c4) → Q .normal a Wf) :
    (Code.region 11 ops11 true).wpIn (Fence.wide.inRound l) m Tryz.prog Q { tmps := #[t0, t1, t2, t3, t4, t5, t6, t7, t8, t9, .pointer (some ⟨Bl, 0, none⟩), t11, t12, .pointer (some ⟨gb, 0, none⟩), t14, t15, t16, t17, t18, t19, t20, t21, t22, t23, t24, t25, t26, t27, t28, t29, t30, t31, t32, t33, t34, t35, t36, t37, t38, t39, t40, t41, t42, t43, t44, t45], defers := [] } w := by
  have e0 := hl.cell
  have n0 : w.cell? ⟨gb, 0, none⟩ = some (.int .u16 x) := by rw [hn.cell]; rfl
  have n1 : w.cell? ⟨gb, 1, none⟩ = some (.slice Ad nd cd) := by rw [hn.cell]; rfl
  have n2 : w.cell? ⟨gb, 2, none⟩ = some (.slice Ak nk ck) := by rw [hn.cell]; rfl
  have hBlt := boxed_lt hl
  have hglt := hn.lt
  have hne0 : Bl ≠ w.heap.size := by omega
  have hne1 : gb ≠ w.heap.size := by omega
  have h4 : wpAnyIn (Fence.wide.inRound l) m Tryz.prog .any ops11 Q 4 #[true, true, true, true, false, false, false, false] { tmps := #[t0, t1, t2, t3, t4, t5, t6, t7, t8, t9, .pointer (some ⟨Bl, 0, none⟩), t11, t12, .pointer (some ⟨gb, 0, none⟩), t14, t15, t16, t17, t18, t19, t20, t21, t22, t23, t24, t25, t26, t27, t28, t29, t30, t31, t32, t33, t34, t35, t36, t37, t38, .slice A1 k c1, .agg #[.int .u16 x, .slice Ad nd cd, .slice Ak nk ck], .int .i64 (k : Int), .slice (some ⟨w.heap.size, 0, none⟩) 1 1, t43, t44, t45], defers := [] } (w.drew.alloc (.cells #[.int .u16 0, .slice none 0 0, .slice none 0 0] 50)) := by
    have hbx : Boxed (w.drew.alloc (.cells #[.int .u16 0, .slice none 0 0, .slice none 0 0] 50)) Bl 23 (.slice A1 k c1) := hl.alloc _
    have ho4 : (w.drew.alloc (.cells #[.int .u16 0, .slice none 0 0, .slice none 0 0] 50)).ownsRow L 50 3 (.slice A1 k c1) k us := hown.alloc _
    have hnew : ∀ j u, [Value.int .u16 0, .slice none 0 0, .slice none 0 0][j]? = some u → (w.drew.alloc (.cells #[.int .u16 0, .slice none 0 0, .slice none 0 0] 50)).cell? ((⟨w.heap.size, 0, none⟩ : Addr).add j) = some u := fun j u hu => by
      have hc := (Whole.new w.drew 50 #[.int .u16 0, .slice none 0 0, .slice none 0 0]).cell j
      rw [show w.drew.heap.size = w.heap.size from rfl] at hc
      rw [add_row, hc]
      simpa using hu
    have hsz4 : (w.drew.alloc (.cells #[.int .u16 0, .slice none 0 0, .slice none 0 0] 50)).heap.size = w.heap.size + 1 := by simp
    have HNW := Lib.hid hnew
    clear hnew
    generalize (w.drew.alloc (.cells #[.int .u16 0, .slice none 0 0, .slice none 0 0] 50)) = w4 at *
    dsimp only
    refine any_node (fuel := 3) [4] (by kernel_rfl) (by simp) ?_
    intro i hi
    simp only [List.mem_cons, List.not_mem_nil, or_false] at hi
    subst hi
    refine op_of_list ({ dst := some 43, op := Op.call { callee := Callee.builtin Builtin.append, args := #[Operand.tmp 39, Operand.tmp 42], argTypes := #[23, 23] }, type := 23, pos := "node.go:150", after := #[{ on := 0, ground := Ground.data }, { on := 3, ground := Ground.data }, { on := 0, ground := Ground.phase }, { on := 1, ground := Ground.phase }, { on := 2, ground := Ground.phase }, { on := 3, ground := Ground.phase }], guard := none } : Oper) rfl rfl ?_
    gi_wp2_with (gi_at_builtin; refine wpListIn_append_told _ rfl (.tmp 39) (.tmp 42) 23 rfl L 50 _ 3 56 Tryz.underlying23 ndinfo rfl (by omega) _ _ _ rfl ho4 _ 1 1 (by omega) [.int .u16 0, .slice none 0 0, .slice none 0 0] rfl rfl HNW.out (by intro u hu; simp at hu; rcases hu with rfl | rfl | rfl <;> rfl) (by unfold maxLen; omega) (by omega) (by omega) ?_; intro v' W4 hown4 hgrow4 hblk4)
    obtain ⟨g4, c4, rfl⟩ : ∃ g4 c4, v' = .slice (some ⟨g4, 0, none⟩) (k + 1) c4 := by
      rcases hown4.2 with ⟨_, e2⟩ | ⟨g, cap, cur, e1, _⟩
      · omega
      · exact ⟨g, cap, e1⟩
    simp only [Act.put, List.setIfInBounds_toArray, List.set_cons_succ, List.set_cons_zero]
    have hb4 : Boxed W4 Bl 23 (.slice A1 k c1) := hbx.kept hgrow4 (hbx.not_row (by decide) ho4)
    have hgb : g4 ≠ Bl := fun e => hb4.not_row (by decide) hown4 (by rw [e]; rfl)
    have hbg : Bl ≠ g4 := fun e => hgb e.symm
    have bc := hb4.cell
    have bf := hb4.frozen
    have hul : us.length = k * 3 := hown.1
    have q0 : W4.cell? ⟨g4, k * 3, none⟩ = some (.int .u16 0) := by
      have := hown4.cells (g := g4) rfl (k * 3) (.int .u16 0) (by rw [List.getElem?_append_right (by omega), hul, Nat.sub_self]; rfl)
      rwa [add_row] at this
    have q1 : W4.cell? ⟨g4, k * 3 + 1, none⟩ = some (.slice none 0 0) := by
      have := hown4.cells (g := g4) rfl (k * 3 + 1) (.slice none 0 0) (by rw [List.getElem?_append_right (by omega), hul, show k * 3 + 1 - k * 3 = 1 by omega]; rfl)
      rwa [add_row] at this
    have q2 : W4.cell? ⟨g4, k * 3 + 2, none⟩ = some (.slice none 0 0) := by
      have := hown4.cells (g := g4) rfl (k * 3 + 2) (.slice none 0 0) (by rw [List.getElem?_append_right (by omega), hul, show k * 3 + 2 - k * 3 = 2 by omega]; rfl)
      rwa [add_row] at this
    have hfz : ∀ i, W4.frozen? ⟨g4, i, none⟩ = false := fun i => by
      rcases hown4.2 with ⟨_, e2⟩ | ⟨g, cap, cur, e1, _, e3, _⟩
      · omega
      · simp only [Value.slice.injEq, Option.some.injEq, Addr.mk.injEq] at e1
        obtain ⟨⟨rfl, _⟩, _⟩ := e1
        exact frozen_of_row W4 _ i cur _ e3
    have z0 := hfz (k * 3)
    have z1 := hfz (k * 3 + 1)
    have z2 := hfz (k * 3 + 2)
    have HU := Lib.hid hul
    have hblk5 : (Value.slice (some ⟨g4, 0, none⟩) (k + 1) c4).ownBlock = some (w.heap.size + 1) ∨ ((Value.slice (some ⟨g4, 0, none⟩) (k + 1) c4).ownBlock = (Value.slice A1 k c1).ownBlock ∧ ∃ g, (Value.slice A1 k c1).ownBlock = some g) := by rw [hsz4] at hblk4; exact hblk4
    clear hul
    refine any_node (fuel := 2) [5, 7] (by kernel_rfl) (by simp) ?_
    intro i hi
    simp only [List.mem_cons, List.not_mem_nil, or_false] at hi
    rcases hi with rfl | rfl
    · refine op_of_list ({ dst := some 44, op := Op.indexAddr 23 (Operand.tmp 43) (Operand.tmp 41), type := 0, pos := "node.go:150", after := #[{ on := 4, ground := Ground.data }, { on := 2, ground := Ground.data }, { on := 0, ground := Ground.phase }, { on := 1, ground := Ground.phase }, { on := 2, ground := Ground.phase }, { on := 3, ground := Ground.phase }, { on := 4, ground := Ground.phase }, { on := 7, ground := Ground.gcOnly Departure.appendInPlace }], guard := none } : Oper) rfl rfl ?_
      gi_wp2_with fail
      (try simp only [List.setIfInBounds_toArray, List.set_cons_succ, List.set_cons_zero])
      refine any_node (fuel := 1) [6, 7] (by kernel_rfl) (by simp) ?_
      intro i hi
      simp only [List.mem_cons, List.not_mem_nil, or_false] at hi
      rcases hi with rfl | rfl
      · refine op_of_list ({ dst := none, op := Op.store 50 (Operand.tmp 44) (Operand.tmp 40), type := 0, pos := "node.go:150", after := #[{ on := 5, ground := Ground.data }, { on := 1, ground := Ground.data }, { on := 4, ground := Ground.chain }, { on := 0, ground := Ground.phase }, { on := 1, ground := Ground.phase }, { on := 2, ground := Ground.phase }, { on := 3, ground := Ground.phase }, { on := 4, ground := Ground.phase }, { on := 7, ground := Ground.gcOnly Departure.appendInPlace }], guard := none } : Oper) rfl rfl ?_
        gi_wp2_with fail
        (try simp only [List.setIfInBounds_toArray, List.set_cons_succ, List.set_cons_zero])
        refine any_node (fuel := 0) [7] (by kernel_rfl) (by simp) ?_
        intro i hi
        simp only [List.mem_cons, List.not_mem_nil, or_false] at hi
        subst hi
        · refine op_of_list ({ dst := none, op := Op.store 23 (Operand.tmp 10) (Operand.tmp 43), type := 0, pos := "node.go:150", after := #[{ on := 4, ground := Ground.data }, { on := 4, ground := Ground.chain }, { on := 6, ground := Ground.textOnly Departure.appendInPlace }, { on := 0, ground := Ground.phase }, { on := 1, ground := Ground.phase }, { on := 2, ground := Ground.phase }, { on := 3, ground := Ground.phase }, { on := 4, ground := Ground.phase }, { on := 5, ground := Ground.textOnly Departure.appendInPlace }, { on := 6, ground := Ground.textOnly Departure.appendInPlace }], guard := none } : Oper) rfl rfl ?_
          gi_wp2_with fail
          (try simp only [List.setIfInBounds_toArray, List.set_cons_succ, List.set_cons_zero])
          exact any_end (by kernel_rfl) (hQ _ _ _ _ _ hown4 hgrow4 hblk5 (by first | rfl | (rw [setCell_comm W4 ⟨Bl, 0, none⟩ ⟨g4, k * 3, none⟩ _ _ hbg, setCell_comm _ ⟨Bl, 0, none⟩ ⟨g4, k * 3 + 1, none⟩ _ _ hbg, setCell_comm _ ⟨Bl, 0, none⟩ ⟨g4, k * 3 + 2, none⟩ _ _ hbg])))
      · refine op_of_list ({ dst := none, op := Op.store 23 (Operand.tmp 10) (Operand.tmp 43), type := 0, pos := "node.go:150", after := #[{ on := 4, ground := Ground.data }, { on := 4, ground := Ground.chain }, { on := 6, ground := Ground.textOnly Departure.appendInPlace }, { on := 0, ground := Ground.phase }, { on := 1, ground := Ground.phase }, { on := 2, ground := Ground.phase }, { on := 3, ground := Ground.phase }, { on := 4, ground := Ground.phase }, { on := 5, ground := Ground.textOnly Departure.appendInPlace }, { on := 6, ground := Ground.textOnly Departure.appendInPlace }], guard := none } : Oper) rfl rfl ?_
        gi_wp2_with fail
        (try simp only [List.setIfInBounds_toArray, List.set_cons_succ, List.set_cons_zero])
        refine any_node (fuel := 0) [6] (by kernel_rfl) (by simp) ?_
        intro i hi
        simp only [List.mem_cons, List.not_mem_nil, or_false] at hi
        subst hi
        · refine op_of_list ({ dst := none, op := Op.store 50 (Operand.tmp 44) (Operand.tmp 40), type := 0, pos := "node.go:150", after := #[{ on := 5, ground := Ground.data }, { on := 1, ground := Ground.data }, { on := 4, ground := Ground.chain }, { on := 0, ground := Ground.phase }, { on := 1, ground := Ground.phase }, { on := 2, ground := Ground.phase }, { on := 3, ground := Ground.phase }, { on := 4, ground := Ground.phase }, { on := 7, ground := Ground.gcOnly Departure.appendInPlace }], guard := none } : Oper) rfl rfl ?_
          gi_wp2_with fail
          (try simp only [List.setIfInBounds_toArray, List.set_cons_succ, List.set_cons_zero])
          exact any_end (by kernel_rfl) (hQ _ _ _ _ _ hown4 hgrow4 hblk5 (by first | rfl | (rw [setCell_comm W4 ⟨Bl, 0, none⟩ ⟨g4, k * 3, none⟩ _ _ hbg, setCell_comm _ ⟨Bl, 0, none⟩ ⟨g4, k * 3 + 1, none⟩ _ _ hbg, setCell_comm _ ⟨Bl, 0, none⟩ ⟨g4, k * 3 + 2, none⟩ _ _ hbg])))
    · refine op_of_list ({ dst := none, op := Op.store 23 (Operand.tmp 10) (Operand.tmp 43), type := 0, pos := "node.go:150", after := #[{ on := 4, ground := Ground.data }, { on := 4, ground := Ground.chain }, { on := 6, ground := Ground.textOnly Departure.appendInPlace }, { on := 0, ground := Ground.phase }, { on := 1, ground := Ground.phase }, { on := 2, ground := Ground.phase }, { on := 3, ground := Ground.phase }, { on := 4, ground := Ground.phase }, { on := 5, ground := Ground.textOnly Departure.appendInPlace }, { on := 6, ground := Ground.textOnly Departure.appendInPlace }], guard := none } : Oper) rfl rfl ?_
      gi_wp2_with fail
      (try simp only [List.setIfInBounds_toArray, List.set_cons_succ, List.set_cons_zero])
      refine any_node (fuel := 1) [5] (by kernel_rfl) (by simp) ?_
      intro i hi
      simp only [List.mem_cons, List.not_mem_nil, or_false] at hi
      subst hi
      · refine op_of_list ({ dst := some 44, op := Op.indexAddr 23 (Operand.tmp 43) (Operand.tmp 41), type := 0, pos := "node.go:150", after := #[{ on := 4, ground := Ground.data }, { on := 2, ground := Ground.data }, { on := 0, ground := Ground.phase }, { on := 1, ground := Ground.phase }, { on := 2, ground := Ground.phase }, { on := 3, ground := Ground.phase }, { on := 4, ground := Ground.phase }, { on := 7, ground := Ground.gcOnly Departure.appendInPlace }], guard := none } : Oper) rfl rfl ?_
        gi_wp2_with fail
        (try simp only [List.setIfInBounds_toArray, List.set_cons_succ, List.set_cons_zero])
        refine any_node (fuel := 0) [6] (by kernel_rfl) (by simp) ?_
        intro i hi
        simp only [List.mem_cons, List.not_mem_nil, or_false] at hi
        subst hi
        · refine op_of_list ({ dst := none, op := Op.store 50 (Operand.tmp 44) (Operand.tmp 40), type := 0, pos := "node.go:150", after := #[{ on := 5, ground := Ground.data }, { on := 1, ground := Ground.data }, { on := 4, ground := Ground.chain }, { on := 0, ground := Ground.phase }, { on := 1, ground := Ground.phase }, { on := 2, ground := Ground.phase }, { on := 3, ground := Ground.phase }, { on := 4, ground := Ground.phase }, { on := 7, ground := Ground.gcOnly Departure.appendInPlace }], guard := none } : Oper) rfl rfl ?_
          gi_wp2_with fail
          (try simp only [List.setIfInBounds_toArray, List.set_cons_succ, List.set_cons_zero])
          exact any_end (by kernel_rfl) (hQ _ _ _ _ _ hown4 hgrow4 hblk5 (by first | rfl | (rw [setCell_comm W4 ⟨Bl, 0, none⟩ ⟨g4, k * 3, none⟩ _ _ hbg, setCell_comm _ ⟨Bl, 0, none⟩ ⟨g4, k * 3 + 1, none⟩ _ _ hbg, setCell_comm _ ⟨Bl, 0, none⟩ ⟨g4, k * 3 + 2, none⟩ _ _ hbg])))
  refine wpIn_region_any (by kernel_rfl) ?_
  change wpAnyIn (Fence.wide.inRound l) m Tryz.prog .any ops11 Q 8 #[false, false, false, false, false, false, false, false] { tmps := #[t0, t1, t2, t3, t4, t5, t6, t7, t8, t9, .pointer (some ⟨Bl, 0, none⟩), t11, t12, .pointer (some ⟨gb, 0, none⟩), t14, t15, t16, t17, t18, t19, t20, t21, t22, t23, t24, t25, t26, t27, t28, t29, t30, t31, t32, t33, t34, t35, t36, t37, t38, t39, t40, t41, t42, t43, t44, t45], defers := [] } w.drew
  dsimp only
  refine any_node (fuel := 7) [0, 1, 3] (by kernel_rfl) (by simp) ?_
  intro i hi
  simp only [List.mem_cons, List.not_mem_nil, or_false] at hi
  rcases hi with rfl | rfl | rfl
  · refine op_of_list ({ dst := some 39, op := Op.load 23 (Operand.tmp 10), type := 23, pos := "node.go:150", after := #[], guard := none } : Oper) rfl rfl ?_
    gi_wp2_with fail
    (try simp only [List.setIfInBounds_toArray, List.set_cons_zero])
    refine any_node (fuel := 6) [1, 2, 3] (by kernel_rfl) (by simp) ?_
    intro i hi
    simp only [List.mem_cons, List.not_mem_nil, or_false] at hi
    rcases hi with rfl | rfl | rfl
    · refine op_of_list ({ dst := some 40, op := Op.load 50 (Operand.tmp 13), type := 50, pos := "node.go:150", after := #[], guard := none } : Oper) rfl rfl ?_
      gi_wp2_with fail
      (try simp only [List.setIfInBounds_toArray, List.set_cons_succ, List.set_cons_zero])
      refine any_node (fuel := 5) [2, 3] (by kernel_rfl) (by simp) ?_
      intro i hi
      simp only [List.mem_cons, List.not_mem_nil, or_false] at hi
      rcases hi with rfl | rfl
      · refine op_of_list ({ dst := some 41, op := Op.call { callee := Callee.builtin Builtin.len, args := #[Operand.tmp 39], argTypes := #[23] }, type := 3, pos := "node.go:150", after := #[{ on := 0, ground := Ground.data }], guard := none } : Oper) rfl rfl ?_
        gi_wp2_with fail
        (try simp only [List.setIfInBounds_toArray, List.set_cons_succ, List.set_cons_zero])
        refine any_node (fuel := 4) [3] (by kernel_rfl) (by simp) ?_
        intro i hi
        simp only [List.mem_cons, List.not_mem_nil, or_false] at hi
        subst hi
        · refine op_of_list ({ dst := some 42, op := Op.buildSlice 23 1 #[(0, Operand.const (Value.agg #[Value.int IntKind.u16 0, Value.slice none 0 0, Value.slice none 0 0]))], type := 23, pos := "node.go:150", after := #[], guard := none } : Oper) rfl rfl ?_
          gi_wp2_with fail
          (try simp only [List.setIfInBounds_toArray, List.set_cons_succ, List.set_cons_zero])
          exact h4
      · refine op_of_list ({ dst := some 42, op := Op.buildSlice 23 1 #[(0, Operand.const (Value.agg #[Value.int IntKind.u16 0, Value.slice none 0 0, Value.slice none 0 0]))], type := 23, pos := "node.go:150", after := #[], guard := none } : Oper) rfl rfl ?_
        gi_wp2_with fail
        (try simp only [List.setIfInBounds_toArray, List.set_cons_succ, List.set_cons_zero])
        refine any_node (fuel := 4) [2] (by kernel_rfl) (by simp) ?_
        intro i hi
        simp only [List.mem_cons, List.not_mem_nil, or_false] at hi
        subst hi
        · refine op_of_list ({ dst := some 41, op := Op.call { callee := Callee.builtin Builtin.len, args := #[Operand.tmp 39], argTypes := #[23] }, type := 3, pos := "node.go:150", after := #[{ on := 0, ground := Ground.data }], guard := none } : Oper) rfl rfl ?_
          gi_wp2_with fail
          (try simp only [List.setIfInBounds_toArray, List.set_cons_succ, List.set_cons_zero])
          exact h4
    · refine op_of_list ({ dst := some 41, op := Op.call { callee := Callee.builtin Builtin.len, args := #[Operand.tmp 39], argTypes := #[23] }, type := 3, pos := "node.go:150", after := #[{ on := 0, ground := Ground.data }], guard := none } : Oper) rfl rfl ?_
      gi_wp2_with fail
      (try simp only [List.setIfInBounds_toArray, List.set_cons_succ, List.set_cons_zero])
      refine any_node (fuel := 5) [1, 3] (by kernel_rfl) (by simp) ?_
      intro i hi
      simp only [List.mem_cons, List.not_mem_nil, or_false] at hi
      rcases hi with rfl | rfl
      · refine op_of_list ({ dst := some 40, op := Op.load 50 (Operand.tmp 13), type := 50, pos := "node.go:150", after := #[], guard := none } : Oper) rfl rfl ?_
        gi_wp2_with fail
        (try simp only [List.setIfInBounds_toArray, List.set_cons_succ, List.set_cons_zero])
        refine any_node (fuel := 4) [3] (by kernel_rfl) (by simp) ?_
        intro i hi
        simp only [List.mem_cons, List.not_mem_nil, or_false] at hi
        subst hi
        · refine op_of_list ({ dst := some 42, op := Op.buildSlice 23 1 #[(0, Operand.const (Value.agg #[Value.int IntKind.u16 0, Value.slice none 0 0, Value.slice none 0 0]))], type := 23, pos := "node.go:150", after := #[], guard := none } : Oper) rfl rfl ?_
          gi_wp2_with fail
          (try simp only [List.setIfInBounds_toArray, List.set_cons_succ, List.set_cons_zero])
          exact h4
      · refine op_of_list ({ dst := some 42, op := Op.buildSlice 23 1 #[(0, Operand.const (Value.agg #[Value.int IntKind.u16 0, Value.slice none 0 0, Value.slice none 0 0]))], type := 23, pos := "node.go:150", after := #[], guard := none } : Oper) rfl rfl ?_
        gi_wp2_with fail
        (try simp only [List.setIfInBounds_toArray, List.set_cons_succ, List.set_cons_zero])
        refine any_node (fuel := 4) [1] (by kernel_rfl) (by simp) ?_
        intro i hi
        simp only [List.mem_cons, List.not_mem_nil, or_false] at hi
        subst hi
        · refine op_of_list ({ dst := some 40, op := Op.load 50 (Operand.tmp 13), type := 50, pos := "node.go:150", after := #[], guard := none } : Oper) rfl rfl ?_
          gi_wp2_with fail
          (try simp only [List.setIfInBounds_toArray, List.set_cons_succ, List.set_cons_zero])
          exact h4
    · refine op_of_list ({ dst := some 42, op := Op.buildSlice 23 1 #[(0, Operand.const (Value.agg #[Value.int IntKind.u16 0, Value.slice none 0 0, Value.slice none 0 0]))], type := 23, pos := "node.go:150", after := #[], guard := none } : Oper) rfl rfl ?_
      gi_wp2_with fail
      (try simp only [List.setIfInBounds_toArray, List.set_cons_succ, List.set_cons_zero])
      refine any_node (fuel := 5) [1, 2] (by kernel_rfl) (by simp) ?_
      intro i hi
      simp only [List.mem_cons, List.not_mem_nil, or_false] at hi
      rcases hi with rfl | rfl
      · refine op_of_list ({ dst := some 40, op := Op.load 50 (Operand.tmp 13), type := 50, pos := "node.go:150", after := #[], guard := none } : Oper) rfl rfl ?_
        gi_wp2_with fail
        (try simp only [List.setIfInBounds_toArray, List.set_cons_succ, List.set_cons_zero])
        refine any_node (fuel := 4) [2] (by kernel_rfl) (by simp) ?_
        intro i hi
        simp only [List.mem_cons, List.not_mem_nil, or_false] at hi
        subst hi
        · refine op_of_list ({ dst := some 41, op := Op.call { callee := Callee.builtin Builtin.len, args := #[Operand.tmp 39], argTypes := #[23] }, type := 3, pos := "node.go:150", after := #[{ on := 0, ground := Ground.data }], guard := none } : Oper) rfl rfl ?_
          gi_wp2_with fail
          (try simp only [List.setIfInBounds_toArray, List.set_cons_succ, List.set_cons_zero])
          exact h4
      · refine op_of_list ({ dst := some 41, op := Op.call { callee := Callee.builtin Builtin.len, args := #[Operand.tmp 39], argTypes := #[23] }, type := 3, pos := "node.go:150", after := #[{ on := 0, ground := Ground.data }], guard := none } : Oper) rfl rfl ?_
        gi_wp2_with fail
        (try simp only [List.setIfInBounds_toArray, List.set_cons_succ, List.set_cons_zero])
        refine any_node (fuel := 4) [1] (by kernel_rfl) (by simp) ?_
        intro i hi
        simp only [List.mem_cons, List.not_mem_nil, or_false] at hi
        subst hi
        · refine op_of_list ({ dst := some 40, op := Op.load 50 (Operand.tmp 13), type := 50, pos := "node.go:150", after := #[], guard := none } : Oper) rfl rfl ?_
          gi_wp2_with fail
          (try simp only [List.setIfInBounds_toArray, List.set_cons_succ, List.set_cons_zero])
          exact h4
  · refine op_of_list ({ dst := some 40, op := Op.load 50 (Operand.tmp 13), type := 50, pos := "node.go:150", after := #[], guard := none } : Oper) rfl rfl ?_
    gi_wp2_with fail
    (try simp only [List.setIfInBounds_toArray, List.set_cons_succ, List.set_cons_zero])
    refine any_node (fuel := 6) [0, 3] (by kernel_rfl) (by simp) ?_
    intro i hi
    simp only [List.mem_cons, List.not_mem_nil, or_false] at hi
    rcases hi with rfl | rfl
    · refine op_of_list ({ dst := some 39, op := Op.load 23 (Operand.tmp 10), type := 23, pos := "node.go:150", after := #[], guard := none } : Oper) rfl rfl ?_
      gi_wp2_with fail
      (try simp only [List.setIfInBounds_toArray, List.set_cons_zero])
      refine any_node (fuel := 5) [2, 3] (by kernel_rfl) (by simp) ?_
      intro i hi
      simp only [List.mem_cons, List.not_mem_nil, or_false] at hi
      rcases hi with rfl | rfl
      · refine op_of_list ({ dst := some 41, op := Op.call { callee := Callee.builtin Builtin.len, args := #[Operand.tmp 39], argTypes := #[23] }, type := 3, pos := "node.go:150", after := #[{ on := 0, ground := Ground.data }], guard := none } : Oper) rfl rfl ?_
        gi_wp2_with fail
        (try simp only [List.setIfInBounds_toArray, List.set_cons_succ, List.set_cons_zero])
        refine any_node (fuel := 4) [3] (by kernel_rfl) (by simp) ?_
        intro i hi
        simp only [List.mem_cons, List.not_mem_nil, or_false] at hi
        subst hi
        · refine op_of_list ({ dst := some 42, op := Op.buildSlice 23 1 #[(0, Operand.const (Value.agg #[Value.int IntKind.u16 0, Value.slice none 0 0, Value.slice none 0 0]))], type := 23, pos := "node.go:150", after := #[], guard := none } : Oper) rfl rfl ?_
          gi_wp2_with fail
          (try simp only [List.setIfInBounds_toArray, List.set_cons_succ, List.set_cons_zero])
          exact h4
      · refine op_of_list ({ dst := some 42, op := Op.buildSlice 23 1 #[(0, Operand.const (Value.agg #[Value.int IntKind.u16 0, Value.slice none 0 0, Value.slice none 0 0]))], type := 23, pos := "node.go:150", after := #[], guard := none } : Oper) rfl rfl ?_
        gi_wp2_with fail
        (try simp only [List.setIfInBounds_toArray, List.set_cons_succ, List.set_cons_zero])
        refine any_node (fuel := 4) [2] (by kernel_rfl) (by simp) ?_
        intro i hi
        simp only [List.mem_cons, List.not_mem_nil, or_false] at hi
        subst hi
        · refine op_of_list ({ dst := some 41, op := Op.call { callee := Callee.builtin Builtin.len, args := #[Operand.tmp 39], argTypes := #[23] }, type := 3, pos := "node.go:150", after := #[{ on := 0, ground := Ground.data }], guard := none } : Oper) rfl rfl ?_
          gi_wp2_with fail
          (try simp only [List.setIfInBounds_toArray, List.set_cons_succ, List.set_cons_zero])
          exact h4
    · refine op_of_list ({ dst := some 42, op := Op.buildSlice 23 1 #[(0, Operand.const (Value.agg #[Value.int IntKind.u16 0, Value.slice none 0 0, Value.slice none 0 0]))], type := 23, pos := "node.go:150", after := #[], guard := none } : Oper) rfl rfl ?_
      gi_wp2_with fail
      (try simp only [List.setIfInBounds_toArray, List.set_cons_succ, List.set_cons_zero])
      refine any_node (fuel := 5) [0] (by kernel_rfl) (by simp) ?_
      intro i hi
      simp only [List.mem_cons, List.not_mem_nil, or_false] at hi
      subst hi
      · refine op_of_list ({ dst := some 39, op := Op.load 23 (Operand.tmp 10), type := 23, pos := "node.go:150", after := #[], guard := none } : Oper) rfl rfl ?_
        gi_wp2_with fail
        (try simp only [List.setIfInBounds_toArray, List.set_cons_zero])
        refine any_node (fuel := 4) [2] (by kernel_rfl) (by simp) ?_
        intro i hi
        simp only [List.mem_cons, List.not_mem_nil, or_false] at hi
        subst hi
        · refine op_of_list ({ dst := some 41, op := Op.call { callee := Callee.builtin Builtin.len, args := #[Operand.tmp 39], argTypes := #[23] }, type := 3, pos := "node.go:150", after := #[{ on := 0, ground := Ground.data }], guard := none } : Oper) rfl rfl ?_
          gi_wp2_with fail
          (try simp only [List.setIfInBounds_toArray, List.set_cons_succ, List.set_cons_zero])
          exact h4
  · refine op_of_list ({ dst := some 42, op := Op.buildSlice 23 1 #[(0, Operand.const (Value.agg #[Value.int IntKind.u16 0, Value.slice none 0 0, Value.slice none 0 0]))], type := 23, pos := "node.go:150", after := #[], guard := none } : Oper) rfl rfl ?_
    gi_wp2_with fail
    (try simp only [List.setIfInBounds_toArray, List.set_cons_succ, List.set_cons_zero])
    refine any_node (fuel := 6) [0, 1] (by kernel_rfl) (by simp) ?_
    intro i hi
    simp only [List.mem_cons, List.not_mem_nil, or_false] at hi
    rcases hi with rfl | rfl
    · refine op_of_list ({ dst := some 39, op := Op.load 23 (Operand.tmp 10), type := 23, pos := "node.go:150", after := #[], guard := none } : Oper) rfl rfl ?_
      gi_wp2_with fail
      (try simp only [List.setIfInBounds_toArray, List.set_cons_zero])
      refine any_node (fuel := 5) [1, 2] (by kernel_rfl) (by simp) ?_
      intro i hi
      simp only [List.mem_cons, List.not_mem_nil, or_false] at hi
      rcases hi with rfl | rfl
      · refine op_of_list ({ dst := some 40, op := Op.load 50 (Operand.tmp 13), type := 50, pos := "node.go:150", after := #[], guard := none } : Oper) rfl rfl ?_
        gi_wp2_with fail
        (try simp only [List.setIfInBounds_toArray, List.set_cons_succ, List.set_cons_zero])
        refine any_node (fuel := 4) [2] (by kernel_rfl) (by simp) ?_
        intro i hi
        simp only [List.mem_cons, List.not_mem_nil, or_false] at hi
        subst hi
        · refine op_of_list ({ dst := some 41, op := Op.call { callee := Callee.builtin Builtin.len, args := #[Operand.tmp 39], argTypes := #[23] }, type := 3, pos := "node.go:150", after := #[{ on := 0, ground := Ground.data }], guard := none } : Oper) rfl rfl ?_
          gi_wp2_with fail
          (try simp only [List.setIfInBounds_toArray, List.set_cons_succ, List.set_cons_zero])
          exact h4
      · refine op_of_list ({ dst := some 41, op := Op.call { callee := Callee.builtin Builtin.len, args := #[Operand.tmp 39], argTypes := #[23] }, type := 3, pos := "node.go:150", after := #[{ on := 0, ground := Ground.data }], guard := none } : Oper) rfl rfl ?_
        gi_wp2_with fail
        (try simp only [List.setIfInBounds_toArray, List.set_cons_succ, List.set_cons_zero])
        refine any_node (fuel := 4) [1] (by kernel_rfl) (by simp) ?_
        intro i hi
        simp only [List.mem_cons, List.not_mem_nil, or_false] at hi
        subst hi
        · refine op_of_list ({ dst := some 40, op := Op.load 50 (Operand.tmp 13), type := 50, pos := "node.go:150", after := #[], guard := none } : Oper) rfl rfl ?_
          gi_wp2_with fail
          (try simp only [List.setIfInBounds_toArray, List.set_cons_succ, List.set_cons_zero])
          exact h4
    · refine op_of_list ({ dst := some 40, op := Op.load 50 (Operand.tmp 13), type := 50, pos := "node.go:150", after := #[], guard := none } : Oper) rfl rfl ?_
      gi_wp2_with fail
      (try simp only [List.setIfInBounds_toArray, List.set_cons_succ, List.set_cons_zero])
      refine any_node (fuel := 5) [0] (by kernel_rfl) (by simp) ?_
      intro i hi
      simp only [List.mem_cons, List.not_mem_nil, or_false] at hi
      subst hi
      · refine op_of_list ({ dst := some 39, op := Op.load 23 (Operand.tmp 10), type := 23, pos := "node.go:150", after := #[], guard := none } : Oper) rfl rfl ?_
        gi_wp2_with fail
        (try simp only [List.setIfInBounds_toArray, List.set_cons_zero])
        refine any_node (fuel := 4) [2] (by kernel_rfl) (by simp) ?_
        intro i hi
        simp only [List.mem_cons, List.not_mem_nil, or_false] at hi
        subst hi
        · refine op_of_list ({ dst := some 41, op := Op.call { callee := Callee.builtin Builtin.len, args := #[Operand.tmp 39], argTypes := #[23] }, type := 3, pos := "node.go:150", after := #[{ on := 0, ground := Ground.data }], guard := none } : Oper) rfl rfl ?_
          gi_wp2_with fail
          (try simp only [List.setIfInBounds_toArray, List.set_cons_succ, List.set_cons_zero])
          exact h4
end Go.Proofs.YthkbcpbgoefanaaGreatDoor


