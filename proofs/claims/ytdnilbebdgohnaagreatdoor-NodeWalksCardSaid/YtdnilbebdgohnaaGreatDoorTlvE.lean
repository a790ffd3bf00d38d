/- Layer 6, package tlv: Split, for whatever bytes. -/
import Derived.Test.YtdnilbebdgohnaaGreatDoorTlvD
import Derived.Test.YtdnilbebdgohnaaGreatDoorEachOr
import Derived.Test.YtdnilbebdgohnaaGreatDoorAppOne



namespace Go.Proofs.YtdnilbebdgohnaaGreatDoor
open Go.RowKit Go.Shelf

attribute [local go_sem] Oper.semAt_some

theorem frinfo : (Tryz.prog.info? 67).map (fun i => (i.zero, i.size, i.bytes)) = some (some (.agg #[.int .u16 0, .slice none 0 0]), 2, 32) := by kernel_rfl

/-- the blocks that the rounds may write: the list's variable, and the row that it holds -/
def SpG (Bl : Nat) (W : World) (i : Nat) : Prop := i = Bl ∨ ∃ (v : Value), Boxed W Bl 65 v ∧ v.ownBlock = some i
def ycells (ys : List Yf) : List Value := ys.flatMap fun y => [hv y.f.t, y.val]
theorem ycells_len (ys : List Yf) : (ycells ys).length = ys.length * 2 := by
  induction ys with
  | nil => rfl
  | cons y ys ih => simp only [ycells, List.flatMap_cons, List.length_append, List.length_cons, List.length_nil] at ih ⊢; rw [ih]; omega
theorem ycells_snoc (ys : List Yf) (y : Yf) : ycells (ys ++ [y]) = ycells ys ++ [hv y.f.t, y.val] := by simp [ycells]
structure SpI (w : World) (Bl : Nat) (ys : List Yf) (W : World) : Prop where
  box : ∃ v, Boxed W Bl 65 v ∧ W.ownsRow w.heap.size 67 2 v ys.length (ycells ys)
  r0 : Boxed W w.heap.size 65 (.slice none 0 0)
  r1 : Boxed W (w.heap.size + 1) 42 .nilIface
  low : Below w.heap.size w W

section
variable {w W W' A B : World} {Bl n₀ : Nat} {ys : List Yf}
theorem boxed_lt {i : Nat} {t : TypeId} {v : Value} (h : Boxed W i t v) : i < W.heap.size := (Array.getElem?_eq_some_iff.1 h).1
theorem boxed_uniq {i : Nat} {t : TypeId} {u v : Value} (h : Boxed W i t u) (k : Boxed W i t v) : u = v := by
  unfold Boxed at h k
  rw [h] at k
  simpa using k
theorem SpI.lt (h : SpI w Bl ys W) : ∀ i, SpG Bl W i → i < W.heap.size := by
  rintro i (rfl | ⟨v, hv, hi⟩)
  · obtain ⟨v, hv, _⟩ := h.box
    exact boxed_lt hv
  · obtain ⟨u, hu, hown⟩ := h.box
    rw [boxed_uniq hu hv] at hown
    exact (hown.lt i hi).2
theorem spg_same (hl : B.heap[Bl]? = A.heap[Bl]?) {i : Nat} (h : SpG Bl B i) : SpG Bl A i := by
  rcases h with h | ⟨v, hv, hi⟩
  · exact .inl h
  · exact .inr ⟨v, hl.symm.trans hv, hi⟩
theorem spg_grow (h : ∀ i, SpG Bl A i → i < A.heap.size) (hg : A.grownBy B none) {i : Nat} (hi : SpG Bl B i) : SpG Bl A i :=
  spg_same (hg.block Bl (h Bl (.inl rfl)) (by simp)) hi
theorem kpg_below (hb : Below A.heap.size A B) (hn : n₀ ≤ A.heap.size) (h : ∀ i, SpG Bl A i → i < A.heap.size) : KpG (SpG Bl) n₀ A B :=
  ⟨hb.mono hn, fun i _ _ _ _ hi => (hb.block i (Array.getElem?_eq_some_iff.1 hi).1).trans hi, fun _ _ hi => spg_grow h (grown_of_below hb) hi⟩
/-- what turns a block that is no cells, or grows, keeps all that is said of the two variables -/
theorem spi_own (X : Nat) (hX2 : w.heap.size ≤ X) : OwnFrom X (fun ys W => SpI w Bl ys W) := by
  rintro ys A B row ⟨⟨v, h1, h2⟩, h3, h5, h4⟩ hg hr
  have hne : ∀ (i : Nat) (cs : Array Value) (t : TypeId) (z : Nat × Nat), A.heap[i]? = some (.cells cs t z) → some i ≠ row := by
    intro i cs t z hi e
    obtain ⟨_, o, ho, hoc⟩ := hr i e.symm
    rw [hi] at ho
    cases ho
    cases hoc
  refine ⟨⟨v, h1.kept hg (hne _ _ _ _ h1), h2.kept hg ?_⟩, h3.kept hg (hne _ _ _ _ h3), h5.kept hg (hne _ _ _ _ h5), h4.grown hg h4.size (fun k e => by have := (hr k e).1; omega)⟩
  rcases h2.2 with ⟨rfl, _⟩ | ⟨g, cap, cur, rfl, _, hh, _⟩
  · exact .inl rfl
  · exact .inr (hne g _ _ _ hh)
theorem rowg_turn {row : Option Nat} (hg : A.grownBy B row) (hr : ∀ r, row = some r → Bl ≠ r ∧ ∃ o : Obj, A.heap[r]? = some o ∧ o.isCells = false) (hl : Bl < A.heap.size) {a : Option Addr} {c : Nat} {l : List UInt8}
    (h : RowG (SpG Bl) A a c l) : RowG (SpG Bl) B a c l := by
  obtain ⟨⟨base, h1⟩, h2⟩ := h
  refine ⟨⟨base, h1.kept hg ?_⟩, fun u hu hb => h2 u hu (spg_same (hg.block Bl hl (fun e => (hr Bl e.symm).1 rfl)) hb)⟩
  rcases h1.2 with ⟨h3, _⟩ | ⟨g, cap, cur, h3, _, hh, _⟩
  · rw [h3]; exact .inl rfl
  · rw [h3]
    refine .inr (fun e => ?_)
    obtain ⟨_, o, ho, hoc⟩ := hr g e.symm
    rw [hh] at ho
    cases ho
    cases hoc
end


theorem own_slice {w : World} {base e size n : Nat} {v : Value} {xs : List Value} (h : w.ownsRow base e size v n xs) : ∃ A c, v = .slice A n c := by
  rcases h.2 with ⟨rfl, rfl⟩ | ⟨g, cap, cur, rfl, _⟩
  · exact ⟨_, _, rfl⟩
  · exact ⟨_, _, rfl⟩
/-! ### what Split hands back -/
/-- how a call ends that hands back frames or an error -/
def Gives (w : World) (o : Out) (e : Ending) (w' : World) : Prop := Below w.heap.size w w' ∧
  match o with
  | .ok fs => ∃ A' c' vs, e = .returned (.tuple #[.slice A' fs.length c', .nilIface]) ∧ Frames w' w'.heap.size A' vs fs ∧ fs.length ≤ c' ∧ c' ≤ maxLen
  | .bad code k => e = .returned (.tuple #[.slice none 0 0, faultV code k])
theorem ycells_at (ys : List Yf) : ∀ (i : Nat) (y : Yf), ys[i]? = some y → (ycells ys)[i * 2]? = some (hv y.f.t) ∧ (ycells ys)[i * 2 + 1]? = some y.val := by
  induction ys with
  | nil => intro i y h; simp at h
  | cons z ys ih =>
    intro i y h
    have e : ycells (z :: ys) = hv z.f.t :: z.val :: ycells ys := rfl
    match i, h with
    | 0, h =>
      simp only [List.getElem?_cons_zero, Option.some.injEq] at h
      subst h
      exact ⟨rfl, rfl⟩
    | i + 1, h =>
      simp only [List.getElem?_cons_succ] at h
      have := ih i y h
      rw [e, show (i + 1) * 2 = i * 2 + 1 + 1 by omega]
      exact this
/-- the bytes of an element, in a row of their own, that a store of another type leaves as they are -/
def RowO (W : World) (A : Option Addr) (c : Nat) (l : List UInt8) : Prop := ∃ base, W.ownsRow base 5 1 (.slice A l.length c) l.length (l.map bv)
theorem RowO.set {W : World} {A : Option Addr} {c : Nat} {l : List UInt8} (h : RowO W A c l) {i : Nat} {t : TypeId} {v : Value} (hb : Boxed W i t v) (ht : t ≠ 5) (u : Value) : RowO (W.setCell ⟨i, 0, none⟩ u) A c l := by
  obtain ⟨base, h⟩ := h
  exact ⟨base, h.kept (grownBy_setCell' W i _) (.inr (hb.not_row ht h).symm)⟩
theorem RowO.put {W : World} {A : Option Addr} {c : Nat} {l : List UInt8} (h : RowO W A c l) {D : Nat} {o : Obj} (o' : Obj) (hD : W.heap[D]? = some o) (ho : o.isCells = false) : RowO (W.putObj D o') A c l := by
  obtain ⟨base, h⟩ := h
  exact ⟨base, ownsRow_putObj h _ hD ho⟩
theorem RowO.isB {W : World} {a : Option Addr} {c : Nat} {l : List UInt8} (h : RowO W a c l) : IsB W W.heap.size (.slice a l.length c) l := by
  obtain ⟨base, h1⟩ := h
  have := own_cap h1
  exact ⟨a, c, rfl, Lies.own h1, this.2.1, this.2.2⟩
theorem frames_of {ys : List Yf} {W : World} {v : Value} {n₀ : Nat} (hf : ∀ y ∈ ys, RowO W y.A y.c y.f.v) (hown : W.ownsRow n₀ 67 2 v ys.length (ycells ys)) :
    ∃ A' c', v = .slice A' (ys.map Yf.f).length c' ∧ Frames W W.heap.size A' (ycells ys) (ys.map Yf.f) ∧ (ys.map Yf.f).length ≤ c' ∧ c' ≤ maxLen := by
  have hl : (ys.map Yf.f).length = ys.length := List.length_map _
  have heach : ∀ (i : Nat) (f : Fr), (ys.map Yf.f)[i]? = some f → ∃ u, (ycells ys)[i * 2]? = some (hv f.t) ∧ (ycells ys)[i * 2 + 1]? = some u ∧ IsB W W.heap.size u f.v := by
    intro i f h
    rw [List.getElem?_map] at h
    obtain ⟨y, h1, rfl⟩ := Option.map_eq_some_iff.1 h
    obtain ⟨h2, h3⟩ := ycells_at ys i y h1
    exact ⟨_, h2, h3, (hf y (List.mem_of_getElem? h1)).isB⟩
  rw [hl]
  rcases hown.2 with ⟨rfl, h0⟩ | ⟨g, cap, cur, rfl, h2, h3, h4, h5, _⟩
  · have hy : ys = [] := List.eq_nil_of_length_eq_zero h0
    refine ⟨none, 0, by rw [h0], ⟨?_, by rw [ycells_len, hl], heach⟩, by omega, Nat.zero_le _⟩
    subst hy
    exact Lies.nil
  · exact ⟨_, cap, rfl, ⟨fun _ => ⟨_, rfl, (Array.getElem?_eq_some_iff.1 h3).1, hown.cells (g := g) rfl⟩, by rw [ycells_len, hl], heach⟩, h4, h5⟩

/-! ### results that lie in two cells -/
theorem run_loadVar_one {P : Program} (w : World) (g : Nat) (t ty : TypeId) (v : Value) (d : TypeDesc) (h : Boxed w g t v) (hu : P.underlying ty = some d) (hd : (match d with | .struct _ | .array _ _ => true | _ => false) = false) :
    (loadVar ty ⟨g, 0, none⟩).run P w = .ok v w := by
  have hagg : (isAgg ty).run P w = .ok false w := by
    unfold isAgg
    rw [Sem.run_bind, run_underlying hu w]
    cases d <;> simp_all
  have hc := h.cell
  simp [loadVar, Sem.run_bind, hagg, hc]
theorem results_cell2 {P : Program} {fn : Func} {p q : Tmp} {ty ty2 : TypeId} (h : fn.results = #[.cell p ty, .cell q ty2]) (tmps : Array Value) (w : World) (g g2 : Nat) (t t2 : TypeId) (v v2 : Value) (d d2 : TypeDesc)
    (hp : tmps.getD p undef = .pointer (some ⟨g, 0, none⟩)) (hq : tmps.getD q undef = .pointer (some ⟨g2, 0, none⟩)) (hg : Boxed w g t v) (hg2 : Boxed w g2 t2 v2)
    (hu : P.underlying ty = some d) (hd : (match d with | .struct _ | .array _ _ => true | _ => false) = false) (hu2 : P.underlying ty2 = some d2) (hd2 : (match d2 with | .struct _ | .array _ _ => true | _ => false) = false) :
    (results fn tmps).run P w = .ok (.tuple #[v, v2]) w := by
  have hp' : tmps[p]?.getD undef = .pointer (some ⟨g, 0, none⟩) := by simpa using hp
  have hq' : tmps[q]?.getD undef = .pointer (some ⟨g2, 0, none⟩) := by simpa using hq
  simp only [results, h]
  simp [Result.andThen, hp', hq', asAddr, run_loadVar_one w g t ty v d hg hu hd, run_loadVar_one w g2 t2 ty2 v2 d2 hg2 hu2 hd2]

theorem places_in (n : Nat) (A : Option Addr) (m c : Nat) (w : World) :
    CallsIn Fence.wide n Tryz.prog 51 #[.slice A m c] w fun e w' => e = .returned (.func (.func 65) #[] #[.pointer (some ⟨w.heap.size, 0, none⟩)]) ∧
      w' = w.alloc (.cells #[.slice A m c] 32) := by
  refine callsIn_of_wp Tryz.func51 rfl trivial ?_ rfl
  simp only [Tryz.ntmps51, List.size_toArray, List.length_cons, List.length_nil, Nat.reduceAdd, Nat.reduceSub, Array.replicate_succ, Array.replicate_zero, List.push_toArray, List.append_toArray, List.nil_append, List.cons_append]
  gi_wp2
  go_ret
  exact ⟨rfl, rfl⟩

/-- what the last round has left -/
def SpX (w : World) (e : Nat × Nat) (W : World) : Prop := Below w.heap.size w W ∧ Boxed W w.heap.size 65 (.slice none 0 0) ∧ Boxed W (w.heap.size + 1) 42 (faultV (e.1 : Int) (e.2 : Int))
theorem spx_own (w : World) (X : Nat) (hX : w.heap.size ≤ X) : OwnFrom X (SpX w) := by
  rintro e A B row ⟨h1, h2, h3⟩ hg hr
  have hne : ∀ (i : Nat) (cs : Array Value) (t : TypeId) (z : Nat × Nat), A.heap[i]? = some (.cells cs t z) → some i ≠ row := by
    intro i cs t z hi e
    obtain ⟨_, o, ho, hoc⟩ := hr i e.symm
    rw [hi] at ho
    cases ho
    cases hoc
  exact ⟨h1.grown hg h1.size (fun k e => by have := (hr k e).1; omega), h2.kept hg (hne _ _ _ _ h2), h3.kept hg (hne _ _ _ _ h3)⟩

set_option maxRecDepth 100000 in
set_option maxHeartbeats 4000000 in
theorem split_any (A : Option Addr) (c : Nat) (b : List UInt8) (w : World) (h : Lies w w.heap.size A (b.map bv)) (hc : b.length ≤ c) (hm : c ≤ maxLen) (hs : b.length ≤ 10000000) :
    Calls Tryz.prog 37 #[.slice A b.length c] w (Gives w (spl b)) := by
  refine (callsIn_wide (n := 6)).1 ?_
  refine callsIn_of_wp_marks Tryz.func37 rfl trivial ?_ rfl
  simp only [Tryz.ntmps37, List.size_toArray, List.length_cons, List.length_nil, Nat.reduceAdd, Nat.reduceSub, Array.replicate_succ, Array.replicate_zero, List.push_toArray, List.append_toArray, List.nil_append, List.cons_append]
  gi_wp2_with (refine ⟨trivial, ?_⟩; gi_at_call 51; refine (places_in _ _ _ _ _).mono ?_; rintro e w' ⟨rfl, rfl⟩)
  have hB0 : Below w.heap.size w ((((w.alloc (.cells #[.slice none 0 0] 65)).alloc (.cells #[.nilIface] 42)).alloc (.cells #[.slice none 0 0] 65)).alloc (.cells #[.slice A b.length c] 32)) :=
    ((((Below.refl _ w).alloc (Nat.le_refl _) _).alloc (by simp) _).alloc (by simp; omega) _).alloc (by simp; omega) _
  have x0 := (((Boxed.new w 65 (.slice none 0 0)).alloc (.cells #[.nilIface] 42)).alloc (.cells #[.slice none 0 0] 65)).alloc (.cells #[.slice A b.length c] 32)
  have x1 := ((Boxed.new (w.alloc (.cells #[.slice none 0 0] 65)) 42 .nilIface).alloc (.cells #[.slice none 0 0] 65)).alloc (.cells #[.slice A b.length c] 32)
  have x2 := (Boxed.new ((w.alloc (.cells #[.slice none 0 0] 65)).alloc (.cells #[.nilIface] 42)) 65 (.slice none 0 0)).alloc (.cells #[.slice A b.length c] 32)
  have x3 := Boxed.new (((w.alloc (.cells #[.slice none 0 0] 65)).alloc (.cells #[.nilIface] 42)).alloc (.cells #[.slice none 0 0] 65)) 32 (.slice A b.length c)
  simp only [World.size_alloc] at x1 x2 x3
  have hsz : ((((w.alloc (.cells #[.slice none 0 0] 65)).alloc (.cells #[.nilIface] 42)).alloc (.cells #[.slice none 0 0] 65)).alloc (.cells #[.slice A b.length c] 32)).heap.size = w.heap.size + 1 + 1 + 1 + 1 := by simp
  generalize (((w.alloc (.cells #[.slice none 0 0] 65)).alloc (.cells #[.nilIface] 42)).alloc (.cells #[.slice none 0 0] 65)).alloc (.cells #[.slice A b.length c] 32) = W0 at *
  have h0 : SpI w (w.heap.size + 1 + 1) [] W0 := ⟨⟨_, x2, World.ownsRow_nil _ _ _ _⟩, x0, x1, hB0⟩
  refine each_or (F := Fence.wide) (n := 6) (P := Tryz.prog) rfl (by omega) (gf := 65) (lb := #[.pointer (some ⟨w.heap.size + 1 + 1 + 1, 0, none⟩)]) rfl trivial (enters_of Tryz.func65 (by kernel_rfl) rfl)
    (encs := encY) (encL := encL) (Kp := KpG (SpG (w.heap.size + 1 + 1)) w.heap.size) (G := SpG (w.heap.size + 1 + 1)) (Fin := fun ys W => FinB (SpG (w.heap.size + 1 + 1)) b ys W ∧ w.heap.size + 1 + 1 < W.heap.size) (FinL := FinL b) (N := b.length + 1) ?hseq (fun _ => rfl) (fun _ => rfl)
    KpG.trans ?hKb (fun ys W => SpI w (w.heap.size + 1 + 1) ys W) (spi_own _ (by omega)) (SpX w) (spx_own w _ (by omega)) ?hF h0 (fun _ _ h => h.lt)
    (fun pre x a' W => ∃ g, a' = { tmps := #[.slice A b.length c, undef, .pointer (some ⟨w.heap.size, 0, none⟩), .pointer (some ⟨w.heap.size + 1, 0, none⟩), .pointer (some ⟨w.heap.size + 1 + 1, 0, none⟩), .pointer (some ⟨g, 0, none⟩), .nilIface, .slice A b.length c, .func (.func 65) #[] #[.pointer (some ⟨w.heap.size + 1 + 1 + 1, 0, none⟩)], .agg #[.int .i64 (x.k : Int), hv x.f.t, .slice x.A x.f.v.length x.c], .nilIface, undef, undef, undef, undef, undef, undef, undef, undef, undef], defers := [] } ∧
      Whole W g 103 #[.int .i64 (x.k : Int), hv x.f.t, .slice x.A x.f.v.length x.c] ∧ SpI w (w.heap.size + 1 + 1) pre W ∧ ¬ SpG (w.heap.size + 1 + 1) W g) ?hAx
    (fun pre y a' W => ∃ g, a' = { tmps := #[.slice A b.length c, undef, .pointer (some ⟨w.heap.size, 0, none⟩), .pointer (some ⟨w.heap.size + 1, 0, none⟩), .pointer (some ⟨w.heap.size + 1 + 1, 0, none⟩), .pointer (some ⟨g, 0, none⟩), faultV (y.1 : Int) (y.2 : Int), .slice A b.length c, .func (.func 65) #[] #[.pointer (some ⟨w.heap.size + 1 + 1 + 1, 0, none⟩)], .agg #[.int .i64 0, .int .u16 0, .slice none 0 0], faultV (y.1 : Int) (y.2 : Int), undef, undef, undef, undef, undef, undef, undef, undef, undef], defers := [] } ∧
      SpI w (w.heap.size + 1 + 1) pre W) ?hAl ?assign ?assignL ?body ?bodyL ?done ?stop
  case hseq =>
    intro l J Jx W hW hJg hJG hY hL hj
    refine CallsIn.mono (places1_in 5 (by omega) l (w.heap.size + 1 + 1 + 1) w.heap.size A c b hc hm hs (SpG (w.heap.size + 1 + 1)) (fun A' B' ha hg i hi => spg_grow ha hg hi) J Jx hJg hJG hY hL W (Whole.below x3 hW (by omega)) ?_ (h.below (hB0.trans (hW.mono hB0.size))) (Nat.le_trans hB0.size hW.size) hj) (fun e W' h => by
      obtain ⟨h1, ⟨xs, h2, h3⟩ | h2⟩ := h
      · exact ⟨h1, .inl ⟨xs, ⟨h2, hJG _ _ h3 _ (.inl rfl)⟩, h3⟩⟩
      · exact ⟨h1, .inr h2⟩)
    rintro (h1 | ⟨v, hv, hi⟩)
    · omega
    · have hx : Boxed W (w.heap.size + 1 + 1) 65 (.slice none 0 0) := Whole.below x2 hW (by omega)
      rw [← boxed_uniq hx hv] at hi
      cases hi
  case hKb =>
    intro W l o o' hl ho hoc
    refine ⟨(Below.refl _ W).grown (grownBy_putObj' W l o') (by have := (Array.getElem?_eq_some_iff.1 ho).1; omega) (fun k e => by cases e; omega), fun i cs t z _ hi => ?_, fun i _ hi => spg_same (World.putObj_heap_other (by omega)) hi⟩
    rw [World.putObj_heap_other (fun e => ?_)]
    · exact hi
    · subst e
      rw [hi] at ho
      cases ho
      cases hoc
  case hF =>
    rintro ys X Y row ⟨⟨hk, hy⟩, hlt⟩ hg hr
    exact ⟨⟨hk, fun y hm => rowg_turn hg (fun r e => ⟨by have := (hr r e).1; omega, (hr r e).2⟩) hlt (hy y hm)⟩, Nat.lt_of_lt_of_le hlt hg.size⟩
  case hAx =>
    rintro pre x a' s X Y row ⟨g, ha, hw, hi, hn⟩ hg hr
    refine ⟨g, ha, (hg.block g hw.lt (fun e => ?_)).trans hw, spi_own _ (by omega) _ _ _ _ hi hg hr, fun h => hn (spg_same (hg.block _ (hi.lt _ (.inl rfl)) (fun e => ?_)) h)⟩
    · obtain ⟨_, o, ho, hoc⟩ := hr g e.symm
      unfold Whole at hw
      rw [hw] at ho
      cases ho
      cases hoc
    · have := (hr _ e.symm).1
      omega
  case hAl =>
    rintro pre y a' s X Y row ⟨g, ha, hi⟩ hg hr
    exact ⟨g, ha, spi_own _ (by omega) _ _ _ _ hi hg hr⟩
  case assign =>
    intro l pre x W K hi hK
    have hk : ∀ o, KeepsFrom W0.heap.size W (W.alloc o) := fun o => (KeepsOthers.alloc W o).from _
    simp only [encY]
    gi_wp2
    have hb := (Below.refl W.heap.size W).alloc (Nat.le_refl _) (.cells #[.int .i64 (x.k : Int), hv x.f.t, .slice x.A x.f.v.length x.c] 103)
    refine hK _ _ (hk _) (kpg_below hb hi.low.size hi.lt) ⟨W.heap.size, rfl, Whole.new _ _ _, spi_own _ (Nat.le_refl _) _ _ _ none hi (grown_of_below hb) (fun _ e => by cases e), fun hg => ?_⟩
    exact Nat.lt_irrefl _ (hi.lt _ (spg_grow hi.lt (grown_of_below hb) hg))
  case assignL =>
    intro l pre y W K hi hK
    have hk : ∀ o, KeepsFrom W0.heap.size W (W.alloc o) := fun o => (KeepsOthers.alloc W o).from _
    simp only [encL]
    gi_wp2
    have hb := (Below.refl W.heap.size W).alloc (Nat.le_refl _) (.cells #[.int .i64 0, .int .u16 0, .slice none 0 0] 103)
    exact hK _ _ (hk _) ⟨W.heap.size, rfl, spi_own _ (Nat.le_refl _) _ _ _ none hi (grown_of_below hb) (fun _ e => by cases e)⟩
  case body =>
    rintro l pre x a' W ⟨g, rfl, hw, hi, hn⟩ hlen
    obtain ⟨v, hv1, hrow⟩ := hi.box
    have hc0 := hv1.cell
    have hg1 : W.cell? ⟨g, 1, none⟩ = some (hv x.f.t) := by rw [hw.cell]; rfl
    have hg2 : W.cell? ⟨g, 2, none⟩ = some (.slice x.A x.f.v.length x.c) := by rw [hw.cell]; rfl
    have hle := x.le
    have hsize := hi.low.size
    have hgN : g ≠ w.heap.size + 1 + 1 := fun e => hn (.inl e)
    have hgr : v.ownBlock ≠ some g := fun e => hn (.inr ⟨v, hv1, e⟩)
    have hnew : ∀ j u, [hv x.f.t, Value.slice x.A x.f.v.length x.c][j]? = some u → (W.alloc (.cells #[hv x.f.t, .slice x.A x.f.v.length x.c] 67)).cell? ((⟨W.heap.size, 0, none⟩ : Addr).add j) = some u := fun j u hu => by
      rw [add_row, (Whole.new W 67 #[hv x.f.t, .slice x.A x.f.v.length x.c]).cell]
      simpa using hu
    gi_wp2_with (gi_at_builtin; refine wpListIn_append_told _ rfl (.tmp 14) (.tmp 17) 65 rfl w.heap.size 67 _ 2 32 Tryz.underlying65 frinfo rfl (by omega) _ _ _ rfl (hrow.alloc _) _ 1 1 (by omega) [hv x.f.t, .slice x.A x.f.v.length x.c] rfl rfl hnew (by intro u hu; simp at hu; rcases hu with rfl | rfl <;> rfl) (by unfold maxLen; omega) (by omega) (by simp; omega) ?_; intro v' w1 hown' hgrow' hblk; obtain ⟨A1, c1, rfl⟩ := own_slice hown'; have hv1' := (hv1.alloc (.cells #[hv x.f.t, .slice x.A x.f.v.length x.c] 67)).kept hgrow' (hv1.not_row (by decide) hrow); have d0 := hv1'.cell; have d1 := hv1'.frozen)
    have hle' : x.k + (4 + x.f.v.length) ≤ 10000000 := hle
    have hbx2 : Boxed (w1.setCell ⟨w.heap.size + 1 + 1, 0, none⟩ (.slice A1 (pre.length + 1) c1)) (w.heap.size + 1 + 1) 65 (.slice A1 (pre.length + 1) c1) := hv1'.set _
    have hrw2 : (w1.setCell ⟨w.heap.size + 1 + 1, 0, none⟩ (.slice A1 (pre.length + 1) c1)).ownsRow w.heap.size 67 2 (.slice A1 (pre.length + 1) c1) (pre.length + 1) (ycells pre ++ [hv x.f.t, .slice x.A x.f.v.length x.c]) :=
      hown'.kept (grownBy_setCell' w1 (w.heap.size + 1 + 1) _) (.inr (hv1'.not_row (by decide) hown').symm)
    have hr02 : Boxed (w1.setCell ⟨w.heap.size + 1 + 1, 0, none⟩ (.slice A1 (pre.length + 1) c1)) w.heap.size 65 (.slice none 0 0) :=
      ((hi.r0.alloc (.cells #[hv x.f.t, .slice x.A x.f.v.length x.c] 67)).kept hgrow' (hi.r0.not_row (by decide) hrow)).other (by omega) _
    have hr12 : Boxed (w1.setCell ⟨w.heap.size + 1 + 1, 0, none⟩ (.slice A1 (pre.length + 1) c1)) (w.heap.size + 1) 42 .nilIface :=
      ((hi.r1.alloc (.cells #[hv x.f.t, .slice x.A x.f.v.length x.c] 67)).kept hgrow' (hi.r1.not_row (by decide) hrow)).other (by omega) _
    have hsz1 := hgrow'.size
    simp only [World.size_alloc] at hsz1
    have hsame : ∀ i, i < W.heap.size → i ≠ w.heap.size + 1 + 1 → some i ≠ v.ownBlock → (w1.setCell ⟨w.heap.size + 1 + 1, 0, none⟩ (.slice A1 (pre.length + 1) c1)).heap[i]? = W.heap[i]? := fun i h1 h2 h3 =>
      ((grownBy_setCell' w1 (w.heap.size + 1 + 1) _).block i (by omega) (fun e => h2 (by simpa using e))).trans ((hgrow'.block i (by simp; omega) h3).trans (heap_alloc_old W _ h1))
    have hlowW : Below w.heap.size W (w1.setCell ⟨w.heap.size + 1 + 1, 0, none⟩ (.slice A1 (pre.length + 1) c1)) :=
      (((Below.refl _ W).alloc hi.low.size _).grown hgrow' (by simp; omega) (fun k e => (hrow.lt k e).1)).setCell (by simp; omega) _
    have hblk2 : ∀ i, i < W.heap.size → (Value.slice A1 (pre.length + 1) c1).ownBlock = some i → v.ownBlock = some i := fun i h1 h2 => by
      rcases hblk with h3 | ⟨h3, _⟩
      · rw [h3] at h2
        simp only [Option.some.injEq, World.size_alloc] at h2
        omega
      · exact h3.symm.trans h2
    generalize w1.setCell ⟨w.heap.size + 1 + 1, 0, none⟩ (.slice A1 (pre.length + 1) c1) = W2 at *
    refine ⟨⟨hlowW.size, fun k o _ hk ho => ?_⟩, ⟨hlowW, fun i cs t z hg hi2 => ?_, fun i h1 h2 => ?_⟩, ⟨⟨_, hbx2, ?_⟩, hr02, hr12, hi.low.trans hlowW⟩⟩
    · refine (hsame k (Array.getElem?_eq_some_iff.1 hk).1 ?_ ?_).trans hk
      · rintro rfl
        rw [show W.heap[w.heap.size + 1 + 1]? = _ from hv1] at hk
        cases hk
        cases ho
      · intro e
        rcases hrow.2 with ⟨rfl, _⟩ | ⟨q, cap, cur, rfl, _, hq, _⟩
        · cases e
        · simp only [Value.ownBlock, Option.some.injEq] at e
          rw [e, hq] at hk
          cases hk
          cases ho
    · exact (hsame i (Array.getElem?_eq_some_iff.1 hi2).1 (fun e => hg (.inl e)) (fun e => hg (.inr ⟨v, hv1, e.symm⟩))).trans hi2
    · rcases h2 with h2 | ⟨u, hu, hui⟩
      · exact .inl h2
      · rw [← boxed_uniq hbx2 hu] at hui
        exact .inr ⟨v, hv1, hblk2 i h1 hui⟩
    · rw [List.length_append, ycells_snoc]
      exact hrw2
  case bodyL =>
    rintro l pre y a' W ⟨g, rfl, hi⟩
    have h0c := hi.r0.cell
    have h0f := hi.r0.frozen
    have h1c := hi.r1.cell
    have h1f := hi.r1.frozen
    simp only [faultV]
    gi_wp2
    have k1 := (hi.r0.set (.slice none 0 0)).other (B' := w.heap.size + 1) (by omega) (faultV (y.1 : Int) (y.2 : Int))
    have k2 := (hi.r1.other (B' := w.heap.size) (by omega) (.slice none 0 0)).set (faultV (y.1 : Int) (y.2 : Int))
    exact ⟨((KeepsOthers.setCell _ _ _).trans (KeepsOthers.setCell _ _ _)).from _, (hi.low.setCell (Nat.le_refl _) _).setCell (by simp) _, k1, k2⟩
  case done =>
    rintro D ys W hD ⟨hF, hlt⟩ hi hK
    obtain ⟨v, hv1, hrow⟩ := hi.box
    obtain ⟨A1, c1, rfl⟩ := own_slice hrow
    have hc0 := hv1.cell
    have h0c := hi.r0.cell
    have h0f := hi.r0.frozen
    have h1c := hi.r1.cell
    have h1f := hi.r1.frozen
    have hr1 : Boxed (W.setCell ⟨w.heap.size, 0, none⟩ (.slice A1 ys.length c1)) (w.heap.size + 1) 42 .nilIface := hi.r1.other (by omega) _
    have hrow2 : (W.setCell ⟨w.heap.size, 0, none⟩ (.slice A1 ys.length c1)).ownsRow w.heap.size 67 2 (.slice A1 ys.length c1) ys.length (ycells ys) :=
      hrow.kept (grownBy_setCell' W w.heap.size _) (.inr (hi.r0.not_row (by decide) hrow).symm)
    have hrow3 := hrow2.kept (grownBy_setCell' _ (w.heap.size + 1) .nilIface) (.inr (hr1.not_row (by decide) hrow2).symm)
    have hO : ∀ y ∈ ys, RowO ((W.setCell ⟨w.heap.size, 0, none⟩ (.slice A1 ys.length c1)).setCell ⟨w.heap.size + 1, 0, none⟩ .nilIface) y.A y.c y.f.v := fun y hy =>
      (RowO.set (hF.2 y hy).1 hi.r0 (by decide) _).set hr1 (by decide) _
    have k0 := (hi.r0.set (.slice A1 ys.length c1)).other (B' := w.heap.size + 1) (by omega) .nilIface
    have k1 := hr1.set .nilIface
    have hlow := (hi.low.setCell (p := ⟨w.heap.size, 0, none⟩) (Nat.le_refl _) (.slice A1 ys.length c1)).setCell (p := ⟨w.heap.size + 1, 0, none⟩) (by simp) .nilIface
    have hK2 : ((W.setCell ⟨w.heap.size, 0, none⟩ (.slice A1 ys.length c1)).setCell ⟨w.heap.size + 1, 0, none⟩ .nilIface).heap[D]? = some (.deferred (some [])) :=
      (((KeepsOthers.setCell W ⟨w.heap.size, 0, none⟩ (.slice A1 ys.length c1)).trans (KeepsOthers.setCell _ ⟨w.heap.size + 1, 0, none⟩ .nilIface)).same D _ hK rfl)
    gi_wp2
    generalize (W.setCell ⟨w.heap.size, 0, none⟩ (.slice A1 ys.length c1)).setCell ⟨w.heap.size + 1, 0, none⟩ .nilIface = W2 at *
    refine ⟨by simp, .inl ⟨_, _, rfl, run_takeDeferred hK2, ?_⟩⟩
    refine ⟨_, results_cell2 rfl _ _ w.heap.size (w.heap.size + 1) 65 42 _ _ _ _ rfl rfl ((World.putObj_heap_other (by omega)).trans k0) ((World.putObj_heap_other (by omega)).trans k1) Tryz.underlying65 rfl Tryz.underlying42 rfl, ?_⟩
    rw [show spl b = _ from hF.1]
    obtain ⟨A2, c2, h1, h2, h3, h4⟩ := frames_of (fun y hy => (hO y hy).put (.deferred none) hK2 rfl) (ownsRow_putObj hrow3 (.deferred none) hK2 rfl)
    refine ⟨hlow.grown (grownBy_putObj' W2 D _) hlow.size (fun k e => by cases e; omega), A2, c2, _, ?_, h2, h3, h4⟩
    rw [← h1]
  case stop =>
    rintro D y W hD hF ⟨hlow, hx0, hx1⟩ hK
    gi_wp2
    refine ⟨by simp, .inl ⟨_, _, rfl, run_takeDeferred hK, ?_⟩⟩
    refine ⟨_, results_cell2 rfl _ _ w.heap.size (w.heap.size + 1) 65 42 _ _ _ _ rfl rfl ((World.putObj_heap_other (by omega)).trans hx0) ((World.putObj_heap_other (by omega)).trans hx1) Tryz.underlying65 rfl Tryz.underlying42 rfl, ?_⟩
    rw [show spl b = _ from hF]
    exact ⟨hlow.grown (grownBy_putObj' W D _) hlow.size (fun k e => by cases e; omega), rfl⟩
end Go.Proofs.YtdnilbebdgohnaaGreatDoor

