/- Layer 6, package tlv: Split, for whatever bytes. -/
import Derived.Test.YtgjedidpimncaaaDoorTlvD
import Derived.Test.YtgjedidpimncaaaDoorErrD
import Derived.Test.YtgjedidpimncaaaDoorAppOne
namespace Go.Proofs.YtgjedidpimncaaaDoor
open Go.RowKit Go.Shelf

attribute [local go_sem] Oper.semAt_some

theorem frames_in (n : Nat) (A : Option Addr) (m c : Nat) (w : World) :
    CallsIn Fence.wide n Tryd.prog 22 #[.slice A m c] w fun e w' => e = .returned (.func (.func 36) #[] #[.pointer (some ⟨w.heap.size, 0, none⟩)]) ∧
      w' = w.alloc (.cells #[.slice A m c] 22) := by
  refine callsIn_of_wp Tryd.func22 rfl trivial ?_ rfl
  simp only [Tryd.ntmps22, List.size_toArray, List.length_cons, List.length_nil, Nat.reduceAdd, Nat.reduceSub, Array.replicate_succ, Array.replicate_zero, List.push_toArray, List.append_toArray, List.nil_append, List.cons_append]
  gi_wp2
  go_ret
  exact ⟨rfl, rfl⟩

theorem frinfo : (Tryd.prog.info? 48).map (fun i => (i.zero, i.size, i.bytes)) = some (some (.agg #[.int .u16 0, .slice none 0 0]), 2, 32) := by kernel_rfl

/-- the blocks that the rounds may write: the two variables, and the row that the first one holds -/
def SpG (Bl Be : Nat) (W : World) (i : Nat) : Prop := i = Bl ∨ i = Be ∨ ∃ (v : Value), Boxed W Bl 24 v ∧ v.ownBlock = some i
def ycells (ys : List Yf) : List Value := ys.flatMap fun y => [hv y.f.t, y.val]
theorem ycells_len (ys : List Yf) : (ycells ys).length = ys.length * 2 := by
  induction ys with
  | nil => rfl
  | cons y ys ih => simp only [ycells, List.flatMap_cons, List.length_append, List.length_cons, List.length_nil] at ih ⊢; rw [ih]; omega
theorem ycells_snoc (ys : List Yf) (y : Yf) : ycells (ys ++ [y]) = ycells ys ++ [hv y.f.t, y.val] := by simp [ycells]
def yend (ys : List Yf) : Nat := match ys.getLast? with | none => 0 | some y => y.k + frL y.f
structure SpI (w : World) (Bl Be : Nat) (ys : List Yf) (W : World) : Prop where
  box : ∃ v, Boxed W Bl 24 v ∧ W.ownsRow w.heap.size 48 2 v ys.length (ycells ys)
  fin : Boxed W Be 3 (iv (yend ys))
  low : Below w.heap.size w W

section
variable {w W W' A B : World} {Bl Be n₀ : Nat} {ys : List Yf}
theorem boxed_lt {i : Nat} {t : TypeId} {v : Value} (h : Boxed W i t v) : i < W.heap.size := (Array.getElem?_eq_some_iff.1 h).1
theorem boxed_uniq {i : Nat} {t : TypeId} {u v : Value} (h : Boxed W i t u) (k : Boxed W i t v) : u = v := by
  unfold Boxed at h k
  rw [h] at k
  simpa using k
theorem SpI.lt (h : SpI w Bl Be ys W) : ∀ i, SpG Bl Be W i → i < W.heap.size := by
  rintro i (rfl | rfl | ⟨v, hv, hi⟩)
  · obtain ⟨v, hv, _⟩ := h.box
    exact boxed_lt hv
  · exact boxed_lt h.fin
  · obtain ⟨u, hu, hown⟩ := h.box
    rw [boxed_uniq hu hv] at hown
    exact (hown.lt i hi).2
theorem spg_same (hl : B.heap[Bl]? = A.heap[Bl]?) {i : Nat} (h : SpG Bl Be B i) : SpG Bl Be A i := by
  rcases h with h | h | ⟨v, hv, hi⟩
  · exact .inl h
  · exact .inr (.inl h)
  · exact .inr (.inr ⟨v, hl.symm.trans hv, hi⟩)
theorem spg_grow (h : ∀ i, SpG Bl Be A i → i < A.heap.size) (hg : A.grownBy B none) {i : Nat} (hi : SpG Bl Be B i) : SpG Bl Be A i :=
  spg_same (hg.block Bl (h Bl (.inl rfl)) (by simp)) hi
theorem kpg_below (hb : Below A.heap.size A B) (hn : n₀ ≤ A.heap.size) (h : ∀ i, SpG Bl Be A i → i < A.heap.size) : KpG (SpG Bl Be) n₀ A B :=
  ⟨hb.mono hn, fun i _ _ _ _ hi => (hb.block i (Array.getElem?_eq_some_iff.1 hi).1).trans hi, fun _ _ hi => spg_grow h (grown_of_below hb) hi⟩
/-- what turns a block that is no cells, or grows, keeps all that is said of the two variables -/
theorem spi_own (X : Nat) (hX2 : w.heap.size ≤ X) : OwnFrom X (fun ys W => SpI w Bl Be ys W) := by
  rintro ys A B row ⟨⟨v, h1, h2⟩, h3, h4⟩ hg hr
  have hne : ∀ (i : Nat) (cs : Array Value) (t : TypeId) (z : Nat × Nat), A.heap[i]? = some (.cells cs t z) → some i ≠ row := by
    intro i cs t z hi e
    obtain ⟨_, o, ho, hoc⟩ := hr i e.symm
    rw [hi] at ho
    cases ho
    cases hoc
  refine ⟨⟨v, h1.kept hg (hne _ _ _ _ h1), h2.kept hg ?_⟩, h3.kept hg (hne _ _ _ _ h3), h4.grown hg h4.size (fun k e => by have := (hr k e).1; omega)⟩
  rcases h2.2 with ⟨rfl, _⟩ | ⟨g, cap, cur, rfl, _, hh, _⟩
  · exact .inl rfl
  · exact .inr (hne g _ _ _ hh)
theorem rowg_turn {row : Option Nat} (hg : A.grownBy B row) (hr : ∀ r, row = some r → Bl ≠ r ∧ ∃ o : Obj, A.heap[r]? = some o ∧ o.isCells = false) (hl : Bl < A.heap.size) {a : Option Addr} {c : Nat} {l : List UInt8}
    (h : RowG (SpG Bl Be) A a c l) : RowG (SpG Bl Be) B a c l := by
  obtain ⟨⟨base, h1⟩, h2⟩ := h
  refine ⟨⟨base, h1.kept hg ?_⟩, fun u hu hb => h2 u hu (spg_same (hg.block Bl hl (fun e => (hr Bl e.symm).1 rfl)) hb)⟩
  rcases h1.2 with ⟨h3, _⟩ | ⟨g, cap, cur, h3, _, hh, _⟩
  · rw [h3]; exact .inl rfl
  · rw [h3]
    refine .inr (fun e => ?_)
    obtain ⟨_, o, ho, hoc⟩ := hr g e.symm
    rw [hh] at ho
    cases ho
    cases hoc
end

theorem own_below_n {w w' : World} {base e size n : Nat} {v : Value} {xs : List Value} (h : w.ownsRow base e size v n xs) (hb : Below w.heap.size w w') : w'.ownsRow base e size v n xs := by
  refine ⟨h.1, ?_⟩
  rcases h.2 with h2 | ⟨g, cap, cur, rfl, h3, h4, h5⟩
  · exact .inl h2
  · exact .inr ⟨g, cap, cur, rfl, h3, (hb.block g (Array.getElem?_eq_some_iff.1 h4).1).trans h4, h5⟩
theorem own_slice {w : World} {base e size n : Nat} {v : Value} {xs : List Value} (h : w.ownsRow base e size v n xs) : ∃ A c, v = .slice A n c := by
  rcases h.2 with ⟨rfl, rfl⟩ | ⟨g, cap, cur, rfl, _⟩
  · exact ⟨_, _, rfl⟩
  · exact ⟨_, _, rfl⟩
/-! ### what Split hands back -/
inductive Out where
  | ok (fs : List Fr)
  | bad (code k : Nat)
def kend (l : List (Nat × Fr)) : Nat := match l.getLast? with | none => 0 | some y => y.1 + frL y.2
def spl (b : List UInt8) : Out :=
  if kend (yla b 0) = b.length then .ok ((yla b 0).map Prod.snd)
  else match nx b (kend (yla b 0)) with
    | none => .bad 5 (kend (yla b 0))
    | some k => .bad 4 k
/-- how a call ends that hands back frames or an error -/
def Gives (w : World) (o : Out) (e : Ending) (w' : World) : Prop := Below w.heap.size w w' ∧
  match o with
  | .ok fs => ∃ A' c' vs, e = .returned (.tuple #[.slice A' fs.length c', .nilIface]) ∧ Frames w' w'.heap.size A' vs fs ∧ fs.length ≤ c' ∧ c' ≤ maxLen
  | .bad code k => e = .returned (.tuple #[.slice none 0 0, faultV code k])
theorem yend_key (ys : List Yf) : yend ys = kend (ys.map Yf.key) := by
  unfold yend kend
  rw [List.getLast?_map]
  cases ys.getLast? <;> rfl
theorem yend_snoc (ys : List Yf) (y : Yf) : yend (ys ++ [y]) = y.k + frL y.f := by simp [yend]
theorem yend_le (ys : List Yf) : yend ys ≤ 10000000 := by
  unfold yend
  split
  · omega
  · rename_i y _; exact y.le
theorem ycells_at (ys : List Yf) : ∀ (i : Nat) (y : Yf), ys[i]? = some y → (ycells ys)[i * 2]? = some (hv y.f.t) ∧ (ycells ys)[i * 2 + 1]? = some y.val := by
  induction ys with
  | nil => intro i y h; simp at h
  | cons z ys ih =>
    intro i y h
    have e : ycells (z :: ys) = hv z.f.t :: z.val :: ycells ys := rfl
    match i, h with
    | 0, h =>
      simp only [List.getElem?_cons_zero, Option.some.injEq] at h
      subst h
      exact ⟨rfl, rfl⟩
    | i + 1, h =>
      simp only [List.getElem?_cons_succ] at h
      have := ih i y h
      rw [e, show (i + 1) * 2 = i * 2 + 1 + 1 by omega]
      exact this
theorem frames_of {G : World → Nat → Prop} {b : List UInt8} {ys : List Yf} {W : World} {v : Value} {n₀ : Nat} (hf : FinB G b ys W) (hown : W.ownsRow n₀ 48 2 v ys.length (ycells ys)) :
    ∃ A' c', v = .slice A' ((yla b 0).map Prod.snd).length c' ∧ Frames W W.heap.size A' (ycells ys) ((yla b 0).map Prod.snd) ∧ ((yla b 0).map Prod.snd).length ≤ c' ∧ c' ≤ maxLen := by
  have hl : ((yla b 0).map Prod.snd).length = ys.length := by rw [List.length_map, ← hf.1, List.length_map]
  have hat : ∀ (i : Nat) (f : Fr), ((yla b 0).map Prod.snd)[i]? = some f → ∃ y, ys[i]? = some y ∧ y.f = f := by
    intro i f h
    rw [← hf.1, List.map_map, List.getElem?_map] at h
    obtain ⟨y, h1, h2⟩ := Option.map_eq_some_iff.1 h
    exact ⟨y, h1, h2⟩
  have heach : ∀ (i : Nat) (f : Fr), ((yla b 0).map Prod.snd)[i]? = some f → ∃ u, (ycells ys)[i * 2]? = some (hv f.t) ∧ (ycells ys)[i * 2 + 1]? = some u ∧ IsB W W.heap.size u f.v := by
    intro i f h
    obtain ⟨y, h1, rfl⟩ := hat i f h
    obtain ⟨h2, h3⟩ := ycells_at ys i y h1
    exact ⟨_, h2, h3, (hf.2 y (List.mem_of_getElem? h1)).isB⟩
  rw [hl]
  rcases hown.2 with ⟨rfl, h0⟩ | ⟨g, cap, cur, rfl, h2, h3, h4, h5, _⟩
  · have hy : ys = [] := List.eq_nil_of_length_eq_zero h0
    refine ⟨none, 0, by rw [h0], ⟨?_, by rw [ycells_len, hl], heach⟩, by omega, Nat.zero_le _⟩
    subst hy
    exact Lies.nil
  · exact ⟨_, cap, rfl, ⟨fun _ => ⟨_, rfl, (Array.getElem?_eq_some_iff.1 h3).1, hown.cells (g := g) rfl⟩, by rw [ycells_len, hl], heach⟩, h4, h5⟩

set_option maxRecDepth 100000 in
set_option maxHeartbeats 4000000 in
theorem split_any (A : Option Addr) (c : Nat) (b : List UInt8) (w : World) (h : Lies w w.heap.size A (b.map bv)) (hc : b.length ≤ c) (hm : c ≤ maxLen) (hs : b.length ≤ 10000000) :
    Calls Tryd.prog 7 #[.slice A b.length c] w (Gives w (spl b)) := by
  refine (callsIn_wide (n := 6)).1 ?_
  refine callsIn_of_wp_marks Tryd.func7 rfl trivial ?_ rfl
  simp only [Tryd.ntmps7, List.size_toArray, List.length_cons, List.length_nil, Nat.reduceAdd, Nat.reduceSub, Array.replicate_succ, Array.replicate_zero, List.push_toArray, List.append_toArray, List.nil_append, List.cons_append]
  gi_wp2_with (refine ⟨trivial, ?_⟩; gi_at_call 22; refine (frames_in _ _ _ _ _).mono ?_; rintro e w' ⟨rfl, rfl⟩)
  have hB0 : Below w.heap.size w (((w.alloc (.cells #[.slice none 0 0] 24)).alloc (.cells #[.int .i64 0] 3)).alloc (.cells #[.slice A b.length c] 22)) :=
    (((Below.refl _ w).alloc (Nat.le_refl _) _).alloc (by simp) _).alloc (by simp; omega) _
  have x1 := ((Boxed.new w 24 (.slice none 0 0)).alloc (.cells #[.int .i64 0] 3)).alloc (.cells #[.slice A b.length c] 22)
  have x2 := (Boxed.new (w.alloc (.cells #[.slice none 0 0] 24)) 3 (.int .i64 0)).alloc (.cells #[.slice A b.length c] 22)
  have x3 := Boxed.new ((w.alloc (.cells #[.slice none 0 0] 24)).alloc (.cells #[.int .i64 0] 3)) 22 (.slice A b.length c)
  simp only [World.size_alloc] at x2 x3
  have hsz : (((w.alloc (.cells #[.slice none 0 0] 24)).alloc (.cells #[.int .i64 0] 3)).alloc (.cells #[.slice A b.length c] 22)).heap.size = w.heap.size + 1 + 1 + 1 := by simp
  generalize ((w.alloc (.cells #[.slice none 0 0] 24)).alloc (.cells #[.int .i64 0] 3)).alloc (.cells #[.slice A b.length c] 22) = W0 at *
  have h0 : SpI w w.heap.size (w.heap.size + 1) [] W0 := ⟨⟨_, x1, World.ownsRow_nil _ _ _ _⟩, x2, hB0⟩
  refine each_in (F := Fence.wide) (n := 6) (P := Tryd.prog) rfl (by omega) (gf := 36) (lb := #[.pointer (some ⟨w.heap.size + 1 + 1, 0, none⟩)]) rfl trivial (enters_of Tryd.func36 (by kernel_rfl) rfl)
    (encs := encY) (Kp := KpG (SpG w.heap.size (w.heap.size + 1)) w.heap.size) (G := SpG w.heap.size (w.heap.size + 1)) (Fin := fun ys W => FinB (SpG w.heap.size (w.heap.size + 1)) b ys W ∧ w.heap.size < W.heap.size) (N := b.length + 1) ?hseq (fun _ => rfl)
    KpG.trans ?hKb (fun ys W => SpI w w.heap.size (w.heap.size + 1) ys W) (spi_own _ (by omega)) ?hF h0 (fun _ _ h => h.lt)
    (fun pre x a' W => ∃ g, a' = { tmps := #[.slice A b.length c, undef, .slice none 0 0, .nilIface, .pointer (some ⟨w.heap.size, 0, none⟩), .pointer (some ⟨w.heap.size + 1, 0, none⟩), .int .i64 (x.k : Int), .pointer (some ⟨g, 0, none⟩), undef, undef, .slice A b.length c, .func (.func 36) #[] #[.pointer (some ⟨w.heap.size + 1 + 1, 0, none⟩)], .int .i64 (x.k : Int), .agg #[hv x.f.t, .slice x.A x.f.v.length x.c], undef, undef, undef, undef, undef, undef, undef, undef, undef, undef, undef, undef, undef, undef, undef, undef, undef, undef, undef, undef, undef, undef, undef, undef, undef], defers := [] } ∧
      Whole W g 48 #[hv x.f.t, .slice x.A x.f.v.length x.c] ∧ SpI w w.heap.size (w.heap.size + 1) pre W ∧ ¬ SpG w.heap.size (w.heap.size + 1) W g) ?hAx ?assign ?body ?done
  case hseq =>
    intro l J W hW hJg hJG hY hj
    refine CallsIn.mono (frames1_in 5 (by omega) l (w.heap.size + 1 + 1) w.heap.size A c b hc hm hs (SpG w.heap.size (w.heap.size + 1)) (fun A' B' ha hg i hi => spg_grow ha hg hi) J hJg hJG hY W (Whole.below x3 hW (by omega)) ?_ (h.below (hB0.trans (hW.mono hB0.size))) (Nat.le_trans hB0.size hW.size) hj) (fun e W' h => by obtain ⟨h1, xs, h2, h3⟩ := h; exact ⟨h1, xs, ⟨h2, hJG _ _ h3 _ (.inl rfl)⟩, h3⟩)
    rintro (h1 | h1 | ⟨v, hv, hi⟩)
    · omega
    · omega
    · have hx : Boxed W w.heap.size 24 (.slice none 0 0) := Whole.below x1 hW (by omega)
      rw [← boxed_uniq hx hv] at hi
      cases hi
  case hKb =>
    intro W l o o' hl ho hoc
    refine ⟨(Below.refl _ W).grown (grownBy_putObj' W l o') (by have := (Array.getElem?_eq_some_iff.1 ho).1; omega) (fun k e => by cases e; omega), fun i cs t z _ hi => ?_, fun i _ hi => spg_same (World.putObj_heap_other (by omega)) hi⟩
    rw [World.putObj_heap_other (fun e => ?_)]
    · exact hi
    · subst e
      rw [hi] at ho
      cases ho
      cases hoc
  case hF =>
    rintro ys X Y row ⟨⟨hk, hy⟩, hlt⟩ hg hr
    exact ⟨⟨hk, fun y hm => rowg_turn hg (fun r e => ⟨by have := (hr r e).1; omega, (hr r e).2⟩) hlt (hy y hm)⟩, Nat.lt_of_lt_of_le hlt hg.size⟩
  case hAx =>
    rintro pre x a' s X Y row ⟨g, ha, hw, hi, hn⟩ hg hr
    refine ⟨g, ha, (hg.block g hw.lt (fun e => ?_)).trans hw, spi_own _ (by omega) _ _ _ _ hi hg hr, fun h => hn (spg_same (hg.block _ (hi.lt _ (.inl rfl)) (fun e => ?_)) h)⟩
    · obtain ⟨_, o, ho, hoc⟩ := hr g e.symm
      unfold Whole at hw
      rw [hw] at ho
      cases ho
      cases hoc
    · have := (hr _ e.symm).1
      omega
  case assign =>
    intro l pre x W K hi hK
    have hk : ∀ o, KeepsFrom W0.heap.size W (W.alloc o) := fun o => (KeepsOthers.alloc W o).from _
    simp only [encY]
    gi_wp2
    have hb := (Below.refl W.heap.size W).alloc (Nat.le_refl _) (.cells #[hv x.f.t, .slice x.A x.f.v.length x.c] 48)
    refine hK _ _ (hk _) (kpg_below hb hi.low.size hi.lt) ⟨W.heap.size, rfl, Whole.new _ _ _, spi_own _ (Nat.le_refl _) _ _ _ none hi (grown_of_below hb) (fun _ e => by cases e), fun hg => ?_⟩
    exact Nat.lt_irrefl _ (hi.lt _ (spg_grow hi.lt (grown_of_below hb) hg))
  case body =>
    rintro l pre x a' W ⟨g, rfl, hw, hi, hn⟩ hlen
    obtain ⟨v, hv1, hrow⟩ := hi.box
    have hc0 := hv1.cell
    have hg0 : W.cell? ⟨g, 0, none⟩ = some (hv x.f.t) := by rw [hw.cell]; rfl
    have hg1 : W.cell? ⟨g, 1, none⟩ = some (.slice x.A x.f.v.length x.c) := by rw [hw.cell]; rfl
    have hle := x.le
    have hsize := hi.low.size
    have hgN : g ≠ w.heap.size := fun e => hn (.inl e)
    have hgE : g ≠ w.heap.size + 1 := fun e => hn (.inr (.inl e))
    have hgr : v.ownBlock ≠ some g := fun e => hn (.inr (.inr ⟨v, hv1, e⟩))
    have hnew : ∀ j u, [hv x.f.t, Value.slice x.A x.f.v.length x.c][j]? = some u → (W.alloc (.cells #[hv x.f.t, .slice x.A x.f.v.length x.c] 48)).cell? ((⟨W.heap.size, 0, none⟩ : Addr).add j) = some u := fun j u hu => by
      rw [add_row, (Whole.new W 48 #[hv x.f.t, .slice x.A x.f.v.length x.c]).cell]
      simpa using hu
    gi_wp2_with (gi_at_builtin; refine wpListIn_append_told _ rfl (.tmp 14) (.tmp 16) 24 rfl w.heap.size 48 _ 2 32 Tryd.underlying24 frinfo rfl (by omega) _ _ _ rfl (hrow.alloc _) _ 1 1 (by omega) [hv x.f.t, .slice x.A x.f.v.length x.c] rfl rfl hnew (by intro u hu; simp at hu; rcases hu with rfl | rfl <;> rfl) (by unfold maxLen; omega) (by omega) (by simp; omega) ?_; intro v' w1 hown' hgrow' hblk; obtain ⟨A1, c1, rfl⟩ := own_slice hown'; have hv1' := (hv1.alloc (.cells #[hv x.f.t, .slice x.A x.f.v.length x.c] 48)).kept hgrow' (hv1.not_row (by decide) hrow); have d0 := hv1'.cell; have d1 := hv1'.frozen; have hw1 := ((hw.alloc (.cells #[hv x.f.t, .slice x.A x.f.v.length x.c] 48)).grown hgrow' (Ne.symm hgr)).far (p := ⟨w.heap.size, 0, none⟩) hgN (.slice A1 (pre.length + 1) c1); have e0 := hw1.cell 0; have e1 := hw1.cell 1; simp only [List.getElem?_toArray, List.getElem?_cons_zero, List.getElem?_cons_succ] at e0 e1)
    have hle' : x.k + (4 + x.f.v.length) ≤ 10000000 := hle
    have hEr : some (w.heap.size + 1) ≠ v.ownBlock := (boxed_row_ne hi.fin (by decide) hrow).symm
    have hbx2 : Boxed (w1.setCell ⟨w.heap.size, 0, none⟩ (.slice A1 (pre.length + 1) c1)) w.heap.size 24 (.slice A1 (pre.length + 1) c1) := hv1'.set _
    have hrw2 : (w1.setCell ⟨w.heap.size, 0, none⟩ (.slice A1 (pre.length + 1) c1)).ownsRow w.heap.size 48 2 (.slice A1 (pre.length + 1) c1) (pre.length + 1) (ycells pre ++ [hv x.f.t, .slice x.A x.f.v.length x.c]) :=
      hown'.kept (grownBy_setCell' w1 w.heap.size _) (.inr (hv1'.not_row (by decide) hown').symm)
    have hfn2 : Boxed (w1.setCell ⟨w.heap.size, 0, none⟩ (.slice A1 (pre.length + 1) c1)) (w.heap.size + 1) 3 (iv (yend pre)) :=
      ((hi.fin.alloc (.cells #[hv x.f.t, .slice x.A x.f.v.length x.c] 48)).kept hgrow' hEr).kept (grownBy_setCell' w1 w.heap.size _) (by simp)
    have hsz1 := hgrow'.size
    simp only [World.size_alloc] at hsz1
    have hsame : ∀ i, i < W.heap.size → i ≠ w.heap.size → some i ≠ v.ownBlock → (w1.setCell ⟨w.heap.size, 0, none⟩ (.slice A1 (pre.length + 1) c1)).heap[i]? = W.heap[i]? := fun i h1 h2 h3 =>
      ((grownBy_setCell' w1 w.heap.size _).block i (by omega) (fun e => h2 (by simpa using e))).trans ((hgrow'.block i (by simp; omega) h3).trans (heap_alloc_old W _ h1))
    have hlow2 : Below w.heap.size w (w1.setCell ⟨w.heap.size, 0, none⟩ (.slice A1 (pre.length + 1) c1)) :=
      ((hi.low.alloc hi.low.size _).grown hgrow' (by simp; omega) (fun k e => (hrow.lt k e).1)).setCell (Nat.le_refl _) _
    have hlowW : Below w.heap.size W (w1.setCell ⟨w.heap.size, 0, none⟩ (.slice A1 (pre.length + 1) c1)) :=
      (((Below.refl _ W).alloc hi.low.size _).grown hgrow' (by simp; omega) (fun k e => (hrow.lt k e).1)).setCell (Nat.le_refl _) _
    have hblk2 : ∀ i, i < W.heap.size → (Value.slice A1 (pre.length + 1) c1).ownBlock = some i → v.ownBlock = some i := fun i h1 h2 => by
      rcases hblk with h3 | ⟨h3, _⟩
      · rw [h3] at h2
        simp only [Option.some.injEq, World.size_alloc] at h2
        omega
      · exact h3.symm.trans h2
    generalize w1.setCell ⟨w.heap.size, 0, none⟩ (.slice A1 (pre.length + 1) c1) = W2 at *
    refine ⟨trivial, (CallsIn.inRound l (callsIn_wide.2 (length_any _ _ _ _ _ (by omega)))).mono ?_⟩
    rintro e W3 ⟨rfl, b3⟩
    have hfn3 : Boxed W3 (w.heap.size + 1) 3 (iv (yend pre)) := (b3.block _ (boxed_lt hfn2)).trans hfn2
    have k0 := hfn3.cell
    have k1 := hfn3.frozen
    gi_wp2_with fail
    have hE : ((x.k : Int) + (4 + (x.f.v.length : Int))) = ((yend (pre ++ [x]) : Nat) : Int) := by
      rw [yend_snoc]
      unfold frL
      omega
    rw [hE]
    have hbx4 : Boxed (W3.setCell ⟨w.heap.size + 1, 0, none⟩ (iv (yend (pre ++ [x])))) w.heap.size 24 (.slice A1 (pre.length + 1) c1) :=
      (show Boxed W3 w.heap.size 24 (.slice A1 (pre.length + 1) c1) from (b3.block _ (boxed_lt hbx2)).trans hbx2).other (by omega) _
    have hrw4 : (W3.setCell ⟨w.heap.size + 1, 0, none⟩ (iv (yend (pre ++ [x])))).ownsRow w.heap.size 48 2 (.slice A1 (pre.length + 1) c1) (pre.length + 1) (ycells pre ++ [hv x.f.t, .slice x.A x.f.v.length x.c]) :=
      (own_below_n hrw2 b3).kept (grownBy_setCell' W3 (w.heap.size + 1) _) (.inr (boxed_row_ne (e := 48) hfn3 (by decide) (own_below_n hrw2 b3)))
    have hsame4 : ∀ i, i < W.heap.size → i ≠ w.heap.size → i ≠ w.heap.size + 1 → some i ≠ v.ownBlock → (W3.setCell ⟨w.heap.size + 1, 0, none⟩ (iv (yend (pre ++ [x])))).heap[i]? = W.heap[i]? := fun i h1 h2 h3 h4 =>
      ((grownBy_setCell' W3 (w.heap.size + 1) _).block i (by have := b3.size; have := hlowW.size; omega) (fun e => h3 (by simpa using e))).trans ((b3.block i (by have := hlowW.size; omega)).trans (hsame i h1 h2 h4))
    have hlow4 : Below w.heap.size W (W3.setCell ⟨w.heap.size + 1, 0, none⟩ (iv (yend (pre ++ [x])))) := (hlowW.trans (b3.mono hlow2.size)).setCell (Nat.le_succ _) _
    have hfn4 : Boxed (W3.setCell ⟨w.heap.size + 1, 0, none⟩ (iv (yend (pre ++ [x])))) (w.heap.size + 1) 3 (iv (yend (pre ++ [x]))) := hfn3.set _
    refine ⟨⟨hlow4.size, fun k o _ hk ho => ?_⟩, ⟨hlow4, fun i cs t z hg hi2 => ?_, fun i h1 h2 => ?_⟩, ⟨⟨_, hbx4, ?_⟩, hfn4, hi.low.trans hlow4⟩⟩
    · refine (hsame4 k (Array.getElem?_eq_some_iff.1 hk).1 ?_ ?_ ?_).trans hk
      · rintro rfl
        rw [show W.heap[w.heap.size]? = _ from hv1] at hk
        cases hk
        cases ho
      · rintro rfl
        rw [show W.heap[w.heap.size + 1]? = _ from hi.fin] at hk
        cases hk
        cases ho
      · intro e
        rcases hrow.2 with ⟨rfl, _⟩ | ⟨q, cap, cur, rfl, _, hq, _⟩
        · cases e
        · simp only [Value.ownBlock, Option.some.injEq] at e
          rw [e, hq] at hk
          cases hk
          cases ho
    · exact (hsame4 i (Array.getElem?_eq_some_iff.1 hi2).1 (fun e => hg (.inl e)) (fun e => hg (.inr (.inl e))) (fun e => hg (.inr (.inr ⟨v, hv1, e.symm⟩)))).trans hi2
    · rcases h2 with h2 | h2 | ⟨u, hu, hui⟩
      · exact .inl h2
      · exact .inr (.inl h2)
      · rw [← boxed_uniq hbx4 hu] at hui
        exact .inr (.inr ⟨v, hv1, hblk2 i h1 hui⟩)
    · rw [List.length_append, ycells_snoc]
      exact hrw4
  case done =>
    rintro D ys W hD ⟨hF, hlt⟩ hi hK
    obtain ⟨v, hv1, hrow⟩ := hi.box
    obtain ⟨A1, c1, rfl⟩ := own_slice hrow
    have hc0 := hv1.cell
    have hc1 := hi.fin.cell
    have hey : yend ys = kend (yla b 0) := by rw [yend_key, hF.1]
    have hle := yend_le ys
    have hlow := hi.low
    by_cases he : yend ys = b.length
    · have hS : spl b = .ok ((yla b 0).map Prod.snd) := by unfold spl; rw [if_pos (by rw [← hey]; exact he)]
      have ht : ((yend ys : Int) == (b.length : Int)) = true := by rw [beq_iff_eq]; omega
      clear he hey
      gi_wp2_with fail
      refine ⟨by simp, .inl ⟨_, _, rfl, run_takeDeferred hK, ?_⟩⟩
      refine ⟨_, results_tmp2 rfl _ _ _, ?_⟩
      rw [hS]
      have hg := grownBy_putObj' W D (.deferred none)
      have hr : ∀ r, some D = some r → W0.heap.size ≤ r ∧ ∃ o : Obj, W.heap[r]? = some o ∧ o.isCells = false := fun r e => by cases e; exact ⟨hD, _, hK, rfl⟩
      have hi2 := spi_own (w := w) (Bl := w.heap.size) (Be := w.heap.size + 1) W0.heap.size (by omega) _ _ _ _ hi hg hr
      obtain ⟨v2, hv2, hrow2⟩ := hi2.box
      have hv3 : Boxed (W.putObj D (.deferred none)) w.heap.size 24 (.slice A1 ys.length c1) := (World.putObj_heap_other (by omega)).trans hv1
      rw [boxed_uniq hv2 hv3] at hrow2
      have hF2 : FinB (SpG w.heap.size (w.heap.size + 1)) b ys (W.putObj D (.deferred none)) :=
        ⟨hF.1, fun y hm => rowg_turn hg (fun r e => ⟨by have := (hr r e).1; omega, (hr r e).2⟩) hlt (hF.2 y hm)⟩
      obtain ⟨A2, c2, h1, h2, h3, h4⟩ := frames_of hF2 hrow2
      refine ⟨hi2.low, A2, c2, _, ?_, h2, h3, h4⟩
      rw [← h1]
      rfl
    · have ht : ((yend ys : Int) == (b.length : Int)) = false := by rw [beq_eq_false_iff_ne]; omega
      have hN := nextAt_any A c b (yend ys) W ((h.below hlow).more hlow.size) hc hs
      have hlowD : Below w.heap.size w (W.putObj D (.deferred none)) := hlow.grown (grownBy_putObj' W D _) hlow.size (fun k e => by cases e; omega)
      cases hn : nx b (yend ys) with
      | none =>
        have hS : spl b = .bad 5 (yend ys) := by unfold spl; rw [if_neg (by rw [← hey]; exact he), ← hey, hn]
        rw [hn] at hN
        have HN := Lib.hid hN
        clear hN he hey
        gi_wp2_with fail
        refine ⟨trivial, (callsIn_wide.2 HN.out).mono ?_⟩
        rintro e W2 ⟨rfl, rfl⟩
        gi_wp2_with fail
        refine ⟨trivial, (callsIn_wide.2 (New_any _ _ _)).mono ?_⟩
        rintro e W3 ⟨rfl, rfl⟩
        gi_wp2_with fail
        refine ⟨by simp, .inl ⟨_, _, rfl, run_takeDeferred hK, ?_⟩⟩
        refine ⟨_, results_tmp2 rfl _ _ _, ?_⟩
        rw [hS]
        exact ⟨hlowD, rfl⟩
      | some k =>
        have hS : spl b = .bad 4 k := by unfold spl; rw [if_neg (by rw [← hey]; exact he), ← hey, hn]
        rw [hn] at hN
        have HN := Lib.hid hN
        clear hN he hey
        gi_wp2_with fail
        refine ⟨trivial, (callsIn_wide.2 HN.out).mono ?_⟩
        rintro e W2 ⟨rfl, rfl⟩
        gi_wp2_with fail
        refine ⟨trivial, (callsIn_wide.2 (New_any _ _ _)).mono ?_⟩
        rintro e W3 ⟨rfl, rfl⟩
        gi_wp2_with fail
        refine ⟨by simp, .inl ⟨_, _, rfl, run_takeDeferred hK, ?_⟩⟩
        refine ⟨_, results_tmp2 rfl _ _ _, ?_⟩
        rw [hS]
        exact ⟨hlowD, rfl⟩
end Go.Proofs.YtgjedidpimncaaaDoor
