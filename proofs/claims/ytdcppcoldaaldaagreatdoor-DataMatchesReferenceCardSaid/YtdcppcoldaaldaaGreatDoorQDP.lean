/- Layer 13: lists of descriptions in memory; Split. It writes nothing that was there. -/
/- Layer 13: Split. It writes nothing that was there. -/
/- Layer 13: slices.EqualFunc on descriptions. It writes nothing that was there. -/
import Derived.Test.YtdcppcoldaaldaaGreatDoorQDataO
import Derived.Test.YtdcppcoldaaldaaGreatDoorQDA
import Derived.Test.YtdcppcoldaaldaaGreatDoorQA
import Derived.Test.YtdcppcoldaaldaaGreatDoorQNW
import Derived.Test.YtdcppcoldaaldaaGreatDoorQHX
import Derived.Test.YtdcppcoldaaldaaGreatDoorQDJ
import Derived.Test.YtdcppcoldaaldaaGreatDoorQDE
import Derived.Deep.Cut





namespace Go.Proofs.YtdcppcoldaaldaaGreatDoor
open Go.RowKit Go.Shelf

attribute [local go_sem] Oper.semAt_some
set_option linter.unusedSimpArgs false
/-- a description and where its User lies -/
structure Pm where
  p : Pt
  A : Option Addr
  c : Nat
def pmFlat (ms : List Pm) : List Value := ms.flatMap fun m => (ptCells m.p m.A m.c).toList
theorem pmFlat_snoc (ms : List Pm) (m : Pm) : pmFlat (ms ++ [m]) = pmFlat ms ++ (ptCells m.p m.A m.c).toList := by simp [pmFlat]
theorem pmFlat_len (ms : List Pm) : (pmFlat ms).length = ms.length * 10 := by
  induction ms with
  | nil => rfl
  | cons m ms ih => simp only [pmFlat, List.flatMap_cons, List.length_append, List.length_cons] at ih ⊢; rw [ih]; simp; omega
theorem pmFlat_at {ms : List Pm} : ∀ {k : Nat} {m : Pm}, ms[k]? = some m → ∀ j, j < 10 → (pmFlat ms)[k * 10 + j]? = (ptCells m.p m.A m.c).toList[j]? := by
  induction ms with
  | nil => intro k m h; simp at h
  | cons x ms ih =>
    intro k m h j hj
    have e : pmFlat (x :: ms) = (ptCells x.p x.A x.c).toList ++ pmFlat ms := rfl
    have hl : (ptCells x.p x.A x.c).toList.length = 10 := rfl
    cases k with
    | zero =>
      simp only [List.getElem?_cons_zero, Option.some.injEq] at h
      subst h
      rw [e, List.getElem?_append_left (by omega), Nat.zero_mul, Nat.zero_add]
    | succ k =>
      rw [List.getElem?_cons_succ] at h
      rw [e, List.getElem?_append_right (by omega), hl, show (k + 1) * 10 + j - 10 = k * 10 + j by omega]
      exact ih h j hj
/-- a list of descriptions, as a slice reads it -/
structure Pts (w : World) (B : Nat) (A : Option Addr) (c : Nat) (ms : List Pm) : Prop where
  lies : Lies w B A (pmFlat ms)
  each : ∀ m ∈ ms, PtL w B m.A m.c m.p
  dc : ms.length ≤ c
  dm : c ≤ maxLen
section
variable {w w' : World} {B B' : Nat} {A : Option Addr} {c : Nat} {ms : List Pm}
theorem Pts.below (h : Pts w B A c ms) (hb : Below B w w') : Pts w' B A c ms := ⟨h.lies.below hb, fun m hm => (h.each m hm).below hb, h.dc, h.dm⟩
theorem Pts.more (h : Pts w B A c ms) (hB : B ≤ B') : Pts w B' A c ms := ⟨h.lies.more hB, fun m hm => (h.each m hm).more hB, h.dc, h.dm⟩
theorem Pts.on (h : Pts w w.heap.size A c ms) (hb : Below w.heap.size w w') : Pts w' w'.heap.size A c ms := (h.below hb).more hb.size
/-- the ten cells of an element -/
theorem Pts.at_ (h : Pts w B A c ms) {k : Nat} {m : Pm} (hm : ms[k]? = some m) : ∃ ad, A = some ad ∧ ad.block < B ∧ ∀ j u, j < 10 → (ptCells m.p m.A m.c)[j]? = some u → w.cell? ((ad.add (k * 10)).add j) = some u := by
  obtain ⟨ad, h1, h2, h3⟩ := h.lies (fun e => by
    have hl := pmFlat_len ms
    rw [e, List.length_nil] at hl
    have := (List.getElem?_eq_some_iff.1 hm).1
    omega)
  refine ⟨ad, h1, h2, fun j u hj hu => ?_⟩
  rw [add_add']
  exact h3 _ _ (by rw [pmFlat_at hm j hj]; simpa using hu)
end
/-- a list of descriptions in a row of the call's own, the bytes in rows of its own -/
structure PRow (W : World) (B : Nat) (v : Value) (ms : List Pm) : Prop where
  own : W.ownsRow B 34 10 v ms.length (pmFlat ms)
  each : ∀ m ∈ ms, W.ownsRow B 5 1 (.slice m.A m.p.us.length m.c) m.p.us.length (m.p.us.map bv)
theorem own_capW {w : World} {base e size n c : Nat} {A : Option Addr} {xs : List Value} (h : w.ownsRow base e size (.slice A n c) n xs) : n ≤ c ∧ c ≤ maxLen := by
  rcases h.2 with ⟨h1, h2⟩ | ⟨g, cap, cur, h1, _, _, h3, h4, _⟩
  · simp only [Value.slice.injEq] at h1
    rw [h2, h1.2.2]
    exact ⟨Nat.le_refl _, Nat.zero_le _⟩
  · simp only [Value.slice.injEq] at h1
    rw [h1.2.2]
    exact ⟨h3, h4⟩
theorem PRow.pts {W : World} {B c : Nat} {A : Option Addr} {n : Nat} {ms : List Pm} (h : PRow W B (.slice A n c) ms) : n = ms.length ∧ Pts W W.heap.size A c ms := by
  have hn : n = ms.length := by
    rcases h.own.2 with ⟨h1, h2⟩ | ⟨g, cap, cur, h1, _⟩
    · simp only [Value.slice.injEq] at h1; rw [h2, h1.2.1]
    · simp only [Value.slice.injEq] at h1; exact h1.2.1
  subst hn
  have hcap := own_capW h.own
  refine ⟨rfl, ⟨fun hne => ?_, fun m hm => ?_, hcap.1, hcap.2⟩⟩
  · rcases h.own.2 with ⟨_, h2⟩ | ⟨g, cap, cur, h1, _, h3, _⟩
    · refine absurd (List.eq_nil_of_length_eq_zero ?_) hne
      rw [pmFlat_len, h2]
    · simp only [Value.slice.injEq] at h1
      obtain ⟨rfl, _, _⟩ := h1
      exact ⟨_, rfl, (Array.getElem?_eq_some_iff.1 h3).1, h.own.cells (g := g) rfl⟩
  · have h4 := own_cap (h.each m hm)
    exact ⟨Lies.own (h.each m hm), h4.2.1, h4.2.2⟩
set_option maxRecDepth 100000 in
theorem bclone_own (A : Option Addr) (c : Nat) (l : List UInt8) (w : World) (h : Lies w w.heap.size A (l.map bv)) (hn : l.length ≤ 140737488355328) :
    Calls Tryz.prog 116 #[.slice A l.length c] w fun e w' => ∃ A' c', e = .returned (.slice A' l.length c') ∧ w'.ownsRow w.heap.size 5 1 (.slice A' l.length c') l.length (l.map bv) ∧ Below w.heap.size w w' := by
  rcases A with _ | ad
  · have hl : l = [] := by
      cases l with
      | nil => rfl
      | cons x l => obtain ⟨ad, h3, _⟩ := h (by simp); cases h3
    subst hl
    have hq : (binOp .eql 24 (.slice none 0 c) (.slice none 0 0)).run Tryz.prog w = .ok (.bool true) w := run_eql_nil_slice (P := Tryz.prog) w 24 5 none 0 c 0 0 Tryz.underlying24
    go_enter Tryz.func116, Tryz.ntmps116
    go_wp2_with fail
    go_ret
    exact ⟨none, 0, rfl, World.ownsRow_nil _ _ _ _, Below.refl _ _⟩
  · have h3 := one_bytes l
    have H1 := Lib.hid h3
    have hE := own_empty w w.heap.size (Nat.le_refl _)
    have hq : (binOp .eql 24 (.slice (some ad) l.length c) (.slice none 0 0)).run Tryz.prog w = .ok (.bool false) w := run_eql_nil_slice (P := Tryz.prog) w 24 5 (some ad) l.length c 0 0 Tryz.underlying24
    go_enter Tryz.func116, Tryz.ntmps116
    go_wp2_with (at_builtin; refine wpList_append_lies _ rfl (.tmp 5) (.tmp 6) 24 rfl w.heap.size 5 _ 1 Tryz.underlying24 u8info rfl _ _ _ rfl hE _ _ l.length c (l.map bv) rfl (by simp) ((h.alloc (Nat.le_refl _) _).more (B' := w.heap.size + 1) (by omega)) H1.out (by omega) (by unfold maxLen; omega) (by simp) ?_; intro A' c' w1 hown hgrow _)
    simp only [Nat.zero_add, List.nil_append] at hown
    have hB := ((Below.refl _ w).alloc (Nat.le_refl _) (.cells #[] 5)).grown hgrow (by simp) (fun k e => by cases e; exact Nat.le_refl _)
    have HO := Lib.hid hown
    clear hown hgrow
    go_wp2_with fail
    go_ret
    exact ⟨A', c', rfl, HO.out, hB⟩
theorem ptinfo : (Tryz.prog.info? 34).map (fun i => (i.zero, i.size, i.bytes)) = some (some (.agg #[.bool false, .int .u32 0, .int .u16 0, .int .u32 0, .int .u32 0, .bool false, .bool false, .bool false, .bool false, .slice none 0 0]), 10, 48) := by kernel_rfl
/-! ### Split -/
def splP (p : Pt) (n : Nat) : List Pt := (List.range ((p.us.length + n - 1) / n)).map (pieceP p n)
def splL (p : Pt) (k : Int) : List Pt := if whoB p = true ∧ 1 ≤ k then splP p k.toNat else []
/-- the blocks that a round of Split's loop writes: the variable, the row that it has -/
def SqG (Bl : Nat) (W : World) (i : Nat) : Prop := i = Bl ∨ ∃ v, Boxed W Bl 44 v ∧ v.ownBlock = some i
structure SqI (w0 : World) (B0 : Nat) (p : Pt) (n Bl : Nat) (pre : List Nat) (W : World) : Prop where
  low : Below B0 w0 W
  bl : B0 ≤ Bl
  box : ∃ v ms, Boxed W Bl 44 v ∧ PRow W B0 v ms ∧ ms.map Pm.p = pre.map (pieceP p n)
section
variable {w0 A B : World} {B0 n Bl X : Nat} {p : Pt} {pre : List Nat}
theorem sqg_same (hl : B.heap[Bl]? = A.heap[Bl]?) {i : Nat} (h : SqG Bl B i) : SqG Bl A i := by
  rcases h with h | ⟨v, hv, hi⟩
  · exact .inl h
  · exact .inr ⟨v, hl.symm.trans hv, hi⟩
theorem sqg_ownN (h : Bl < X) : GOwnN X (SqG Bl) := fun A B row hA hg hr i hi => sqg_same (hg.block Bl (by omega) (fun e => by have := (hr Bl e.symm).1; omega)) hi
theorem sqg_keep : KeepG X (SqG Bl) := fun A g i u _ _ _ _ _ hn _ hk => sqg_same (Below.heap_setCell A ⟨g, i, none⟩ u Bl (fun e => hn (.inl e.symm))) hk
theorem SqI.lt (h : SqI w0 B0 p n Bl pre A) : ∀ i, SqG Bl A i → i < A.heap.size := by
  rintro i (rfl | ⟨v, hv, hi⟩)
  · obtain ⟨v, ms, hv, _⟩ := h.box
    exact boxed_lt hv
  · obtain ⟨v', ms, hv', hr, _⟩ := h.box
    rw [boxed_uniq hv hv'] at hi
    exact (hr.own.lt i hi).2
theorem PRow.kept {v : Value} {ms : List Pm} (h : PRow A B0 v ms) {row : Option Nat} (hg : A.grownBy B row) (hr : ∀ r, row = some r → v.ownBlock ≠ some r ∧ ∀ m ∈ ms, (Value.slice m.A m.p.us.length m.c).ownBlock ≠ some r) : PRow B B0 v ms := by
  cases row with
  | none => exact ⟨h.own.kept hg (by cases v.ownBlock <;> simp), fun m hm => (h.each m hm).kept hg (by cases (Value.slice m.A m.p.us.length m.c).ownBlock <;> simp)⟩
  | some r => exact ⟨h.own.kept hg (.inr (hr r rfl).1), fun m hm => (h.each m hm).kept hg (.inr ((hr r rfl).2 m hm))⟩
theorem own_ne_obj {W : World} {base e size k r : Nat} {v : Value} {xs : List Value} (h : W.ownsRow base e size v k xs) {o : Obj} (ho : W.heap[r]? = some o) (hoc : o.isCells = false) : v.ownBlock ≠ some r := by
  intro e1
  rcases h.2 with ⟨rfl, _⟩ | ⟨q, cap, cur, rfl, _, hq, _⟩
  · cases e1
  · simp only [Value.ownBlock, Option.some.injEq] at e1
    rw [e1, ho] at hq
    cases hq
    cases hoc
theorem sqi_own (hX : B0 ≤ X) : OwnFrom X (SqI w0 B0 p n Bl) := by
  rintro pre A B row ⟨hlow, hbl, v, ms, hv, hr, he⟩ hg hrow
  refine ⟨hlow.grown hg (Nat.le_of_lt (Nat.lt_of_le_of_lt hbl (boxed_lt hv))) (fun r e => Nat.le_trans hX (hrow r e).1), hbl, v, ms, hv.kept hg (cells_row_ne hv hrow), hr.kept hg (fun r e => ?_), he⟩
  obtain ⟨_, o, ho, hoc⟩ := hrow r e
  exact ⟨own_ne_obj hr.own ho hoc, fun m hm => own_ne_obj (hr.each m hm) ho hoc⟩
theorem sqi_keep (hX : B0 ≤ X) : KeepJ X (fun t => t ≠ 5) (SqG Bl) (SqI w0 B0 p n Bl) := by
  rintro pre A g i u cs t z ⟨hlow, hbl, v, ms, hv, hr, he⟩ hXg hg ht hn
  refine ⟨hlow.setCell (Nat.le_trans hX hXg) _, hbl, v, ms, Whole.far hv (fun e => hn (.inl e.symm)) _, hr.kept (grownBy_setCell1 A g i u) (fun r e => ?_), he⟩
  cases e
  refine ⟨fun e => hn (.inr ⟨v, hv, e⟩), fun m hm e => ?_⟩
  rcases (hr.each m hm).2 with ⟨h1, _⟩ | ⟨q, cap, cur, h1, _, hq, _⟩
  · simp only [Value.slice.injEq] at h1
    rw [h1.1] at e
    cases e
  · simp only [Value.slice.injEq] at h1
    rw [h1.1] at e
    simp only [Value.ownBlock, Option.some.injEq] at e
    rw [e, hg] at hq
    simp only [Option.some.injEq, Obj.cells.injEq] at hq
    exact ht hq.2.1
end
end Go.Proofs.YtdcppcoldaaldaaGreatDoor




namespace Go.Proofs.YtdcppcoldaaldaaGreatDoor
open Go.RowKit Go.Shelf

attribute [local go_sem] Oper.semAt_some
set_option linter.unusedSimpArgs false
def SplR (L : List Pt) (w : World) (e : Ending) (w' : World) : Prop := Below w.heap.size w w' ∧ ∃ A' c' ms, e = .returned (.slice A' L.length c') ∧ ms.map Pm.p = L ∧ Pts w' w'.heap.size A' c' ms
theorem splR_nil {w w' : World} (h : Below w.heap.size w w') : SplR [] w (.returned (.slice none 0 0)) w' :=
  ⟨h, none, 0, [], rfl, rfl, Lies.nil, by simp, Nat.le_refl _, Nat.zero_le _⟩
theorem map_pieces (p : Pt) (n : Nat) {xs : List Nat} (hx : xs = List.range xs.length) (h1 : p.us.length ≤ xs.length * n) (h2 : ∀ k, k < xs.length → k * n < p.us.length) (hn : 1 ≤ n) : xs.map (pieceP p n) = splP p n := by
  unfold splP
  have hl : (p.us.length + n - 1) / n = xs.length := by
    rcases Nat.eq_zero_or_pos xs.length with h | h
    · rw [h] at h1 ⊢
      rw [Nat.div_eq_of_lt]
      omega
    · have h3 := h2 (xs.length - 1) (by omega)
      have h4 : (xs.length - 1) * n + n = xs.length * n := by rw [← Nat.succ_mul]; congr 1; omega
      refine Nat.le_antisymm ?_ ?_
      · have : p.us.length + n - 1 < (xs.length + 1) * n := by rw [Nat.succ_mul]; omega
        have := (Nat.div_lt_iff_lt_mul (by omega : 0 < n)).2 this
        omega
      · exact (Nat.le_div_iff_mul_le (by omega : 0 < n)).2 (by omega)
  rw [hl, ← hx]
theorem whole_row_ne13 {W : World} {g : Nat} {t e : TypeId} {cs : Array Value} {z : Nat × Nat} (h : W.heap[g]? = some (.cells cs t z)) (hte : t ≠ e) {base size n : Nat} {v : Value} {xs : List Value} (hr : W.ownsRow base e size v n xs) : v.ownBlock ≠ some g := by
  rcases hr.2 with ⟨rfl, _⟩ | ⟨q, cap, cur, rfl, _, hq, _⟩
  · simp [Value.ownBlock]
  · intro he
    simp only [Value.ownBlock, Option.some.injEq] at he
    subst he
    rw [h] at hq
    simp only [Option.some.injEq, Obj.cells.injEq] at hq
    exact hte hq.2.1
theorem rows_ne13 {W : World} {b1 e1 s1 n1 b2 e2 s2 n2 : Nat} {v1 v2 : Value} {x1 x2 : List Value} (h1 : W.ownsRow b1 e1 s1 v1 n1 x1) (h2 : W.ownsRow b2 e2 s2 v2 n2 x2) (he : e1 ≠ e2) : v1.ownBlock = none ∨ v1.ownBlock ≠ v2.ownBlock := by
  rcases h1.2 with ⟨rfl, _⟩ | ⟨q, cap, cur, rfl, _, hq, _⟩
  · exact .inl rfl
  · exact .inr fun e => whole_row_ne13 hq he h2 e.symm
theorem pc_lies {W : World} {B : Nat} {ad : Addr} {p : Pt} (h : Lies W B (some ad) (p.us.map bv)) (hl : 1 ≤ p.us.length) (n x : Nat) : Lies W B (some (ad.add (x * n))) ((pieceP p n x).us.map bv) := by
  have h1 := h.drop (k := x * n) (c := x * n + p.us.length) (by simp)
  rw [if_neg (by omega)] at h1
  have h2 := h1.take n
  rw [← List.map_drop, ← List.map_take] at h2
  exact h2
set_option maxRecDepth 100000 in
set_option maxHeartbeats 8000000 in
theorem dsplit_any (p : Pt) (A : Option Addr) (c : Nat) (k : Int) (hk2 : k ≤ 9223372036854775807) (w : World) (hp : PtL w w.heap.size A c p) : Calls Tryz.prog 60 #[ptV p A c, .int .i64 k] w (SplR (splL p k) w) := by
  have b0 : Below w.heap.size w (w.alloc (.cells (ptCells p A c) 34)) := (Below.refl _ w).alloc (Nat.le_refl _) _
  have x0 := Whole.new w 34 (ptCells p A c)
  have hs0 : (w.alloc (.cells (ptCells p A c) 34)).heap.size = w.heap.size + 1 := by simp
  have hp0 := hp.on b0
  have hWh := isWhole13_any p A c (w.alloc (.cells (ptCells p A c) 34))
  have HB := Lib.hid b0
  have HP := Lib.hid hp
  clear hp
  refine (callsIn_wide (n := 6)).1 ?_
  refine callsIn_of_wp_marks Tryz.func60 rfl trivial ?_ rfl
  simp only [Tryz.ntmps60, List.size_toArray, List.length_cons, List.length_nil, Nat.reduceAdd, Nat.reduceSub, Array.replicate_succ, Array.replicate_zero, List.push_toArray, List.append_toArray, List.nil_append, List.cons_append]
  obtain ⟨q0, q1, q2, q3, q4, q5, q6, q7, q8, q9⟩ := x0.cs10
  gi_wp2_with fail
  generalize w.alloc (.cells (ptCells p A c) 34) = w1 at *
  refine ⟨trivial, (callsIn_wide.2 hWh).mono ?_⟩
  rintro e w2 ⟨rfl, b2⟩
  have x2 := x0.below b2 (by omega)
  have B2 := HB.out.trans (b2.mono (by omega))
  have hp2 := hp0.on b2
  have hs2 := b2.size
  clear q0 q1 q2 q3 q4 q5 q6 q7 q8 q9 hWh
  obtain ⟨q0, q1, q2, q3, q4, q5, q6, q7, q8, q9⟩ := x2.cs10
  have HN := Lib.hid (splR_nil B2)
  cases hwh : whoB p with
  | false =>
    have hL : splL p k = [] := by unfold splL; rw [hwh]; simp
    have HN2 := HN.out
    rw [← hL] at HN2
    have HN := Lib.hid HN2
    clear HN2 hL
    gi_wp2_with fail
    refine ⟨_, results_tmp rfl _ _ _, ?_⟩
    exact HN.out
  | true =>
    by_cases hk : 1 ≤ k
    · have hk1 : ¬ k < 1 := by omega
      obtain ⟨n, rfl⟩ : ∃ n : Nat, k = (n : Int) := ⟨k.toNat, by omega⟩
      have hL : splL p (n : Int) = splP p n := by unfold splL; rw [if_pos ⟨hwh, hk⟩, Int.toNat_natCast]
      have HL := Lib.hid hL
      have hn1 : 1 ≤ n := by omega
      have hdes := des_parts (show desB p = true by unfold whoB at hwh; simp only [Bool.and_eq_true] at hwh; exact hwh.1)
      have hu1 : 1 ≤ p.us.length := hdes.1
      have hu2 : p.us.length ≤ 65535 := by omega
      obtain ⟨ad, rfl, hadb, hadc⟩ := HP.out.data (fun e => by rw [List.map_eq_nil_iff] at e; rw [e] at hu1; simp at hu1)
      clear hdes hwh hk hL HN
      gi_upto_region 4 with fail
      have b3 : Below w2.heap.size w2 (w2.alloc (.cells #[.slice none 0 0] 44)) := (Below.refl _ w2).alloc (Nat.le_refl _) _
      have x3 := x2.alloc (.cells #[.slice none 0 0] 44)
      have y3 := Boxed.new w2 44 (.slice none 0 0)
      have hs3 : w2.heap.size + 1 ≤ (w2.alloc (.cells #[.slice none 0 0] 44)).heap.size := by simp
      generalize w2.alloc (.cells #[.slice none 0 0] 44) = w3 at *
      clear q0 q1 q2 q3 q4 q5 q6 q7 q8 q9
      obtain ⟨q0, q1, q2, q3, q4, q5, q6, q7, q8, q9⟩ := x3.cs10
      gi_wp2_with fail
      refine ⟨trivial, (pieces_in _ _ _ _ _ _).mono ?_⟩
      rintro e w4 ⟨rfl, rfl⟩
      have b4 : Below w3.heap.size w3 ((w3.alloc (.cells (ptCells p (some ad) c) 34)).alloc (.cells #[.int .i64 (n : Int)] 3)) := ((Below.refl _ w3).alloc (Nat.le_refl _) _).alloc (by simp) _
      have z4 := (Whole.new w3 34 (ptCells p (some ad) c)).alloc (.cells #[.int .i64 (n : Int)] 3)
      have v4 := Whole.new (w3.alloc (.cells (ptCells p (some ad) c) 34)) 3 #[.int .i64 (n : Int)]
      rw [World.size_alloc] at v4
      have hs4 : w3.heap.size + 2 ≤ ((w3.alloc (.cells (ptCells p (some ad) c) 34)).alloc (.cells #[.int .i64 (n : Int)] 3)).heap.size := by simp
      gi_wp2_with fail
      generalize (w3.alloc (.cells (ptCells p (some ad) c) 34)).alloc (.cells #[.int .i64 (n : Int)] 3) = W0 at *
      have y4 : Boxed W0 w2.heap.size 44 (.slice none 0 0) := Whole.below y3 b4 (by omega)
      have B0 : Below w2.heap.size w2 W0 := b3.trans (b4.mono (by omega))
      have I0 : SqI w2 w2.heap.size p n w2.heap.size [] W0 := ⟨B0, Nat.le_refl _, _, [], y4, ⟨World.ownsRow_nil _ _ _ _, by simp⟩, rfl⟩
      clear q0 q1 q2 q3 q4 q5 q6 q7 q8 q9
      refine each_keep .ret (F := Fence.wide) (n := 6) (P := Tryz.prog) rfl (by omega) (gf := 146) (lb := #[.pointer (some ⟨w3.heap.size, 0, none⟩), .pointer (some ⟨w3.heap.size + 1, 0, none⟩)]) rfl trivial (enters_of Tryz.func146 (by kernel_rfl) rfl)
        (encs := encPc p (some ad) n) (Kp := KpG (SqG w2.heap.size) w2.heap.size) (T := fun t => t ≠ 5) (G := SqG w2.heap.size) (Row := fun pre _ x => RowPc p n pre x) (Fin := FinPc p n) (FinX := fun q => RowPc p n q.1 q.2) (N := 65536) ?hseq (fun _ => rfl)
        KpG.trans ?hKb (fun pre V => SqI w2 w2.heap.size p n w2.heap.size pre V ∧ pre = List.range pre.length ∧ ∀ k, k < pre.length → k * n < p.us.length) ?hIo ?hIk (fun _ _ => False) ?hIx ⟨I0, rfl, fun k hk => absurd hk (by simp)⟩ (fun _ _ h => h.1.lt)
        (fun pre x V0 a' V => ∃ g, a' = { tmps := #[ptV p (some ad) c, .int .i64 (n : Int), .pointer (some ⟨w.heap.size, 0, none⟩), undef, .slice none 0 0, .pointer (some ⟨w2.heap.size, 0, none⟩), .pointer (some ⟨g, 0, none⟩), ptV p (some ad) c, .bool true, .bool false, .bool false, .int .i64 (n : Int), .bool (decide ((n : Int) < 1)), .bool (decide ((n : Int) < 1)), ptV p (some ad) c, .int .i64 (n : Int), .func (.func 146) #[] #[.pointer (some ⟨w3.heap.size, 0, none⟩), .pointer (some ⟨w3.heap.size + 1, 0, none⟩)], ptV (pieceP p n x) (some (ad.add (x * n))) (min n (p.us.length - x * n)), undef, undef, undef, undef, undef, undef, undef, undef, undef], defers := [] } ∧
          Whole V g 34 (ptCells (pieceP p n x) (some (ad.add (x * n))) (min n (p.us.length - x * n))) ∧ (SqI w2 w2.heap.size p n w2.heap.size pre V ∧ pre = List.range pre.length ∧ ∀ k, k < pre.length → k * n < p.us.length) ∧ RowPc p n pre x ∧ ¬ SqG w2.heap.size V g ∧ w2.heap.size ≤ g ∧ V0.heap.size ≤ g ∧ KpG (SqG w2.heap.size) w2.heap.size V0 V) ?hAx
        ?assign ?body ?done ?stop
      case hseq =>
        intro l J Jx V hV hJo hJxo hJk hJG hY hj
        have hVs := hV.size
        have hPt : Whole V w3.heap.size 34 (ptCells p (some ad) c) := z4.below hV (by omega)
        exact pieces1_in l w3.heap.size (w3.heap.size + 1) w2.heap.size 65536 p (some ad) c n hu1 hu2 HP.out.dc HP.out.dm ⟨ad, rfl⟩ hn1 (by omega) (Nat.le_refl _) (SqG w2.heap.size) V (sqg_ownN (by omega)) J Jx hJo hJxo hJk sqg_keep hJG hY
          hPt (fun h => by rcases sqg_same (A := W0) (hV.block _ (by omega)) h with h | ⟨v, hv, hi⟩ <;> first | omega | (rw [← boxed_uniq y4 hv] at hi; cases hi)) (v4.below hV (by omega)) (by omega) hj
      case hKb =>
        intro V l' o o' hl ho hoc
        have hlt := (Array.getElem?_eq_some_iff.1 ho).1
        refine ⟨(Below.refl _ V).grown (grownBy_putObj' V l' o') (by omega) (fun k e => by cases e; omega), fun i cs t z _ hi => ?_, fun i _ hi => sqg_same (World.putObj_heap_other (by omega)) hi⟩
        rw [World.putObj_heap_other (fun e => ?_)]
        · exact hi
        · subst e
          rw [hi] at ho
          cases ho
          cases hoc
      case hIo =>
        rintro pre V V' row ⟨h1, h2⟩ hg hr
        exact ⟨sqi_own (by omega) _ _ _ _ h1 hg hr, h2⟩
      case hIk =>
        rintro pre V g i u cs t z ⟨h1, h2⟩ hX hg ht hn
        exact ⟨sqi_keep (by omega) _ _ g i u cs t z h1 hX hg ht hn, h2⟩
      case hIx => exact fun _ _ _ _ h _ _ => h
      case hAx =>
        rintro pre x V0 a' s X Y row ⟨g, ha, hw, ⟨h1, h2⟩, h3, h4, h5, h6, h7⟩ hg hr
        have hbx : Y.heap[w2.heap.size]? = X.heap[w2.heap.size]? := by
          obtain ⟨v, ms, hv, _⟩ := h1.box
          exact hg.block _ (boxed_lt hv) (fun e => by have := (hr _ e.symm).1; omega)
        refine ⟨g, ha, (hg.block g hw.lt (fun e => ?_)).trans hw, ⟨sqi_own (by omega) _ _ _ _ h1 hg hr, h2⟩, h3, fun h => h4 (sqg_same hbx h), h5, h6, ⟨h7.low.grown hg h1.low.size (fun r e => by have := (hr r e).1; omega), fun i cs t z hn hi => (hg.block i (Array.getElem?_eq_some_iff.1 (h7.same i cs t z hn hi)).1 (cells_row_ne (h7.same i cs t z hn hi) hr)).trans (h7.same i cs t z hn hi), fun i hi h => h7.own i hi (sqg_same hbx h)⟩⟩
        obtain ⟨_, o, ho, hoc⟩ := hr g e.symm
        unfold Whole at hw
        rw [hw] at ho
        cases ho
        cases hoc
      case assign =>
        intro l' pre x V K hi hrx hK
        have hk : ∀ o, KeepsFrom W0.heap.size V (V.alloc o) := fun o => (KeepsOthers.alloc V o).from _
        simp only [encPc, Option.map_some]
        gi_wp2
        have hb := (Below.refl V.heap.size V).alloc (Nat.le_refl _) (.cells (ptCells (pieceP p n x) (some (ad.add (x * n))) (min n (p.us.length - x * n))) 34)
        have hlow := hi.1.low.size
        have hlt := hi.1.lt
        have hown := sqg_ownN (X := V.heap.size) (Bl := w2.heap.size) (by obtain ⟨v, ms, hv, _⟩ := hi.1.box; exact boxed_lt hv) _ _ none (Nat.le_refl _) (grown_of_below hb) (fun r e => by cases e)
        exact hK _ _ (hk _) ⟨V.heap.size, rfl, Whole.new _ _ _, ⟨sqi_own hlow _ _ _ none hi.1 (grown_of_below hb) (fun _ e => by cases e), hi.2⟩, hrx, fun h => Nat.lt_irrefl _ (hlt _ (hown _ h)), hlow, Nat.le_refl _,
          ⟨hb.mono hlow, fun i _ _ _ _ h2 => (hb.block i (Array.getElem?_eq_some_iff.1 h2).1).trans h2, fun i _ h2 => hown i h2⟩⟩
      case body =>
        rintro l' pre x V0 a' V ⟨g, rfl, hw, ⟨hi, hr, hbd⟩, ⟨hx1, hx2⟩, hng, hg0, hg1, hkV⟩ hlen
        have hsV := hi.low.size
        have hPV : Lies V w.heap.size (some ad) (p.us.map bv) := HP.out.data.below (B2.trans (hi.low.mono (by have := B2.size; omega)))
        have hCl := bclone_own (some (ad.add (x * n))) (min n (p.us.length - x * n)) (pieceP p n x).us V ((pc_lies hPV hu1 n x).more (by have := B2.size; omega)) (by rw [pieceP_len]; omega)
        have HCl := Lib.hid hCl
        have hul : (pieceP p n x).us.length ≤ 65535 := by rw [pieceP_len]; omega
        obtain ⟨v, ms, hvB, hrow, hms⟩ := hi.box
        obtain ⟨Av, cv, rfl⟩ := own_slice hrow.own
        have hml : ms.length = pre.length := by have := congrArg List.length hms; simpa using this
        have hpl : pre.length ≤ 65535 := by
          have : pre.length ≤ pre.length * n := Nat.le_mul_of_pos_right _ hn1
          rw [hx1] at hx2
          omega
        have HX := Lib.hid (And.intro hx1 hx2)
        have HR := Lib.hid (And.intro hr hbd)
        have HMS := Lib.hid (And.intro hms hml)
        have hml2 : ms.length ≤ 65535 := by omega
        have hi0 := Lib.hid hi
        clear hCl hPV hx1 hx2 hr hbd hms hml
        obtain ⟨q0, q1, q2, q3, q4, q5, q6, q7, q8, q9⟩ := hw.cs10
        have f9 := hw.frozen 9
        gi_upto_region 7 with fail
        refine ⟨trivial, (callsIn_rnd HCl.out).mono ?_⟩
        rintro e w5 ⟨A5, c5, rfl, own5, b5⟩
        have hw5 := hw.below b5 hw.lt
        have k9 : w5.cell? ⟨g, 9, none⟩ = some (.slice (some (ad.add (x * n))) (pieceP p n x).us.length (min n (p.us.length - x * n))) := by rw [hw5.cell]; rfl
        have f9' := hw5.frozen 9
        have hv5 : Boxed w5 w2.heap.size 44 (.slice Av ms.length cv) := Whole.below hvB b5 (boxed_lt hvB)
        have hr5 : PRow w5 w2.heap.size (.slice Av ms.length cv) ms := hrow.kept (grown_of_below b5) (fun r e => by cases e)
        clear q0 q1 q2 q3 q4 q5 q6 q7 q8 q9 f9 HCl
        have hgB : w2.heap.size ≠ g := fun e => hng (.inl e.symm)
        have hgR : (Value.slice Av ms.length cv).ownBlock ≠ some g := fun e => hng (.inr ⟨_, hvB, e⟩)
        have own6 := own_set13 (i := 9) (u := .slice A5 (pieceP p n x).us.length c5) own5 hw5 (by decide)
        have px6 : Whole (w5.setCell ⟨g, 9, none⟩ (.slice A5 (pieceP p n x).us.length c5)) g 34 (ptCells (pieceP p n x) A5 c5) := hw5.set_ 9 _
        have hv6 : Boxed (w5.setCell ⟨g, 9, none⟩ (.slice A5 (pieceP p n x).us.length c5)) w2.heap.size 44 (.slice Av ms.length cv) := Whole.far hv5 hgB _
        have hr6 : PRow (w5.setCell ⟨g, 9, none⟩ (.slice A5 (pieceP p n x).us.length c5)) w2.heap.size (.slice Av ms.length cv) ms := hr5.kept (grownBy_setCell1 w5 g 9 _) (fun r e => by
          cases e
          exact ⟨hgR, fun m hm => whole_row_ne hw5 (by decide) (hr5.each m hm)⟩)
        have b6 : ∀ k, k < V.heap.size → k ≠ g → (w5.setCell ⟨g, 9, none⟩ (.slice A5 (pieceP p n x).us.length c5)).heap[k]? = V.heap[k]? := fun k hk hne => (Below.heap_setCell w5 ⟨g, 9, none⟩ _ k hne).trans (b5.block k hk)
        have l6 : Below w2.heap.size w2 (w5.setCell ⟨g, 9, none⟩ (.slice A5 (pieceP p n x).us.length c5)) := (hi.low.trans (b5.mono hsV)).setCell hg0 _
        have lV6 : Below w2.heap.size V (w5.setCell ⟨g, 9, none⟩ (.slice A5 (pieceP p n x).us.length c5)) := (b5.mono hsV).setCell hg0 _
        have hs6 : (w5.setCell ⟨g, 9, none⟩ (.slice A5 (pieceP p n x).us.length c5)).heap.size = w5.heap.size := by simp
        have hgV := hw.lt
        have hsz5 := b5.size
        clear hw5 hv5 hr5 own5
        gi_upto_region 7 with fail
        clear k9 f9'
        generalize w5.setCell ⟨g, 9, none⟩ (.slice A5 (pieceP p n x).us.length c5) = V6 at *
        have hs6' : w5.heap.size ≤ V6.heap.size := by omega
        clear hs6
        obtain ⟨q0, q1, q2, q3, q4, q5, q6, q7, q8, q9⟩ := px6.cs10
        have cB := hv6.cell
        have hown6 := hr6.own.alloc (.cells (ptCells (pieceP p n x) A5 c5) 34)
        have hnew : ∀ j u, (ptCells (pieceP p n x) A5 c5).toList[j]? = some u → (V6.alloc (.cells (ptCells (pieceP p n x) A5 c5) 34)).cell? ((⟨V6.heap.size, 0, none⟩ : Addr).add j) = some u := fun j u hu => by
          rw [add_row, (Whole.new V6 34 (ptCells (pieceP p n x) A5 c5)).cell]
          exact (Array.getElem?_toList (xs := ptCells (pieceP p n x) A5 c5)).symm.trans hu
        have hone : ∀ u ∈ (ptCells (pieceP p n x) A5 c5).toList, u.oneCell' = true := by
          intro u hu
          change u ∈ [_, _, _, _, _, _, _, _, _, _] at hu
          simp only [List.mem_cons, List.not_mem_nil, or_false] at hu
          rcases hu with rfl | rfl | rfl | rfl | rfl | rfl | rfl | rfl | rfl | rfl <;> rfl
        have hbV6 : w2.heap.size ≤ (V6.alloc (.cells (ptCells (pieceP p n x) A5 c5) 34)).heap.size := by simp; omega
        have hv6a : Boxed (V6.alloc (.cells (ptCells (pieceP p n x) A5 c5) 34)) w2.heap.size 44 (.slice Av ms.length cv) := Boxed.alloc hv6 _
        gi_wp2_with (gi_at_builtin; refine wpListIn_append_told _ rfl (.tmp 22) (.tmp 24) 44 rfl w2.heap.size 34 _ 10 48 Tryz.underlying44 ptinfo rfl (by omega) _ _ _ rfl hown6 _ 1 1 (by omega) (ptCells (pieceP p n x) A5 c5).toList rfl rfl hnew hone (by unfold maxLen; omega) (by omega) hbV6 ?_; intro v' w7 hown7 hgr7 hblk7; obtain ⟨A7, c7, rfl⟩ := own_slice hown7; have hv7 := hv6a.kept hgr7 (hv6a.not_row (by decide) hown6); have d0 := hv7.cell; have d1 := hv7.frozen)
        obtain ⟨hms, hml⟩ := HMS.out
        obtain ⟨hr, hbd⟩ := HR.out
        obtain ⟨hx1, hx2⟩ := HX.out
        have hba : Below V6.heap.size V6 (V6.alloc (.cells (ptCells (pieceP p n x) A5 c5) 34)) := (Below.refl _ _).alloc (Nat.le_refl _) _
        have hbsz := hba.size
        have hsz7 := hgr7.size
        have hB6 := boxed_lt hv6
        have hBV := boxed_lt hvB
        -- a block that was there as the body began, but for the row, the variable and the piece
        have hsame : ∀ k, k < V.heap.size → k ≠ g → k ≠ w2.heap.size → (Value.slice Av ms.length cv).ownBlock ≠ some k → (w7.setCell ⟨w2.heap.size, 0, none⟩ (.slice A7 (ms.length + 1) c7)).heap[k]? = V.heap[k]? := fun k hk h1 h2 h3 =>
          have hkk : k < V6.heap.size := Nat.lt_of_lt_of_le hk (Nat.le_trans hsz5 hs6')
          (Below.heap_setCell w7 ⟨w2.heap.size, 0, none⟩ _ k h2).trans ((hgr7.block k (Nat.lt_of_lt_of_le hkk hbsz) (fun e => h3 e.symm)).trans ((hba.block k hkk).trans (b6 k hk h1)))
        have hrow7 : ∀ m ∈ ms, w7.ownsRow w2.heap.size 5 1 (.slice m.A m.p.us.length m.c) m.p.us.length (m.p.us.map bv) := fun m hm => ((hr6.each m hm).alloc _).kept hgr7 (rows_ne13 (hr6.each m hm) hr6.own (by decide))
        have own7 : w7.ownsRow w2.heap.size 5 1 (.slice A5 (pieceP p n x).us.length c5) (pieceP p n x).us.length ((pieceP p n x).us.map bv) := ((own_base own6 hsV).alloc _).kept hgr7 (rows_ne13 own6 hr6.own (by decide))
        have hp8 : PRow (w7.setCell ⟨w2.heap.size, 0, none⟩ (.slice A7 (ms.length + 1) c7)) w2.heap.size (.slice A7 (ms.length + 1) c7) (ms ++ [⟨pieceP p n x, A5, c5⟩]) := by
          have h1 : PRow w7 w2.heap.size (.slice A7 (ms.length + 1) c7) (ms ++ [⟨pieceP p n x, A5, c5⟩]) := ⟨by rw [pmFlat_snoc, List.length_append, List.length_singleton]; exact hown7, fun m hm => by
            rcases List.mem_append.1 hm with hm | hm
            · exact hrow7 m hm
            · rw [List.mem_singleton] at hm
              subst hm
              exact own7⟩
          exact h1.kept (grownBy_setCell1 w7 w2.heap.size 0 _) (fun r e => by
            cases e
            exact ⟨whole_row_ne hv7 (by decide) h1.own, fun m hm => whole_row_ne hv7 (by decide) (h1.each m hm)⟩)
        have hl8 : Below w2.heap.size w2 (w7.setCell ⟨w2.heap.size, 0, none⟩ (.slice A7 (ms.length + 1) c7)) := (((l6.trans (hba.mono (Nat.le_of_lt hB6))).grown hgr7 hbV6 (fun k e => (hown6.lt k e).1))).setCell (Nat.le_refl _) _
        have hv8 : Boxed (w7.setCell ⟨w2.heap.size, 0, none⟩ (.slice A7 (ms.length + 1) c7)) w2.heap.size 44 (.slice A7 (ms.length + 1) c7) := hv7.set _
        have hsz8 : (w7.setCell ⟨w2.heap.size, 0, none⟩ (.slice A7 (ms.length + 1) c7)).heap.size = w7.heap.size := by simp
        have hszV8 : V.heap.size ≤ (w7.setCell ⟨w2.heap.size, 0, none⟩ (.slice A7 (ms.length + 1) c7)).heap.size := by rw [hsz8]; exact Nat.le_trans hsz5 (Nat.le_trans hs6' (Nat.le_trans hbsz hsz7))
        have h0V := hkV.low.size
        refine ⟨⟨hszV8, fun k o _ hk ho => ?_⟩, ⟨?_, fun i cs t z hgi hi2 => ?_, fun i h1 h2 => ?_⟩, ⟨⟨hl8, Nat.le_refl _, _, _, hv8, hp8, ?_⟩, ?_, ?_⟩⟩
        · refine (hsame k (Array.getElem?_eq_some_iff.1 hk).1 ?_ ?_ ?_).trans hk
          · rintro rfl
            rw [show V.heap[k]? = _ from hw] at hk
            cases hk
            cases ho
          · rintro rfl
            rw [show V.heap[w2.heap.size]? = _ from hvB] at hk
            cases hk
            cases ho
          · exact own_ne_obj hrow.own hk ho
        · exact hkV.low.trans ((((lV6.trans (hba.mono (Nat.le_of_lt hB6))).grown hgr7 hbV6 (fun k e => (hown6.lt k e).1))).setCell (Nat.le_refl _) _)
        · have h3 := hkV.same i cs t z hgi hi2
          have h4 := (Array.getElem?_eq_some_iff.1 hi2).1
          have h5 : ¬ SqG w2.heap.size V i := fun h => hgi (hkV.own i h4 h)
          refine (hsame i (Nat.lt_of_lt_of_le h4 h0V) (fun e => ?_) (fun e => h5 (.inl e)) (fun e => h5 (.inr ⟨_, hvB, e⟩))).trans h3
          rw [e] at h4
          exact absurd h4 (Nat.not_lt.2 hg1)
        · refine hkV.own i h1 ?_
          rcases h2 with h2 | ⟨u, hu, hui⟩
          · exact .inl h2
          · rw [← boxed_uniq hv8 hu] at hui
            refine .inr ⟨_, hvB, ?_⟩
            rcases hblk7 with h3 | ⟨h3, _⟩
            · rw [h3] at hui
              simp only [Option.some.injEq] at hui
              rw [← hui] at h1
              exact absurd (Nat.lt_of_lt_of_le h1 (Nat.le_trans h0V (Nat.le_trans hsz5 (Nat.le_trans hs6' hbsz)))) (Nat.lt_irrefl _)
            · exact h3.symm.trans hui
        · rw [List.map_append, List.map_append, hms]
          rfl
        · rw [List.length_append, List.length_singleton, List.range_succ, ← hr, hx1]
        · intro k hk
          rw [List.length_append, List.length_singleton] at hk
          rcases Nat.lt_or_ge k pre.length with h | h
          · exact hbd k h
          · rw [show k = pre.length by omega, ← hx1]
            exact hx2
      case done =>
        rintro D xs V hD hF ⟨hi, hr, hbd⟩ hKD
        obtain ⟨v, ms, hvB, hrow, hms⟩ := hi.box
        obtain ⟨Av, cv, rfl⟩ := own_slice hrow.own
        have hL := map_pieces p n hr hF hbd hn1
        rw [← hms] at hL
        have HX := Lib.hid (And.intro hL (And.intro hi.low hrow))
        have cB := hvB.cell
        have hBV := boxed_lt hvB
        clear hr hms hL hi hrow hF hbd
        gi_wp2_with fail
        refine ⟨by simp, .inl ⟨_, _, rfl, run_takeDeferred hKD, ?_⟩⟩
        refine ⟨_, results_tmp rfl _ _ _, ?_⟩
        obtain ⟨hL, hlow, hrow⟩ := HX.out
        have hrow2 : PRow (V.putObj D (.deferred none)) w2.heap.size (.slice Av ms.length cv) ms := hrow.kept (grownBy_putObj' V D _) (fun r e => by
          cases e
          exact ⟨own_ne_obj hrow.own hKD rfl, fun m hm => own_ne_obj (hrow.each m hm) hKD rfl⟩)
        have hB9 : Below w.heap.size w (V.putObj D (.deferred none)) := B2.trans ((hlow.grown (grownBy_putObj' V D _) (Nat.le_of_lt hBV) (fun r e => by cases e; omega)).mono (by omega))
        rw [HL.out, ← hL]
        refine ⟨hB9, Av, cv, ms, ?_, rfl, hrow2.pts.2⟩
        rw [List.length_map]
        rfl
      case stop => exact fun _ _ _ _ _ h _ => h.elim
    · have hk1 : k < 1 := by omega
      have hL : splL p k = [] := by unfold splL; rw [if_neg (by simp; intro _; omega)]
      have HN2 := HN.out
      rw [← hL] at HN2
      have HN := Lib.hid HN2
      clear HN2 hL
      gi_wp2_with fail
      refine ⟨_, results_tmp rfl _ _ _, ?_⟩
      exact HN.out
end Go.Proofs.YtdcppcoldaaldaaGreatDoor





namespace Go.Proofs.YtdcppcoldaaldaaGreatDoor
open Go.RowKit

set_option linter.unusedSimpArgs false
theorem add_pos {a : Addr} {j : Nat} (hj : 0 < j) : a.add j = ⟨a.block, a.off + j, none⟩ := by
  unfold Addr.add
  rw [if_neg (by omega)]
theorem Pts.cells {w : World} {B : Nat} {A : Option Addr} {c : Nat} {ms : List Pm} (h : Pts w B A c ms) {k : Nat} {m : Pm} (hm : ms[k]? = some m) : ∃ ad, A = some ad ∧ ad.block < B ∧ w.cell? (ad.add (k * 10)) = some (.bool m.p.inter) ∧
    w.cell? ⟨(ad.add (k * 10)).block, (ad.add (k * 10)).off + 1, none⟩ = some (uv m.p.tsn) ∧ w.cell? ⟨(ad.add (k * 10)).block, (ad.add (k * 10)).off + 2, none⟩ = some (hv m.p.st) ∧ w.cell? ⟨(ad.add (k * 10)).block, (ad.add (k * 10)).off + 3, none⟩ = some (uv m.p.sq) ∧
    w.cell? ⟨(ad.add (k * 10)).block, (ad.add (k * 10)).off + 4, none⟩ = some (uv m.p.pr) ∧ w.cell? ⟨(ad.add (k * 10)).block, (ad.add (k * 10)).off + 5, none⟩ = some (.bool m.p.bg) ∧ w.cell? ⟨(ad.add (k * 10)).block, (ad.add (k * 10)).off + 6, none⟩ = some (.bool m.p.en) ∧
    w.cell? ⟨(ad.add (k * 10)).block, (ad.add (k * 10)).off + 7, none⟩ = some (.bool m.p.un) ∧ w.cell? ⟨(ad.add (k * 10)).block, (ad.add (k * 10)).off + 8, none⟩ = some (.bool m.p.nw) ∧ w.cell? ⟨(ad.add (k * 10)).block, (ad.add (k * 10)).off + 9, none⟩ = some (.slice m.A m.p.us.length m.c) := by
  obtain ⟨ad, h1, h2, h3⟩ := h.at_ hm
  have h4 : ∀ j u, 0 < j → j < 10 → (ptCells m.p m.A m.c)[j]? = some u → w.cell? ⟨(ad.add (k * 10)).block, (ad.add (k * 10)).off + j, none⟩ = some u := fun j u h0 hj hu => by
    have := h3 j u hj hu
    rwa [add_pos h0] at this
  refine ⟨ad, h1, h2, ?_, h4 1 _ (by decide) (by decide) rfl, h4 2 _ (by decide) (by decide) rfl, h4 3 _ (by decide) (by decide) rfl, h4 4 _ (by decide) (by decide) rfl, h4 5 _ (by decide) (by decide) rfl, h4 6 _ (by decide) (by decide) rfl, h4 7 _ (by decide) (by decide) rfl, h4 8 _ (by decide) (by decide) rfl, h4 9 _ (by decide) (by decide) rfl⟩
  have := h3 0 _ (by decide) rfl
  rwa [add_add', Nat.add_zero] at this
def eqfB (xs ys : List Pt) : Bool := decide (xs.length = ys.length) && (List.range xs.length).all fun i => sameB (xs.getD i pt0) (ys.getD i pt0)
theorem getD_pm {ms : List Pm} {k : Nat} {m : Pm} (h : ms[k]? = some m) : (ms.map Pm.p).getD k pt0 = m.p := by
  rw [List.getD_eq_getElem?_getD, List.getElem?_map, h]
  rfl
theorem eqfB_no {xs ys : List Pt} {k : Nat} (hk : k < xs.length) (h : sameB (xs.getD k pt0) (ys.getD k pt0) = false) : eqfB xs ys = false := by
  unfold eqfB
  rw [Bool.and_eq_false_iff]
  right
  rw [Bool.eq_false_iff]
  intro e
  have := List.all_eq_true.1 e k (List.mem_range.2 hk)
  rw [h] at this
  cases this
theorem eqfB_yes {xs ys : List Pt} (hl : xs.length = ys.length) (h : ∀ k, k < xs.length → sameB (xs.getD k pt0) (ys.getD k pt0) = true) : eqfB xs ys = true := by
  unfold eqfB
  rw [decide_eq_true hl, Bool.true_and, List.all_eq_true]
  exact fun k hk => h k (List.mem_range.1 hk)
set_option maxRecDepth 100000 in
set_option maxHeartbeats 4000000 in
theorem eqfunc_any (ms ms' : List Pm) (A A' : Option Addr) (c c' : Nat) (w : World) (h : Pts w w.heap.size A c ms) (h' : Pts w w.heap.size A' c' ms') (hl : ms.length ≤ 1000000) :
    Calls Tryz.prog 84 #[.slice A ms.length c, .slice A' ms'.length c', .func (.func 61) #[] #[]] w fun e w' => e = .returned (.bool (eqfB (ms.map Pm.p) (ms'.map Pm.p))) ∧ Below w.heap.size w w' := by
  by_cases hq : ms.length = ms'.length
  · have hne : ((ms.length : Int) != (ms'.length : Int)) = false := by rw [bne_eq_false_iff_eq]; omega
    have HQ := Lib.hid hq
    have HY := Lib.hid (eqfB_yes (xs := ms.map Pm.p) (ys := ms'.map Pm.p) (by simpa using hq))
    have HN := Lib.hid (fun k hk => eqfB_no (xs := ms.map Pm.p) (ys := ms'.map Pm.p) (k := k) hk)
    generalize hres : eqfB (ms.map Pm.p) (ms'.map Pm.p) = res at *
    clear hq hres
    go_enter Tryz.func84, Tryz.ntmps84
    go_wp2_with fail
    go_loopw [17] (fun i wr => ∃ k : Nat, k ≤ ms.length ∧ i = .int .i64 (k : Int) ∧ Hid (∀ i, i < k → sameB ((ms.map Pm.p).getD i pt0) ((ms'.map Pm.p).getD i pt0) = true) ∧ Below w.heap.size w wr) (fun i _ => ms.length - (intOf i).toNat)
    case atStart => exact ⟨0, Nat.zero_le _, rfl, fun i hi => absurd hi (Nat.not_lt_zero i), Below.refl _ _⟩
    case round =>
      obtain ⟨k, hk, rfl, hall, hbel⟩ := hrel
      by_cases hlt : k < ms.length
      · obtain ⟨m, hm⟩ : ∃ m, ms[k]? = some m := ⟨_, List.getElem?_eq_getElem hlt⟩
        obtain ⟨m', hm'⟩ : ∃ m', ms'[k]? = some m' := ⟨_, List.getElem?_eq_getElem (by rw [← HQ.out]; exact hlt)⟩
        obtain ⟨ad, rfl, hb, a0, a1, a2, a3, a4, a5, a6, a7, a8, a9⟩ := (h.below hbel).cells hm
        obtain ⟨ad', rfl, hb', b0, b1, b2, b3, b4, b5, b6, b7, b8, b9⟩ := (h'.below hbel).cells hm'
        have hi1 : (k : Int) < (ms.length : Int) := by omega
        have hi2 : (k : Int) < (ms'.length : Int) := by rw [← HQ.out]; omega
        have hP := (h.each m (List.mem_of_getElem? hm)).below hbel
        have hP' := (h'.each m' (List.mem_of_getElem? hm')).below hbel
        have HM := Lib.hid hm
        have HM' := Lib.hid hm'
        clear hm hm'
        go_upto_region 6 with fail
        have v1 : Below wr.heap.size wr (wr.alloc (.cells (ptCells m.p m.A m.c) 34)) := (Below.refl _ _).alloc (Nat.le_refl _) _
        have x1 := Whole.new wr 34 (ptCells m.p m.A m.c)
        have hs1 : wr.heap.size + 1 ≤ (wr.alloc (.cells (ptCells m.p m.A m.c) 34)).heap.size := by simp
        have B1 := hbel.trans (v1.mono hbel.size)
        generalize wr.alloc (.cells (ptCells m.p m.A m.c) 34) = w1 at *
        clear a0 a1 a2 a3 a4 a5 a6 a7 a8 a9 b0 b1 b2 b3 b4 b5 b6 b7 b8 b9
        obtain ⟨ad2, e2, hb2, b0, b1, b2, b3, b4, b5, b6, b7, b8, b9⟩ := (h'.below B1).cells HM'.out
        cases e2
        go_upto_region 7 with fail
        have v2 : Below w1.heap.size w1 (w1.alloc (.cells (ptCells m'.p m'.A m'.c) 34)) := (Below.refl _ _).alloc (Nat.le_refl _) _
        have x2 := x1.alloc (.cells (ptCells m'.p m'.A m'.c) 34)
        have y2 := Whole.new w1 34 (ptCells m'.p m'.A m'.c)
        have B2 := B1.trans (v2.mono B1.size)
        have hSm := psame13_any m.p m'.p m.A m.c m'.A m'.c (w1.alloc (.cells (ptCells m'.p m'.A m'.c) 34)) (((h.each m (List.mem_of_getElem? HM.out)).below B2).more B2.size) (((h'.each m' (List.mem_of_getElem? HM'.out)).below B2).more B2.size)
        generalize w1.alloc (.cells (ptCells m'.p m'.A m'.c) 34) = w2 at *
        clear b0 b1 b2 b3 b4 b5 b6 b7 b8 b9 hP hP'
        obtain ⟨a0, a1, a2, a3, a4, a5, a6, a7, a8, a9⟩ := x2.cs10
        obtain ⟨b0, b1, b2, b3, b4, b5, b6, b7, b8, b9⟩ := y2.cs10
        have HS1 : Hid (sameB ((ms.map Pm.p).getD k pt0) ((ms'.map Pm.p).getD k pt0) = sameB m.p m'.p) := by unfold Hid; rw [getD_pm HM.out, getD_pm HM'.out]
        cases hsm : sameB m.p m'.p with
        | false =>
          rw [hsm] at hSm
          have HR := Lib.hid (HN.out k (by rw [List.length_map]; exact hlt) (HS1.out.trans hsm))
          clear hsm hall
          go_wp2_with fail
          refine hSm.mono ?_
          rintro e w3 ⟨rfl, b3'⟩
          go_wp2_with fail
          go_ret
          exact ⟨by rw [HR.out]; rfl, B2.trans (b3'.mono B2.size)⟩
        | true =>
          rw [hsm] at hSm
          have HA : Hid (∀ i, i < k + 1 → sameB ((ms.map Pm.p).getD i pt0) ((ms'.map Pm.p).getD i pt0) = true) := fun i hi => by
            rcases Nat.lt_or_ge i k with h1 | h1
            · exact hall.out i h1
            · rw [show i = k by omega]; exact HS1.out.trans hsm
          clear hsm hall
          go_wp2_with fail
          refine hSm.mono ?_
          rintro e w3 ⟨rfl, b3'⟩
          go_wp2_with fail
          go_roundw
          case rel => exact ⟨k + 1, by omega, by go_num, HA, B2.trans (b3'.mono B2.size)⟩
          case measure => simp [intOf]; omega
      · obtain rfl : k = ms.length := by omega
        have hi1 : ¬ (ms.length : Int) < (ms.length : Int) := by omega
        have HR := Lib.hid (HY.out (by rw [List.length_map]; exact hall.out))
        clear hall
        go_wp2_with fail
        go_ret
        exact ⟨by rw [HR.out]; rfl, hbel⟩
  · have hne : ((ms.length : Int) != (ms'.length : Int)) = true := by rw [bne_iff_ne]; omega
    have HR : Hid (eqfB (ms.map Pm.p) (ms'.map Pm.p) = false) := by unfold Hid eqfB; rw [decide_eq_false (by simpa using hq)]; rfl
    clear hq
    go_enter Tryz.func84, Tryz.ntmps84
    go_wp2_with fail
    go_ret
    exact ⟨by rw [HR.out]; rfl, Below.refl _ _⟩
end Go.Proofs.YtdcppcoldaaldaaGreatDoor


