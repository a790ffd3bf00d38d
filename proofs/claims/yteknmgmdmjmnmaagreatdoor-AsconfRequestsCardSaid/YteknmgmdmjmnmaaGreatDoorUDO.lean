/- Layer 13: the iterator over the pieces of a description (pieces). It writes nothing that was there. -/
/- Layer 13: lists of descriptions in memory; Split. It writes nothing that was there. -/
/- Layer 13: slices.EqualFunc on descriptions. It writes nothing that was there. -/
/- Layer 13: the reference's Of. It writes nothing that was there. -/
/- Layer 13: the reference's Split. It writes nothing that was there. -/
import Derived.Test.YteknmgmdmjmnmaaGreatDoorUDA
import Derived.Test.YteknmgmdmjmnmaaGreatDoorUNF
import Derived.Deep.RegionHeld3
import Derived.Deep.Cut
import Derived.Laws.StructEq
import Derived.Test.YteknmgmdmjmnmaaGreatDoorUA
import Derived.Laws.BytesArg
import Derived.Test.YteknmgmdmjmnmaaGreatDoorUTA
import Derived.Test.YteknmgmdmjmnmaaGreatDoorUTC
import Derived.Test.YteknmgmdmjmnmaaGreatDoorUNW
import Derived.Test.YteknmgmdmjmnmaaGreatDoorUEL
import Derived.WalkMore
import Derived.Test.YteknmgmdmjmnmaaGreatDoorUDJ
import Derived.Test.YteknmgmdmjmnmaaGreatDoorUCL
import Derived.Test.YteknmgmdmjmnmaaGreatDoorUCI
import Derived.Test.YteknmgmdmjmnmaaGreatDoorUCR
import Derived.Test.YteknmgmdmjmnmaaGreatDoorUSplitR
import Derived.Test.YteknmgmdmjmnmaaGreatDoorUChunkT
import Derived.Test.YteknmgmdmjmnmaaGreatDoorUK
import Derived.BigGuard
import Derived.Deep.RegionLaw
import Derived.Sort.CutIn
import Derived.Test.YteknmgmdmjmnmaaGreatDoorUW
import Derived.Test.YteknmgmdmjmnmaaGreatDoorUNS
import Derived.Laws.Tables
import Derived.Test.YteknmgmdmjmnmaaGreatDoorURefNS











namespace Go.Proofs.YteknmgmdmjmnmaaGreatDoor
open Go.RowKit Go.Shelf

attribute [local go_sem] Oper.semAt_some
set_option linter.unusedSimpArgs false
section
variable {p : Pt} {A : Option Addr} {c n l By gN gL Bp X X' : Nat} {G : World → Nat → Prop} {J : List Nat → World → Prop} {Jx : List Nat × Nat → World → Prop}
end
/-- what the caller's rounds may write does not change where another block is written -/
def KeepG (X : Nat) (G : World → Nat → Prop) : Prop := ∀ A g i u cs t z, X ≤ g → A.heap[g]? = some (.cells cs t z) → ¬ G A g → ∀ k, G (A.setCell ⟨g, i, none⟩ u) k → G A k
/-- from a round's beginning to the yield: only what is left and new blocks were written -/
structure PcK (X n₀ gL : Nat) (G : World → Nat → Prop) (J : World → Prop) (V U : World) : Prop where
  low : Below n₀ V U
  same : ∀ i, i < V.heap.size → i ≠ gL → U.heap[i]? = V.heap[i]?
  g : ∀ i, G U i → G V i
  j : J U
section
variable {X n₀ gL : Nat} {G : World → Nat → Prop} {β : Type} {J : β → World → Prop} {s : β} {V U : World}
theorem PcK.refl (h : J s V) : PcK X n₀ gL G (J s) V V := ⟨Below.refl _ _, fun _ _ _ => rfl, fun _ h => h, h⟩
theorem PcK.set (hJk : KeepJ X (fun t => t ≠ 5) G J) (hGk : KeepG X G) (hlt : ∀ i, G V i → i < V.heap.size) (hL : ¬ G V gL) (h0 : n₀ ≤ gL) (h1 : n₀ ≤ V.heap.size) (hX : X ≤ gL) (hX2 : X ≤ V.heap.size) (h : PcK X n₀ gL G (J s) V U) {b i : Nat} {t : TypeId} {cs : Array Value} (hb : Whole U b t cs) (ht : t ≠ 5) (hc : b = gL ∨ V.heap.size ≤ b) (u : Value) :
    PcK X n₀ gL G (J s) V (U.setCell ⟨b, i, none⟩ u) := by
  have hn : ¬ G U b := fun hg => by
    have h2 := h.g b hg
    rcases hc with e | e
    · rw [e] at h2; exact hL h2
    · have := hlt b h2; omega
  have hXb : X ≤ b := by rcases hc with e | e <;> omega
  exact ⟨h.low.setCell (by rcases hc with e | e <;> (show n₀ ≤ b; omega)) _, fun k hk hkL => (Below.heap_setCell U ⟨b, i, none⟩ u k (by show k ≠ b; rcases hc with e | e <;> omega)).trans (h.same k hk hkL), fun k hk => h.g k (hGk U b i u _ _ _ hXb hb hn k hk), hJk s U b i u _ _ _ h.j hXb hb ht hn⟩
theorem PcK.grow (hJo : OwnFrom X J) (hGo : GOwnN X G) (hX : X ≤ V.heap.size) (h1 : n₀ ≤ V.heap.size) (h : PcK X n₀ gL G (J s) V U) {U' : World} (hb : Below U.heap.size U U') (hs : V.heap.size ≤ U.heap.size) : PcK X n₀ gL G (J s) V U' :=
  ⟨h.low.trans (hb.mono (by omega)), fun k hk hkL => (hb.block k (by omega)).trans (h.same k hk hkL), fun k hk => h.g k (hGo _ _ none (by omega) (grown_of_below hb) (fun r e => by cases e) k hk), hJo _ _ _ none h.j (grown_of_below hb) (fun r e => by cases e)⟩
end
section
variable {p : Pt} {A : Option Addr} {c n l By gN gL Bp X X0 n₀ : Nat} {G : World → Nat → Prop} {J : List Nat → World → Prop} {pre : List Nat} {V V6 w7 : World}
end
end Go.Proofs.YteknmgmdmjmnmaaGreatDoor







namespace Go.Proofs.YteknmgmdmjmnmaaGreatDoor
open Go.RowKit Go.Shelf

attribute [local go_sem] Oper.semAt_some
set_option linter.unusedSimpArgs false
/-- a description and where its User lies -/
structure Pm where
  p : Pt
  A : Option Addr
  c : Nat
def pmFlat (ms : List Pm) : List Value := ms.flatMap fun m => (ptCells m.p m.A m.c).toList
theorem pmFlat_len (ms : List Pm) : (pmFlat ms).length = ms.length * 10 := by
  induction ms with
  | nil => rfl
  | cons m ms ih => simp only [pmFlat, List.flatMap_cons, List.length_append, List.length_cons] at ih ⊢; rw [ih]; simp; omega
theorem pmFlat_at {ms : List Pm} : ∀ {k : Nat} {m : Pm}, ms[k]? = some m → ∀ j, j < 10 → (pmFlat ms)[k * 10 + j]? = (ptCells m.p m.A m.c).toList[j]? := by
  induction ms with
  | nil => intro k m h; simp at h
  | cons x ms ih =>
    intro k m h j hj
    have e : pmFlat (x :: ms) = (ptCells x.p x.A x.c).toList ++ pmFlat ms := rfl
    have hl : (ptCells x.p x.A x.c).toList.length = 10 := rfl
    cases k with
    | zero =>
      simp only [List.getElem?_cons_zero, Option.some.injEq] at h
      subst h
      rw [e, List.getElem?_append_left (by omega), Nat.zero_mul, Nat.zero_add]
    | succ k =>
      rw [List.getElem?_cons_succ] at h
      rw [e, List.getElem?_append_right (by omega), hl, show (k + 1) * 10 + j - 10 = k * 10 + j by omega]
      exact ih h j hj
/-- a list of descriptions, as a slice reads it -/
structure Pts (w : World) (B : Nat) (A : Option Addr) (c : Nat) (ms : List Pm) : Prop where
  lies : Lies w B A (pmFlat ms)
  each : ∀ m ∈ ms, PtL w B m.A m.c m.p
  dc : ms.length ≤ c
  dm : c ≤ maxLen
section
variable {w w' : World} {B B' : Nat} {A : Option Addr} {c : Nat} {ms : List Pm}
theorem Pts.below (h : Pts w B A c ms) (hb : Below B w w') : Pts w' B A c ms := ⟨h.lies.below hb, fun m hm => (h.each m hm).below hb, h.dc, h.dm⟩
theorem Pts.more (h : Pts w B A c ms) (hB : B ≤ B') : Pts w B' A c ms := ⟨h.lies.more hB, fun m hm => (h.each m hm).more hB, h.dc, h.dm⟩
theorem Pts.on (h : Pts w w.heap.size A c ms) (hb : Below w.heap.size w w') : Pts w' w'.heap.size A c ms := (h.below hb).more hb.size
/-- the ten cells of an element -/
theorem Pts.at_ (h : Pts w B A c ms) {k : Nat} {m : Pm} (hm : ms[k]? = some m) : ∃ ad, A = some ad ∧ ad.block < B ∧ ∀ j u, j < 10 → (ptCells m.p m.A m.c)[j]? = some u → w.cell? ((ad.add (k * 10)).add j) = some u := by
  obtain ⟨ad, h1, h2, h3⟩ := h.lies (fun e => by
    have hl := pmFlat_len ms
    rw [e, List.length_nil] at hl
    have := (List.getElem?_eq_some_iff.1 hm).1
    omega)
  refine ⟨ad, h1, h2, fun j u hj hu => ?_⟩
  rw [add_add']
  exact h3 _ _ (by rw [pmFlat_at hm j hj]; simpa using hu)
end
/-! ### Split -/
section
variable {w0 A B : World} {B0 n Bl X : Nat} {p : Pt} {pre : List Nat}
end
end Go.Proofs.YteknmgmdmjmnmaaGreatDoor





namespace Go.Proofs.YteknmgmdmjmnmaaGreatDoor
open Go.RowKit

set_option linter.unusedSimpArgs false
theorem add_pos {a : Addr} {j : Nat} (hj : 0 < j) : a.add j = ⟨a.block, a.off + j, none⟩ := by
  unfold Addr.add
  rw [if_neg (by omega)]
theorem Pts.cells {w : World} {B : Nat} {A : Option Addr} {c : Nat} {ms : List Pm} (h : Pts w B A c ms) {k : Nat} {m : Pm} (hm : ms[k]? = some m) : ∃ ad, A = some ad ∧ ad.block < B ∧ w.cell? (ad.add (k * 10)) = some (.bool m.p.inter) ∧
    w.cell? ⟨(ad.add (k * 10)).block, (ad.add (k * 10)).off + 1, none⟩ = some (uv m.p.tsn) ∧ w.cell? ⟨(ad.add (k * 10)).block, (ad.add (k * 10)).off + 2, none⟩ = some (hv m.p.st) ∧ w.cell? ⟨(ad.add (k * 10)).block, (ad.add (k * 10)).off + 3, none⟩ = some (uv m.p.sq) ∧
    w.cell? ⟨(ad.add (k * 10)).block, (ad.add (k * 10)).off + 4, none⟩ = some (uv m.p.pr) ∧ w.cell? ⟨(ad.add (k * 10)).block, (ad.add (k * 10)).off + 5, none⟩ = some (.bool m.p.bg) ∧ w.cell? ⟨(ad.add (k * 10)).block, (ad.add (k * 10)).off + 6, none⟩ = some (.bool m.p.en) ∧
    w.cell? ⟨(ad.add (k * 10)).block, (ad.add (k * 10)).off + 7, none⟩ = some (.bool m.p.un) ∧ w.cell? ⟨(ad.add (k * 10)).block, (ad.add (k * 10)).off + 8, none⟩ = some (.bool m.p.nw) ∧ w.cell? ⟨(ad.add (k * 10)).block, (ad.add (k * 10)).off + 9, none⟩ = some (.slice m.A m.p.us.length m.c) := by
  obtain ⟨ad, h1, h2, h3⟩ := h.at_ hm
  have h4 : ∀ j u, 0 < j → j < 10 → (ptCells m.p m.A m.c)[j]? = some u → w.cell? ⟨(ad.add (k * 10)).block, (ad.add (k * 10)).off + j, none⟩ = some u := fun j u h0 hj hu => by
    have := h3 j u hj hu
    rwa [add_pos h0] at this
  refine ⟨ad, h1, h2, ?_, h4 1 _ (by decide) (by decide) rfl, h4 2 _ (by decide) (by decide) rfl, h4 3 _ (by decide) (by decide) rfl, h4 4 _ (by decide) (by decide) rfl, h4 5 _ (by decide) (by decide) rfl, h4 6 _ (by decide) (by decide) rfl, h4 7 _ (by decide) (by decide) rfl, h4 8 _ (by decide) (by decide) rfl, h4 9 _ (by decide) (by decide) rfl⟩
  have := h3 0 _ (by decide) rfl
  rwa [add_add', Nat.add_zero] at this
end Go.Proofs.YteknmgmdmjmnmaaGreatDoor








namespace Go.Proofs.YteknmgmdmjmnmaaGreatDoor
open Go.RowKit

set_option linter.unusedSimpArgs false
theorem results_row13 {P : Program} {fn : Func} {p : Tmp} {ty : TypeId} (h : fn.results = #[.cell p ty]) (tmps : Array Value) (w : World) (g : Nat) (t : TypeId) (cs : Array Value) (d : TypeDesc)
    (hp : tmps.getD p undef = .pointer (some ⟨g, 0, none⟩)) (hg : Whole w g t cs)
    (hu : P.underlying ty = some d) (hd : (match d with | .struct _ | .array _ _ => true | _ => false) = true) (hi : (P.info? ty).map (·.size) = some cs.size) :
    (results fn tmps).run P w = .ok (.agg cs) w := by
  have hp' : tmps[p]?.getD undef = .pointer (some ⟨g, 0, none⟩) := by simpa using hp
  simp only [results, h]
  simp [hp', asAddr, run_loadVar_row w g t ty cs (0, 0) d hg hu hd hi]
end Go.Proofs.YteknmgmdmjmnmaaGreatDoor





namespace Go.Proofs.YteknmgmdmjmnmaaGreatDoor
open Go.RowKit

set_option linter.unusedSimpArgs false
section
variable {P : Program} (w : World)
theorem run_append_wide13 (base : Nat) (t ty e : TypeId) (z : Value) (size bytes : Nat) (ht : P.underlying t = some (.slice e)) (hi : (P.info? e).map (fun i => (i.zero, i.size, i.bytes)) = some (some z, size, bytes))
    (hzs : z.cells.size = size) (hsz : 0 < size) (v : Value) (n : Nat) (xs : List Value) (hown : w.ownsRow base e size v n xs)
    (B : Nat) (A : Option Addr) (m c : Nat) (news : List Value) (hm : news.length = m * size) (hl : Lies w B A news) (h1 : ∀ u ∈ news, u.oneCell' = true)
    (hbytes : (n + m) * bytes ≤ 140737488355328) (h63 : n + m ≤ maxLen) (hbase : base ≤ w.heap.size) :
    ∃ v' w', (Builtin.append_ #[t, t] ty #[v, .slice A m c]).run P w = .ok v' w' ∧ w'.ownsRow base e size v' (n + m) (xs ++ news) ∧ w.grownBy w' v.ownBlock := by
  obtain ⟨i, hi0, hi1, hi2, hi3⟩ := info_parts hi
  by_cases hm0 : m = 0
  · subst hm0
    have hn : news = [] := List.eq_nil_of_length_eq_zero (by simpa using hm)
    subst hn
    rcases A with _ | ad
    · refine ⟨v, w, ?_, by simpa using hown, World.grownBy.refl w _⟩
      rcases hown.2 with ⟨rfl, rfl⟩ | ⟨g, cap, cur, rfl, _, _, hnc, _⟩
      · simp [Builtin.append_, run_underlying ht, sizeOf, typeInfo, hi0, Builtin.lenOf, Builtin.firstCells]
      · simp [Builtin.append_, run_underlying ht, sizeOf, typeInfo, hi0, Builtin.lenOf, Builtin.firstCells, hnc, storeCells]
    · obtain ⟨v', w', hr, h2, h3, _⟩ := run_append_own w base t ty e i z size bytes ht hi0 hi1 hi2 hi3 hzs hsz v n xs hown ad 0 c [] (by simp) (fun j u hu => by simp at hu) h1 h63 hbytes hbase
      exact ⟨v', w', hr, h2, h3⟩
  · have hne : news ≠ [] := fun e => by
      subst e
      have : 0 < m * size := Nat.mul_pos (by omega) hsz
      simp at hm
      omega
    obtain ⟨ad, rfl, _, hc⟩ := hl hne
    obtain ⟨v', w', hr, h2, h3, _⟩ := run_append_own w base t ty e i z size bytes ht hi0 hi1 hi2 hi3 hzs hsz v n xs hown ad m c news hm hc h1 h63 hbytes hbase
    exact ⟨v', w', hr, h2, h3⟩
theorem wpList_append_wide13 {ops : Array Oper} {rest : List Oper} {o : Oper} {a : Act} {Q : Exit → Act → World → Prop} (hgd : o.guard = none) (s x : Operand) (t : TypeId)
    (ho : o.op = .call { callee := .builtin .append, args := #[s, x], argTypes := #[t, t] })
    (base : Nat) (e : TypeId) (z : Value) (size bytes : Nat) (ht : P.underlying t = some (.slice e)) (hi : (P.info? e).map (fun i => (i.zero, i.size, i.bytes)) = some (some z, size, bytes))
    (hzs : z.cells.size = size) (hsz : 0 < size) (v : Value) (n : Nat) (xs : List Value) (hs : a.eval s = v) (hown : w.ownsRow base e size v n xs)
    (B : Nat) (A : Option Addr) (m c : Nat) (news : List Value) (hx : a.eval x = .slice A m c) (hm : news.length = m * size) (hl : Lies w B A news) (h1 : ∀ u ∈ news, u.oneCell' = true)
    (hbytes : (n + m) * bytes ≤ 140737488355328) (h63 : n + m ≤ maxLen) (hbase : base ≤ w.heap.size)
    (h : ∀ v' w', w'.ownsRow base e size v' (n + m) (xs ++ news) → w.grownBy w' v.ownBlock → wpList P ops Q rest (a.put o.dst v') w') : wpList P ops Q (o :: rest) a w :=
  wpList_plain hgd fun K hK => by
    obtain ⟨v', w', hr, h2, h3⟩ := run_append_wide13 (P := P) w base t o.type e z size bytes ht hi hzs hsz v n xs hown B A m c news hm hl h1 hbytes h63 hbase
    unfold Oper.wp execOp
    simp only [ho, resolve, invoke, builtin, Sem.run_bind, Sem.run_pure, Result.andThen_ok, List.map_toArray, List.map_cons, List.map_nil, hs, hx, hr]
    exact hK _ _ (h v' w' h2 h3)
end
end Go.Proofs.YteknmgmdmjmnmaaGreatDoor


