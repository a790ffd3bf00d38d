/- Plain facts on the memory of a call, over whatever program: where the cells of a slice lie, what a call of its own owns, what an append and a make leave. No condition of its own. -/
/- What the statements compare bytes with (Same), and what a new row of bytes is, over whatever program that holds them. -/
/- Slices of slices of bytes, over whatever program. -/
/- Plain facts for loops over iterators, over whatever program: what a round keeps. No condition of its own. -/
/- append onto a row of the call's own, elements of whatever size: the row that is handed back is the old one or a new one. Over whatever program. -/
/- What an argument that came in reads as, over whatever program: slices of bytes, of numbers, of slices of bytes. -/
import Derived.WalkKit
import Derived.WalkLawsBesides
import Derived.WalkSpells
import Derived.Outline
import Derived.BigQuiet
import Derived.Deep.QuietTactic
import Derived.Deep.AppendLies
import Derived.Deep.Draws
import Derived.Lib.Hide
import Derived.Laws.OwnMore
import Derived.Laws.Rows
import Derived.Test.YteknmgmdmjmnmaaGreatDoorChecked
import Derived.RangeFuncBox
import Derived.RangeFuncNested
import Derived.RangeFuncBound
import Derived.RangeFuncCalls
import Derived.RangeFuncLeaves
import Derived.Shelf.Abstract
import Derived.Shelf.RegionOpen
import Derived.OwnWalkIn
import Derived.TacticsInMore
import Derived.LoopNIn
import Derived.LoopIn
import Derived.Maps.AppendAt
import Derived.ProofKit
import Derived.OpenShut
import Derived.ShutString
import Derived.ChangeOld
import Derived.Deep.Slices











namespace Go.Proofs.YteknmgmdmjmnmaaGreatDoor
open Go.RowKit

/-! ### addresses -/
theorem blk_add (a : Addr) (n : Nat) : (a.add n).block = a.block := by
  unfold Addr.add; split <;> rfl
theorem add_add' (a : Addr) (i j : Nat) : (a.add i).add j = a.add (i + j) := by
  unfold Addr.add
  by_cases hi : i = 0
  · subst hi; simp
  · by_cases hj : j = 0
    · subst hj; simp [hi]
    · simp [hi, hj, Nat.add_assoc]
theorem add_row (g i : Nat) : (⟨g, 0, none⟩ : Addr).add i = ⟨g, i, none⟩ := by
  unfold Addr.add
  by_cases hi : i = 0
  · subst hi; simp
  · simp [hi]

/-! ### cells in a row: 'Lies w B A xs': the cells xs lie one after the other from A on, in a block below B -/
def Lies (w : World) (B : Nat) (A : Option Addr) (xs : List Value) : Prop :=
  xs ≠ [] → ∃ ad, A = some ad ∧ ad.block < B ∧ ∀ j u, xs[j]? = some u → w.cell? (ad.add j) = some u

section
variable {w w' : World} {B B' : Nat} {A : Option Addr} {xs ys : List Value}
theorem Lies.nil : Lies w B A [] := fun h => absurd rfl h
theorem Lies.at_ (h : Lies w B A xs) {k : Nat} (hk : k < xs.length) : ∃ ad, A = some ad ∧ ad.block < B ∧ w.cell? (ad.add k) = some xs[k] := by
  obtain ⟨ad, h1, h2, h3⟩ := h (fun e => by subst e; simp at hk)
  exact ⟨ad, h1, h2, h3 k _ (List.getElem?_eq_getElem hk)⟩
theorem Lies.keep (h : Lies w B A xs) (hk : ∀ p : Addr, p.block < B → w'.cell? p = w.cell? p) : Lies w' B A xs := fun hne => by
  obtain ⟨ad, h1, h2, h3⟩ := h hne
  exact ⟨ad, h1, h2, fun j u hu => (hk _ (by rw [blk_add]; exact h2)).trans (h3 j u hu)⟩
theorem Lies.more (h : Lies w B A xs) (hB : B ≤ B') : Lies w B' A xs := fun hne => by
  obtain ⟨ad, h1, h2, h3⟩ := h hne
  exact ⟨ad, h1, by omega, h3⟩
theorem Lies.below (h : Lies w B A xs) (hb : Below B w w') : Lies w' B A xs := h.keep fun _ hp => hb.cell hp
theorem Lies.alloc (h : Lies w B A xs) (hB : B ≤ w.heap.size) (o : Obj) : Lies (w.alloc o) B A xs :=
  h.keep fun p hp => World.cell?_alloc_lt w o p (by omega)
theorem Lies.setCell (h : Lies w B A xs) {p : Addr} (hB : B ≤ p.block) (u : Value) : Lies (w.setCell p u) B A xs :=
  h.keep fun q hq => World.cell?_setCell_other w p q u (fun e => by subst e; omega)
theorem Lies.drop (h : Lies w B A xs) {k c : Nat} (hc : xs.length ≤ c) : Lies w B (if c = k then A else A.map (·.add k)) (xs.drop k) := fun hne => by
  have hk : k < xs.length := by
    rcases Nat.lt_or_ge k xs.length with h1 | h1
    · exact h1
    · exact absurd (List.drop_eq_nil_of_le h1) hne
  obtain ⟨ad, h1, h2, h3⟩ := h (fun e => by subst e; simp at hk)
  rw [if_neg (by omega)]
  subst h1
  refine ⟨ad.add k, rfl, by rw [blk_add]; exact h2, fun j u hu => ?_⟩
  rw [add_add']
  exact h3 _ u (by rw [← hu, List.getElem?_drop])
theorem Lies.take (h : Lies w B A xs) (k : Nat) : Lies w B A (xs.take k) := fun hne => by
  have hx : xs ≠ [] := fun e => hne (by subst e; simp)
  obtain ⟨ad, h1, h2, h3⟩ := h hx
  refine ⟨ad, h1, h2, fun j u hu => h3 j u ?_⟩
  rw [List.getElem?_take] at hu
  split at hu
  · exact hu
  · cases hu
theorem Lies.new1 (w : World) (u : Value) (t : TypeId) : Lies (w.alloc (.cells #[u] t)) (w.heap.size + 1) (some ⟨w.heap.size, 0, none⟩) [u] := fun _ => by
  refine ⟨_, rfl, by simp, fun j v hv => ?_⟩
  match j, hv with
  | 0, hv =>
    simp only [List.getElem?_cons_zero, Option.some.injEq] at hv
    subst hv
    rw [add_row, cell_of_row _ _ _ #[u] t (0, 0) (heap_alloc_new w _)]
    rfl
  | j + 1, hv => simp at hv
theorem Lies.own {base : Nat} {e : TypeId} {n c size : Nat} (h : w.ownsRow base e size (.slice A n c) n xs) : Lies w w.heap.size A xs := fun hne => by
  rcases h.2 with ⟨h1, h2⟩ | ⟨g, cap, cur, h1, h2, h3, _⟩
  · refine absurd (List.eq_nil_of_length_eq_zero ?_) hne
    rw [h.1, h2]; simp
  · simp only [Value.slice.injEq] at h1
    obtain ⟨rfl, _, _⟩ := h1
    exact ⟨_, rfl, (Array.getElem?_eq_some_iff.1 h3).1, h.cells (g := g) rfl⟩
end

/-! ### bytes and numbers as values -/
abbrev bv (c : UInt8) : Value := .int .u8 (c.toNat : Int)
abbrev hv (c : UInt16) : Value := .int .u16 (c.toNat : Int)
abbrev uv (c : UInt32) : Value := .int .u32 (c.toNat : Int)

theorem Lies.of_map {α : Type} {f : α → Value} {w : World} {B : Nat} {A : Option Addr} {l : List α} (h : Lies w B A (l.map f)) {k : Nat} (hk : k < l.length) :
    ∃ ad x, A = some ad ∧ ad.block < B ∧ Hid (l[k]? = some x) ∧ w.cell? (ad.add k) = some (f x) := by
  obtain ⟨ad, h1, h2, h3⟩ := h.at_ (k := k) (by simpa using hk)
  exact ⟨ad, l[k], h1, h2, List.getElem?_eq_getElem hk, by rw [h3]; simp⟩
theorem Lies.byte {w : World} {B : Nat} {A : Option Addr} {l : List UInt8} (h : Lies w B A (l.map bv)) {k : Nat} (hk : k < l.length) :
    ∃ ad x, A = some ad ∧ ad.block < B ∧ Hid (l[k]? = some x) ∧ w.cell? (ad.add k) = some (.int .u8 (x.toNat : Int)) := h.of_map hk
theorem Lies.word {w : World} {B : Nat} {A : Option Addr} {l : List UInt32} (h : Lies w B A (l.map uv)) {k : Nat} (hk : k < l.length) :
    ∃ ad x, A = some ad ∧ ad.block < B ∧ Hid (l[k]? = some x) ∧ w.cell? (ad.add k) = some (.int .u32 (x.toNat : Int)) := h.of_map hk
theorem take_some {α : Type} {l : List α} {k : Nat} {x : α} (h : l[k]? = some x) : l.take (k + 1) = l.take k ++ [x] := by
  rw [List.take_add_one, h]; rfl
theorem one_bytes (l : List UInt8) : ∀ u ∈ l.map bv, u.oneCell' = true := by
  intro u hu
  obtain ⟨c, _, rfl⟩ := List.mem_map.1 hu
  rfl
/-! ### endings -/
theorem ret_int {k : IntKind} {a b : Int} (h : a = b) : Ending.returned (.int k a) = .returned (.int k b) := by rw [h]
theorem ret_bool {a b : Bool} (h : a = b) : Ending.returned (.bool a) = .returned (.bool b) := by rw [h]

theorem ret2_int {k : IntKind} {a b : Int} {v : Value} (h : a = b) : Ending.returned (.tuple #[.int k a, v]) = .returned (.tuple #[.int k b, v]) := by rw [h]
theorem ret_slice {A : Option Addr} {n m c : Nat} (h : n = m) : Ending.returned (.slice A n c) = .returned (.slice A m c) := by rw [h]

/-! ### a block that is known whole -/
def Whole (w : World) (g : Nat) (t : TypeId) (cs : Array Value) : Prop := w.heap[g]? = some (.cells cs t (0, 0))
section
variable {w w' : World} {g : Nat} {t : TypeId} {cs : Array Value}
theorem Whole.lt (h : Whole w g t cs) : g < w.heap.size := (Array.getElem?_eq_some_iff.1 h).1
theorem Whole.cell (h : Whole w g t cs) (i : Nat) : w.cell? ⟨g, i, none⟩ = cs[i]? := cell_of_row w g i cs t (0, 0) h
theorem Whole.frozen (h : Whole w g t cs) (i : Nat) : w.frozen? ⟨g, i, none⟩ = false := frozen_of_row w g i cs t h
theorem Whole.new (w : World) (t : TypeId) (cs : Array Value) : Whole (w.alloc (.cells cs t)) w.heap.size t cs := heap_alloc_new w _
theorem Whole.alloc (h : Whole w g t cs) (o : Obj) : Whole (w.alloc o) g t cs := (Below.heap_alloc w o g h.lt).trans h
theorem Whole.far (h : Whole w g t cs) {p : Addr} (hp : g ≠ p.block) (u : Value) : Whole (w.setCell p u) g t cs := (Below.heap_setCell w p u g hp).trans h
theorem Whole.below {B : Nat} (h : Whole w g t cs) (hb : Below B w w') (hg : g < B) : Whole w' g t cs := (hb.block g hg).trans h
theorem Whole.grown {row : Option Nat} (h : Whole w g t cs) (hb : w.grownBy w' row) (hg : some g ≠ row) : Whole w' g t cs := (hb.block g h.lt hg).trans h
theorem Whole.set_ (h : Whole w g t cs) (i : Nat) (u : Value) : Whole (w.setCell ⟨g, i, none⟩ u) g t (cs.setIfInBounds i u) := heap_setCell_same w g i cs t u h
theorem Whole.drew (h : Whole w g t cs) : Whole w.drew g t cs := h
theorem Whole.drewN (h : Whole w g t cs) (n : Nat) : Whole (w.drewN n) g t cs := h
end

/-! ### append onto a row of the call's own, whatever the source -/
section
variable {P : Program} (w : World)
theorem run_append_lies (base : Nat) (t ty e : TypeId) (z : Value) (bytes : Nat) (ht : P.underlying t = some (.slice e)) (hi : (P.info? e).map (fun i => (i.zero, i.size, i.bytes)) = some (some z, 1, bytes))
    (hzs : z.cells.size = 1) (v : Value) (n : Nat) (xs : List Value) (hown : w.ownsRow base e 1 v n xs)
    (B : Nat) (A : Option Addr) (m c : Nat) (news : List Value) (hm : news.length = m) (hl : Lies w B A news) (h1 : ∀ u ∈ news, u.oneCell' = true)
    (hbytes : (n + m) * bytes ≤ 140737488355328) (h63 : n + m ≤ maxLen) (hbase : base ≤ w.heap.size) :
    ∃ v' w', (Builtin.append_ #[t, t] ty #[v, .slice A m c]).run P w = .ok v' w' ∧ w'.ownsRow base e 1 v' (n + m) (xs ++ news) ∧ w.grownBy w' v.ownBlock ∧
      (v' = .slice none 0 0 ↔ v = .slice none 0 0 ∧ m = 0) := by
  obtain ⟨i, hi0, hi1, hi2, hi3⟩ := info_parts hi
  by_cases hm0 : m = 0
  · subst hm0
    have hn : news = [] := List.eq_nil_of_length_eq_zero hm
    subst hn
    rcases A with _ | ad
    · refine ⟨v, w, ?_, by simpa using hown, World.grownBy.refl w _, by simp⟩
      rcases hown.2 with ⟨rfl, rfl⟩ | ⟨g, cap, cur, rfl, _, _, hnc, _⟩
      · simp [Builtin.append_, run_underlying ht, sizeOf, typeInfo, hi0, Builtin.lenOf, Builtin.firstCells]
      · simp [Builtin.append_, run_underlying ht, sizeOf, typeInfo, hi0, Builtin.lenOf, Builtin.firstCells, hnc, storeCells]
    · exact run_append_own w base t ty e i z 1 bytes ht hi0 hi1 hi2 hi3 hzs (by omega) v n xs hown ad 0 c [] (by simp) (fun j u hu => by simp at hu) h1 h63 hbytes hbase
  · have hne : news ≠ [] := fun e => by subst e; simp at hm; omega
    obtain ⟨ad, rfl, _, hc⟩ := hl hne
    exact run_append_own w base t ty e i z 1 bytes ht hi0 hi1 hi2 hi3 hzs (by omega) v n xs hown ad m c news (by omega) hc h1 h63 hbytes hbase

theorem wp_append_lies {o : Oper} {a : Act} {K : Act → World → Prop} {Q : Exit → Act → World → Prop} (s x : Operand) (t : TypeId)
    (ho : o.op = .call { callee := .builtin .append, args := #[s, x], argTypes := #[t, t] })
    (base : Nat) (e : TypeId) (z : Value) (bytes : Nat) (ht : P.underlying t = some (.slice e)) (hi : (P.info? e).map (fun i => (i.zero, i.size, i.bytes)) = some (some z, 1, bytes))
    (hzs : z.cells.size = 1) (v : Value) (n : Nat) (xs : List Value) (hs : a.eval s = v) (hown : w.ownsRow base e 1 v n xs)
    (B : Nat) (A : Option Addr) (m c : Nat) (news : List Value) (hx : a.eval x = .slice A m c) (hm : news.length = m) (hl : Lies w B A news) (h1 : ∀ u ∈ news, u.oneCell' = true)
    (hbytes : (n + m) * bytes ≤ 140737488355328) (h63 : n + m ≤ maxLen) (hbase : base ≤ w.heap.size)
    (h : ∀ A' c' w', w'.ownsRow base e 1 (.slice A' (n + m) c') (n + m) (xs ++ news) → w.grownBy w' v.ownBlock → (Value.slice A' (n + m) c' = .slice none 0 0 ↔ v = .slice none 0 0 ∧ m = 0) → K (a.put o.dst (.slice A' (n + m) c')) w') : o.wp P a w K Q := by
  obtain ⟨v', w', hr, h2, h3, h4⟩ := run_append_lies (P := P) w base t o.type e z bytes ht hi hzs v n xs hown B A m c news hm hl h1 hbytes h63 hbase
  unfold Oper.wp execOp
  simp only [ho, resolve, invoke, builtin, Sem.run_bind, Sem.run_pure, Result.andThen_ok, List.map_toArray, List.map_cons, List.map_nil, hs, hx, hr]
  rcases h2.2 with ⟨rfl, h5⟩ | ⟨g, cap, cur, rfl, _⟩
  · have := h none 0 w' (by rw [h5]; rw [h5] at h2; exact h2) h3 (by rw [h5]; exact h4)
    rw [h5] at this
    exact this
  · exact h _ _ w' h2 h3 h4

theorem wpList_append_lies {ops : Array Oper} {rest : List Oper} {o : Oper} {a : Act} {Q : Exit → Act → World → Prop} (hgd : o.guard = none) (s x : Operand) (t : TypeId)
    (ho : o.op = .call { callee := .builtin .append, args := #[s, x], argTypes := #[t, t] })
    (base : Nat) (e : TypeId) (z : Value) (bytes : Nat) (ht : P.underlying t = some (.slice e)) (hi : (P.info? e).map (fun i => (i.zero, i.size, i.bytes)) = some (some z, 1, bytes))
    (hzs : z.cells.size = 1) (v : Value) (n : Nat) (xs : List Value) (hs : a.eval s = v) (hown : w.ownsRow base e 1 v n xs)
    (B : Nat) (A : Option Addr) (m c : Nat) (news : List Value) (hx : a.eval x = .slice A m c) (hm : news.length = m) (hl : Lies w B A news) (h1 : ∀ u ∈ news, u.oneCell' = true)
    (hbytes : (n + m) * bytes ≤ 140737488355328) (h63 : n + m ≤ maxLen) (hbase : base ≤ w.heap.size)
    (h : ∀ A' c' w', w'.ownsRow base e 1 (.slice A' (n + m) c') (n + m) (xs ++ news) → w.grownBy w' v.ownBlock → (Value.slice A' (n + m) c' = .slice none 0 0 ↔ v = .slice none 0 0 ∧ m = 0) → wpList P ops Q rest (a.put o.dst (.slice A' (n + m) c')) w') : wpList P ops Q (o :: rest) a w :=
  wpList_plain hgd fun _ hK => wp_append_lies w s x t ho base e z bytes ht hi hzs v n xs hs hown B A m c news hx hm hl h1 hbytes h63 hbase fun A' c' w' h2 h3 h4 => hK _ _ (h A' c' w' h2 h3 h4)
end

/-! ### what is owned and new -/
section
variable {w w' : World} {base e n c : Nat} {A : Option Addr} {xs : List Value}
theorem own_cap (h : w.ownsRow base e 1 (.slice A n c) n xs) : xs.length = n ∧ n ≤ c ∧ c ≤ maxLen := by
  refine ⟨by simpa using h.1, ?_⟩
  rcases h.2 with ⟨h1, h2⟩ | ⟨g, cap, cur, h1, _, _, h3, h4, _⟩
  · simp only [Value.slice.injEq] at h1
    omega
  · simp only [Value.slice.injEq] at h1
    omega
theorem own_below {B : Nat} {v : Value} (h : w.ownsRow base e 1 v n xs) (hb : Below B w w') (hB : ∀ g, v.ownBlock = some g → g < B) : w'.ownsRow base e 1 v n xs := by
  refine ⟨h.1, ?_⟩
  rcases h.2 with h2 | ⟨g, cap, cur, rfl, h3, h4, h5⟩
  · exact .inl h2
  · exact .inr ⟨g, cap, cur, rfl, h3, (hb.block g (hB g rfl)).trans h4, h5⟩
theorem own_below' {v : Value} (h : w.ownsRow base e 1 v n xs) (hb : Below w.heap.size w w') : w'.ownsRow base e 1 v n xs :=
  own_below h hb fun g hg => (h.lt g hg).2
theorem own_base {base' : Nat} {v : Value} (h : w.ownsRow base e 1 v n xs) (hb : base' ≤ base) : w.ownsRow base' e 1 v n xs := by
  refine ⟨h.1, ?_⟩
  rcases h.2 with h2 | ⟨g, cap, cur, rfl, h3, h4⟩
  · exact .inl h2
  · exact .inr ⟨g, cap, cur, rfl, by omega, h4⟩
theorem below_own {B : Nat} {a : World} {v : Value} (hb : Below B a w) (h : w.ownsRow base e 1 v n xs) (hg : w.grownBy w' v.ownBlock) (hB : B ≤ base) (hBw : B ≤ w.heap.size) : Below B a w' :=
  hb.grown hg hBw fun k hk => Nat.le_trans hB (h.lt k hk).1
theorem below_drewN {B : Nat} {a w : World} (h : Below B a w) (n : Nat) : Below B a (w.drewN n) := ⟨h.os, h.tape, h.output, h.size, h.block⟩
end
theorem Lies.newN (w : World) (us : List Value) (t : TypeId) : Lies (w.alloc (.cells us.toArray t)) (w.heap.size + 1) (some ⟨w.heap.size, 0, none⟩) us := fun _ =>
  ⟨_, rfl, by simp, fun j v hv => by rw [add_row, cell_of_row _ _ _ us.toArray t (0, 0) (heap_alloc_new w _)]; simpa using hv⟩
end Go.Proofs.YteknmgmdmjmnmaaGreatDoor




namespace Go.Proofs.YteknmgmdmjmnmaaGreatDoor
open Go.RowKit

theorem u8info : (Tryz.prog.info? 5).map (fun i => (i.zero, i.size, i.bytes)) = some (some (.int .u8 0), 1, 1) := by kernel_rfl

theorem own_empty (w : World) (base : Nat) (hb : base ≤ w.heap.size) : (w.alloc (.cells #[] 5)).ownsRow base 5 1 (.slice (some ⟨w.heap.size, 0, none⟩) 0 0) 0 [] :=
  World.ownsRow_made w #[] 0 hb (Nat.zero_le _) rfl


theorem Lies.drewN {w : World} {B : Nat} {A : Option Addr} {xs : List Value} (h : Lies w B A xs) (q : Nat) : Lies (w.drewN q) B A xs := h

theorem ne_of_at {α : Type} {a b : List α} {k : Nat} {x y : α} (h1 : a[k]? = some x) (h2 : b[k]? = some y) (h : x ≠ y) : a ≠ b := by
  intro e
  subst e
  rw [h1] at h2
  exact h (Option.some.inj h2)
theorem take_eq_snoc {α : Type} {a b : List α} {k : Nat} {x y : α} (h1 : a[k]? = some x) (h2 : b[k]? = some y) (he : a.take k = b.take k) (h : x = y) : a.take (k + 1) = b.take (k + 1) := by
  rw [take_some h1, take_some h2, he, h]

theorem same_any (A A' : Option Addr) (c c' B : Nat) (a b : List UInt8) (w : World) (ha : Lies w B A (a.map bv)) (hb : Lies w B A' (b.map bv)) (hn : a.length ≤ maxLen) :
    Calls Tryz.prog 79 #[.slice A a.length c, .slice A' b.length c'] w fun e w' => e = .returned (.bool (decide (a = b))) ∧ ∃ q, w' = w.drewN q := by
  unfold maxLen at hn
  by_cases hl : a.length = b.length
  · have hneq : ((a.length : Int) != (b.length : Int)) = false := by rw [bne_eq_false_iff_eq]; omega
    have hlb : b.length ≤ a.length := by omega
    have hlb' : a.length ≤ b.length := by omega
    clear hl
    go_enter Tryz.func79, Tryz.ntmps79
    go_wp2
    go_loopw [5] (fun i wr => ∃ k q : Nat, k ≤ a.length ∧ i = .int .i64 k ∧ Hid (a.take k = b.take k) ∧ wr = w.drewN q) (fun i _ => a.length - (intOf i).toNat)
    case atStart => exact ⟨0, 0, Nat.zero_le _, rfl, rfl, rfl⟩
    case round =>
      obtain ⟨k, q, hk, rfl, htk, rfl⟩ := hrel
      by_cases hlt : k < a.length
      · obtain ⟨ad, x, rfl, _, hx, hc⟩ := ha.byte hlt
        obtain ⟨ad', y, rfl, _, hy, hc'⟩ := hb.byte (k := k) (by omega)
        have hi1 : (k : Int) < (a.length : Int) := by omega
        have hi2 : (k : Int) < (b.length : Int) := by omega
        by_cases hxy : x = y
        · have HT := Lib.hid (take_eq_snoc hx.out hy.out htk.out hxy)
          have hne : ((x.toNat : Int) != (y.toNat : Int)) = false := by rw [hxy]; simp
          clear hxy
          go_wp2
          go_quiet (fail)
          go_wp2
          go_roundw
          case rel => exact ⟨k + 1, q + nq, by omega, by go_num, HT, by simp⟩
          case measure => simp [intOf]; omega
        · have HN := Lib.hid (ne_of_at hx.out hy.out hxy)
          have hne : ((x.toNat : Int) != (y.toNat : Int)) = true := by
            rw [bne_iff_ne]
            intro h
            exact hxy (UInt8.toNat_inj.1 (by omega))
          clear hxy
          go_wp2
          go_quiet (fail)
          go_wp2
          go_ret
          exact ⟨ret_bool (by rw [decide_eq_false HN.out]), q + nq, by simp⟩
      · have HE : Hid (a = b) := by
          have := htk.out
          rw [List.take_of_length_le (by omega), List.take_of_length_le (by omega)] at this
          exact this
        go_wp2
        go_ret
        exact ⟨ret_bool (by rw [decide_eq_true HE.out]), q, rfl⟩
  · have hneq : ((a.length : Int) != (b.length : Int)) = true := by rw [bne_iff_ne]; omega
    have HN : Hid (a ≠ b) := fun h => hl (by rw [h])
    clear hl
    go_enter Tryz.func79, Tryz.ntmps79
    go_wp2
    go_ret
    exact ⟨ret_bool (by rw [decide_eq_false HN.out]), 0, rfl⟩
end Go.Proofs.YteknmgmdmjmnmaaGreatDoor



namespace Go.Proofs.YteknmgmdmjmnmaaGreatDoor
open Go.RowKit

def IsB (w : World) (B : Nat) (v : Value) (l : List UInt8) : Prop := ∃ A c, v = .slice A l.length c ∧ Lies w B A (l.map bv) ∧ l.length ≤ c ∧ c ≤ maxLen
theorem IsB.below {w w' : World} {B : Nat} {v : Value} {l : List UInt8} (h : IsB w B v l) (hb : Below B w w') : IsB w' B v l := by
  obtain ⟨A, c, h1, h2, h3, h4⟩ := h
  exact ⟨A, c, h1, h2.below hb, h3, h4⟩
def tot (ps : List (List UInt8)) : Nat := ps.flatten.length
theorem tot_take {ps : List (List UInt8)} {k : Nat} {p : List UInt8} (h : ps[k]? = some p) : tot (ps.take (k + 1)) = tot (ps.take k) + p.length := by
  rw [take_some h]
  simp only [tot, List.flatten_append, List.length_append, List.flatten_cons, List.flatten_nil, List.append_nil]
theorem tot_le (ps : List (List UInt8)) (k : Nat) : tot (ps.take k) ≤ tot ps := by
  have h : ps = ps.take k ++ ps.drop k := (List.take_append_drop k ps).symm
  have h2 : tot ps = tot (ps.take k) + tot (ps.drop k) := by
    conv => lhs; rw [h]
    simp only [tot, List.flatten_append, List.length_append]
  omega
structure Parts (w : World) (B : Nat) (A : Option Addr) (vs : List Value) (ps : List (List UInt8)) : Prop where
  lies : Lies w B A vs
  len : vs.length = ps.length
  each : ∀ (i : Nat) (p : List UInt8), ps[i]? = some p → ∃ v, vs[i]? = some v ∧ IsB w B v p
theorem Parts.at_ {w : World} {B : Nat} {A : Option Addr} {vs : List Value} {ps : List (List UInt8)} (h : Parts w B A vs ps) {k : Nat} (hk : k < ps.length) :
    ∃ ad A' c' p, A = some ad ∧ ad.block < B ∧ Hid (ps[k]? = some p) ∧ w.cell? (ad.add k) = some (.slice A' p.length c') ∧ Lies w B A' (p.map bv) ∧ p.length ≤ c' ∧ c' ≤ maxLen := by
  obtain ⟨v, hv, A', c', h1, h2, h3, h4⟩ := h.each k _ (List.getElem?_eq_getElem hk)
  have hk' : k < vs.length := by rw [h.len]; exact hk
  obtain ⟨ad, ha, hb, hc⟩ := h.lies.at_ hk'
  have hv' : vs[k] = v := by
    rw [List.getElem?_eq_getElem hk'] at hv
    exact Option.some.inj hv
  exact ⟨ad, A', c', ps[k], ha, hb, List.getElem?_eq_getElem hk, by rw [hc, hv', h1], h2, h3, h4⟩
theorem Parts.below {w w' : World} {B : Nat} {A : Option Addr} {vs : List Value} {ps : List (List UInt8)} (h : Parts w B A vs ps) (hb : Below B w w') : Parts w' B A vs ps :=
  ⟨h.lies.below hb, h.len, fun i p hp => by obtain ⟨v, h1, h2⟩ := h.each i p hp; exact ⟨v, h1, h2.below hb⟩⟩

theorem Parts.more {w : World} {B B' : Nat} {A : Option Addr} {vs : List Value} {ps : List (List UInt8)} (h : Parts w B A vs ps) (hB : B ≤ B') : Parts w B' A vs ps :=
  ⟨h.lies.more hB, h.len, fun i p hp => by obtain ⟨v, h1, A', c', h2, h3, h4, h5⟩ := h.each i p hp; exact ⟨v, h1, A', c', h2, h3.more hB, h4, h5⟩⟩

end Go.Proofs.YteknmgmdmjmnmaaGreatDoor















namespace Go.Proofs.YteknmgmdmjmnmaaGreatDoor
open Go.RowKit Go.Shelf

/-- Below n₀, and in the blocks of g, B is as A. -/
structure Kept (n₀ : Nat) (g : Nat → Prop) (A B : World) : Prop where
  low : Below n₀ A B
  at_ : ∀ i, g i → B.heap[i]? = A.heap[i]?
section
variable {n₀ : Nat} {g : Nat → Prop} {A B C : World}
theorem Kept.refl (n₀ : Nat) (g : Nat → Prop) (A : World) : Kept n₀ g A A := ⟨Below.refl _ _, fun _ _ => rfl⟩
theorem Kept.trans (h : Kept n₀ g A B) (k : Kept n₀ g B C) : Kept n₀ g A C := ⟨h.low.trans k.low, fun i hi => (k.at_ i hi).trans (h.at_ i hi)⟩
theorem Kept.grown {row : Option Nat} (hg : A.grownBy B row) (hn : n₀ ≤ A.heap.size) (hr : ∀ k, row = some k → n₀ ≤ k ∧ ¬ g k) (hlt : ∀ i, g i → i < A.heap.size) : Kept n₀ g A B :=
  ⟨(Below.refl _ _).grown hg hn fun k e => (hr k e).1, fun i hi => hg.block i (hlt i hi) fun e => (hr i e.symm).2 hi⟩
theorem Kept.putObj {w : World} (hn : n₀ ≤ w.heap.size) (hlt : ∀ i, g i → i < w.heap.size) (W : World) (l : Nat) (o o' : Obj) (hl : w.heap.size ≤ l) (h : W.heap[l]? = some o) (_h1 : o.isCells = false) (_h2 : o.isWalk = false) : Kept n₀ g W (W.putObj l o') := by
  have hsz := (Array.getElem?_eq_some_iff.1 h).1
  refine Kept.grown (grownBy_putObj' W l o') (by omega) (fun k e => ?_) (fun i hi => by have := hlt i hi; omega)
  cases e
  exact ⟨by omega, fun hg => by have := hlt l hg; omega⟩
theorem Kept.cell {i j : Nat} (k : Kept n₀ g A B) (hi : g i) : B.cell? ⟨i, j, none⟩ = A.cell? ⟨i, j, none⟩ := World.cell?_of_block (a := ⟨i, j, none⟩) (k.at_ i hi)
theorem boxed_row_ne {W : World} {b t e : Nat} {u : Value} (h : Boxed W b t u) (hte : t ≠ e) {base size k : Nat} {v : Value} {xs : List Value} (hr : W.ownsRow base e size v k xs) : v.ownBlock ≠ some b := (h.not_row hte hr).symm
end

/-! ### append inside a fence, whatever the source -/
theorem wpListIn_append_lies {F : Fence} {N : Nat} {P : Program} (w : World) {ops : Array Oper} {rest : List Oper} {o : Oper} {a : Act} {Q : Exit → Act → World → Prop}
    (hgd : o.guard = none) (s x : Operand) (t : TypeId)
    (hop : o.op = .call { callee := .builtin .append, args := #[s, x], argTypes := #[t, t] })
    (base : Nat) (e : TypeId) (z : Value) (bytes : Nat) (ht : P.underlying t = some (.slice e)) (hi : (P.info? e).map (fun i => (i.zero, i.size, i.bytes)) = some (some z, 1, bytes))
    (hzs : z.cells.size = 1) (v : Value) (n : Nat) (xs : List Value) (hs : a.eval s = v) (hown : w.ownsRow base e 1 v n xs)
    (B : Nat) (A : Option Addr) (m c : Nat) (news : List Value) (hx : a.eval x = .slice A m c) (hm : news.length = m) (hl : Lies w B A news) (h1 : ∀ u ∈ news, u.oneCell' = true)
    (hbytes : (n + m) * bytes ≤ 140737488355328) (h63 : n + m ≤ maxLen) (hbase : base ≤ w.heap.size)
    (h : ∀ A' c' w', w'.ownsRow base e 1 (.slice A' (n + m) c') (n + m) (xs ++ news) → w.grownBy w' v.ownBlock → (Value.slice A' (n + m) c' = .slice none 0 0 ↔ v = .slice none 0 0 ∧ m = 0) → wpListIn F N P ops Q rest (a.put o.dst (.slice A' (n + m) c')) w') : wpListIn F N P ops Q (o :: rest) a w := by
  refine wpListIn_plain hgd fun K hK' => ?_
  obtain ⟨v', w', hr, h2, h3, h4⟩ := run_append_lies (P := P) w base t o.type e z bytes ht hi hzs v n xs hown B A m c news hm hl h1 hbytes h63 hbase
  unfold Oper.wpIn
  refine ⟨by simp [Oper.about, hop, resolve, Target.leads, Sem.run_pure], ?_⟩
  rw [Oper.semAt_plain F _ _ (by rw [hop]; intro c hc'; cases hc')]
  simp only [execOp, hop, resolve, invoke, builtin, Sem.run_bind, Sem.run_pure, Result.andThen_ok, List.map_toArray, List.map_cons, List.map_nil, hs, hx, hr]
  rcases h2.2 with ⟨rfl, h5⟩ | ⟨g, cap, cur, rfl, _⟩
  · have h6 := h none 0 w' (by rw [h5]; rw [h5] at h2; exact h2) h3 (by rw [h5]; exact h4)
    rw [h5] at h6
    exact hK' _ _ h6
  · exact hK' _ _ (h _ _ w' h2 h3 h4)
end Go.Proofs.YteknmgmdmjmnmaaGreatDoor



namespace Go.Proofs.YteknmgmdmjmnmaaGreatDoor
open Go.RowKit

section
variable {P : Program} (w : World)
theorem run_append_told (base : Nat) (t ty e : TypeId) (i : TypeInfo) (z : Value) (size bytes : Nat) (ht : P.underlying t = some (.slice e)) (hi : P.info? e = some i) (hz : i.zero = some z)
    (hsize : i.size = size) (hby : i.bytes = bytes) (hzs : z.cells.size = size) (hsz : 0 < size)
    (v : Value) (n : Nat) (xs : List Value) (hown : w.ownsRow base e size v n xs)
    (a : Addr) (m c : Nat) (hm : 0 < m) (news : List Value) (hl : news.length = m * size) (hnews : ∀ j u, news[j]? = some u → w.cell? (a.add j) = some u) (h1 : ∀ u ∈ news, u.oneCell' = true)
    (h63 : n + m ≤ maxLen) (hbytes : (n + m) * bytes ≤ 140737488355328) (hbase : base ≤ w.heap.size) :
    ∃ v' w', (Builtin.append_ #[t, t] ty #[v, .slice (some a) m c]).run P w = .ok v' w' ∧ w'.ownsRow base e size v' (n + m) (xs ++ news) ∧ w.grownBy w' v.ownBlock ∧
      (v'.ownBlock = some w.heap.size ∨ (v'.ownBlock = v.ownBlock ∧ ∃ g, v.ownBlock = some g)) := by
  obtain ⟨v', w', hr, h2, h3, _⟩ := run_append_own (P := P) w base t ty e i z size bytes ht hi hz hsize hby hzs hsz v n xs hown a m c news hl hnews h1 h63 hbytes hbase
  refine ⟨v', w', hr, h2, h3, ?_⟩
  have hmx : n + m ≤ 9223372036854775807 := by simp only [maxLen] at h63; omega
  subst hsize hby
  rcases hown.2 with ⟨rfl, rfl⟩ | ⟨g, cap, cur, rfl, hbg, hg, hnc, hcm, hcs, htake⟩
  · have hr2 := run_append_nil (P := P) w t ty e i z ht hi hz a m c news hl hnews hm (by omega) (by simp only [Nat.zero_add] at hbytes; omega)
    rw [hr] at hr2
    injection hr2 with e1 e2
    subst e1
    exact .inl rfl
  · by_cases hroom : n + m ≤ cap
    · have hfit : n * i.size + news.length ≤ cur.size := by rw [hl, hcs, ← Nat.add_mul]; exact Nat.mul_le_mul_right _ hroom
      have hr2 := run_append_room (P := P) w t ty e i ht hi g n cap cur hg a m c news hl hnews h1 hroom hfit
      rw [hr] at hr2
      injection hr2 with e1 e2
      subst e1
      exact .inr ⟨rfl, g, rfl⟩
    · have hr2 := run_append_grow (P := P) w t ty e i z ht hi hz ⟨g, 0, none⟩ n cap xs hown.1 (hown.cells (g := g) rfl) a m c news hl hnews (by omega) (by omega) (growslice_fits (by omega) hbytes)
      rw [hr] at hr2
      injection hr2 with e1 e2
      subst e1
      exact .inl rfl
end
end Go.Proofs.YteknmgmdmjmnmaaGreatDoor








namespace Go.Proofs.YteknmgmdmjmnmaaGreatDoor
open Go.RowKit Go.ChangeShapes Go.WideShapes Go.ChangeAt

theorem wf_u8 {n : Int} (h : (Lit.int .u8 n).wf = true) : 0 ≤ n ∧ n < 256 := by
  have := bounds_u8 h
  omega
theorem wf_u32 {n : Int} (h : (Lit.int .u32 n).wf = true) : 0 ≤ n ∧ n < 4294967296 := by
  have := bounds_u32 h
  omega
theorem wf_u16 {n : Int} (h : (Lit.int .u16 n).wf = true) : 0 ≤ n ∧ n < 65536 := by
  have := bounds_u16 h
  omega
section
variable {H : Type} {enc : TypeId × Value → H} {P : Program} {w : World} {held : Bool} {t e : TypeId} {fuel : Nat} {x : DataW H × List MemPlace} {A : Option Addr} {len cap : Nat}
theorem open_nums {k : IntKind} (ht : P.underlying t = some (.slice e)) (he : P.underlying e = some (.int k)) (hc : P.cellsOf e = 1)
    (h : DataW.trod enc P w 0 (fun _ => true) held fuel t [.slice A len cap] = some x) :
    ∃ zs : List Int, len = zs.length ∧ Lies w w.heap.size A (zs.map (Value.int k)) ∧ len ≤ cap ∧ cap ≤ maxLen ∧ ∀ n ∈ zs, (Lit.int k n).wf = true := by
  rcases open_ints ht he hc h with ⟨hcs, _⟩ | ⟨ad, l, c, zs, hcs, _, hl, hm, hz, _, hcell, hwz⟩
  · simp only [List.cons.injEq, Value.slice.injEq, and_true] at hcs
    obtain ⟨rfl, rfl, rfl⟩ := hcs
    exact ⟨[], rfl, Lies.nil, Nat.le_refl _, Nat.zero_le _, by simp⟩
  · simp only [List.cons.injEq, Value.slice.injEq, and_true] at hcs
    obtain ⟨rfl, rfl, rfl⟩ := hcs
    simp only [if_true] at hz
    refine ⟨zs.take len, by rw [List.length_take]; omega, fun hne => ?_, hl, hm, fun n hn => hwz n (List.mem_of_mem_take hn)⟩
    have h0 : 0 < zs.length := by
      rcases Nat.eq_zero_or_pos zs.length with h0 | h0
      · exact absurd (by rw [List.eq_nil_of_length_eq_zero h0]; simp) hne
      · exact h0
    have hb := World.block_lt_of_cell? w _ (hcell 0 h0)
    rw [blk_add] at hb
    refine ⟨ad, rfl, hb, fun j u hu => ?_⟩
    rw [List.getElem?_map, List.getElem?_take] at hu
    split at hu
    · obtain ⟨n, hn, rfl⟩ := Option.map_eq_some_iff.1 hu
      have hj := (List.getElem?_eq_some_iff.1 hn).1
      rw [hcell j hj]
      simp [hn]
    · simp at hu
theorem open_bytes (ht : P.underlying t = some (.slice e)) (he : P.underlying e = some (.int .u8)) (hc : P.cellsOf e = 1)
    (h : DataW.trod enc P w 0 (fun _ => true) held fuel t [.slice A len cap] = some x) :
    ∃ l : List UInt8, len = l.length ∧ Lies w w.heap.size A (l.map bv) ∧ len ≤ cap ∧ cap ≤ maxLen := by
  obtain ⟨zs, h1, h2, h3, h4, h5⟩ := open_nums ht he hc h
  refine ⟨zs.map fun n => UInt8.ofNat n.toNat, by simpa using h1, ?_, h3, h4⟩
  have : (zs.map fun n => UInt8.ofNat n.toNat).map bv = zs.map (Value.int .u8) := by
    rw [List.map_map]
    refine List.map_congr_left fun n hn => ?_
    have := wf_u8 (h5 n hn)
    simp only [Function.comp, bv, UInt8.toNat_ofNat']
    congr 1
    omega
  rw [this]
  exact h2
theorem slice_of_trod {n : Nat} {v : Value} (ht : P.underlying t = some (.slice e)) (h : DataW.trod enc P w 0 (fun _ => true) held n t [v] = some x) : ∃ A len cap, v = .slice A len cap := by
  rcases DataW.trod_slice ht h with ⟨h1, _⟩ | ⟨a, len, cap, _, _, _, _, h1, _⟩
  · simp only [List.cons.injEq, and_true] at h1
    exact ⟨_, _, _, h1⟩
  · simp only [List.cons.injEq, and_true] at h1
    exact ⟨_, _, _, h1⟩
/-- What is read of a value stays within the form's reach. -/
def Small {H : Type} (P : Program) (t : TypeId) (d : DataW H) : Prop := ∀ n ∈ DataW.weights P t d, n ≤ reachBytes
theorem mem_weightsAll {ds : List (DataW H)} {d : DataW H} (hd : d ∈ ds) {n : Nat} (hn : n ∈ DataW.weights P e d) : n ∈ DataW.weightsAll P e ds := by
  induction ds with
  | nil => cases hd
  | cons d0 ds ih =>
    simp only [DataW.weightsAll, List.mem_append]
    rcases List.mem_cons.1 hd with rfl | hd
    · exact .inl hn
    · exact .inr (ih hd)
/-- A slice of whatever elements: its cells lie one after the other, and each element's cells read as its type. -/
theorem open_cells {k : Nat} (ht : P.underlying t = some (.slice e)) (hc : P.cellsOf e = k) (hk : 0 < k)
    (h : DataW.trod enc P w 0 (fun _ => true) held fuel t [.slice A len cap] = some x) (hs : Small P t x.1) :
    ∃ (cs : List Value) (n : Nat), cs.length = len * k ∧ Lies w w.heap.size A cs ∧ len ≤ cap ∧ cap ≤ maxLen ∧ cap * P.bytesOf e ≤ reachBytes ∧
      ∀ i, i < len → ∃ y, DataW.trod enc P w 0 (fun _ => true) held n e ((cs.drop (i * k)).take k) = some y ∧ Small P e y.1 := by
  rcases Go.Deep.open_slice ht h with ⟨hcs, _⟩ | ⟨a, l, c, m, n, D, Pl, hcs, _, hl, hm, hmm, hx, hi⟩
  · simp only [List.cons.injEq, Value.slice.injEq, and_true] at hcs
    obtain ⟨rfl, rfl, rfl⟩ := hcs
    exact ⟨[], 0, by simp, Lies.nil, Nat.le_refl _, Nat.zero_le _, by simp, fun i hi => absurd hi (by omega)⟩
  · simp only [List.cons.injEq, Value.slice.injEq, and_true] at hcs
    obtain ⟨rfl, rfl, rfl⟩ := hcs
    simp only [if_true] at hmm
    subst hmm
    rw [hx] at hs
    have hsz : m * P.bytesOf e ≤ reachBytes := by
      refine hs _ ?_
      simp only [DataW.weights, ht, List.length_map, List.length_range]
      rw [Nat.add_sub_cancel' hl]
      exact List.mem_cons_self
    have hsm : ∀ i, i < len → Small P e (D i) := by
      intro i hi n hn
      refine hs n ?_
      simp only [DataW.weights, ht]
      exact List.mem_cons_of_mem _ (List.mem_append.2 (.inl (mem_weightsAll (List.mem_map.2 ⟨i, List.mem_range.2 hi, rfl⟩) hn)))
    have each : ∀ i, i < m → ∃ cs' : List Value, cs'.length = k ∧ (∀ j, j < k → w.cell? (a.add (i * k + j)) = cs'[j]?) ∧ DataW.trod enc P w 0 (fun _ => true) held n e cs' = some (D i, Pl i) := by
      intro i him
      obtain ⟨cs', h1, h2⟩ := hi i him
      rw [hc] at h1
      obtain ⟨_, h3, h4⟩ := World.cells?_some h1
      exact ⟨cs', h3, fun j hj => by rw [← add_add']; exact h4 j hj, h2⟩
    have build : ∀ d, d ≤ m → ∃ cs : List Value, cs.length = d * k ∧ (∀ j u, cs[j]? = some u → w.cell? (a.add j) = some u) ∧
        ∀ i, i < d → DataW.trod enc P w 0 (fun _ => true) held n e ((cs.drop (i * k)).take k) = some (D i, Pl i) := by
      intro d
      induction d with
      | zero => exact fun _ => ⟨[], by simp, fun j u hu => by simp at hu, fun i hi => absurd hi (by omega)⟩
      | succ d ih =>
        intro hd
        obtain ⟨cs, g1, g2, g3⟩ := ih (by omega)
        obtain ⟨cs', e1, e2, e3⟩ := each d (by omega)
        refine ⟨cs ++ cs', by rw [List.length_append, g1, e1, Nat.add_mul, Nat.one_mul], fun j u hu => ?_, fun i hi => ?_⟩
        · rcases Nat.lt_or_ge j cs.length with hj | hj
          · exact g2 j u (by rw [← hu, List.getElem?_append_left hj])
          · rw [List.getElem?_append_right hj] at hu
            have hj2 : j - cs.length < k := by rw [← e1]; exact (List.getElem?_eq_some_iff.1 hu).1
            have := e2 (j - cs.length) hj2
            rw [hu, ← g1, Nat.add_sub_cancel' hj] at this
            exact this
        · rcases Nat.lt_or_ge i d with hlt | hge
          · have h5 := Nat.mul_le_mul_right k (show i + 1 ≤ d by omega)
            rw [Nat.add_mul, Nat.one_mul] at h5
            rw [List.drop_append_of_le_length (by omega), List.take_append_of_le_length (by rw [List.length_drop]; omega)]
            exact g3 i hlt
          · obtain rfl : i = d := by omega
            rw [← g1, List.drop_left, ← e1, List.take_length]
            exact e3
    obtain ⟨cs, g1, g2, g3⟩ := build m (Nat.le_refl _)
    refine ⟨cs.take (len * k), n, by rw [List.length_take, g1]; have := Nat.mul_le_mul_right k hl; omega, fun hne => ?_, hl, hm, hsz, fun i hil => ⟨(D i, Pl i), ?_, hsm i hil⟩⟩
    · have h0 : 0 < cs.length := by
        rcases Nat.eq_zero_or_pos cs.length with h0 | h0
        · exact absurd (by rw [List.eq_nil_of_length_eq_zero h0]; simp) hne
        · exact h0
      have hb := World.block_lt_of_cell? w _ (g2 0 _ (List.getElem?_eq_getElem h0))
      rw [blk_add] at hb
      refine ⟨a, rfl, hb, fun j u hu => g2 j u ?_⟩
      rw [List.getElem?_take] at hu
      split at hu
      · exact hu
      · cases hu
    · have h5 := Nat.mul_le_mul_right k (show i + 1 ≤ len by omega)
      rw [Nat.add_mul, Nat.one_mul] at h5
      rw [List.drop_take, List.take_take, Nat.min_eq_left (by omega)]
      exact g3 i (by omega)
/-- a list built element by element -/
theorem build_list {α : Type} {R : Nat → α → Prop} (n : Nat) (h : ∀ i, i < n → ∃ x, R i x) : ∃ l : List α, l.length = n ∧ ∀ i x, l[i]? = some x → R i x := by
  induction n with
  | zero => exact ⟨[], rfl, fun i x hx => by simp at hx⟩
  | succ n ih =>
    obtain ⟨l, h1, h2⟩ := ih fun i hi => h i (by omega)
    obtain ⟨x, hx⟩ := h n (by omega)
    refine ⟨l ++ [x], by simp [h1], fun i y hy => ?_⟩
    rcases Nat.lt_or_ge i l.length with hi | hi
    · exact h2 i y (by rw [← hy, List.getElem?_append_left hi])
    · rw [List.getElem?_append_right hi] at hy
      have h0 : i - l.length = 0 := by
        have := (List.getElem?_eq_some_iff.1 hy).1
        simp at this
        omega
      rw [h0] at hy
      simp only [List.getElem?_cons_zero, Option.some.injEq] at hy
      subst hy
      have : i = n := by omega
      subst this
      exact hx
end
end Go.Proofs.YteknmgmdmjmnmaaGreatDoor


