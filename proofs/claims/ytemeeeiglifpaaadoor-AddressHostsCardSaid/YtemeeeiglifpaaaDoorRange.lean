/- Plain facts for loops over iterators, over whatever program: what a round keeps. No condition of its own. -/
import Derived.RangeFuncBox
import Derived.RangeFuncNested
import Derived.RangeFuncBound
import Derived.RangeFuncCalls
import Derived.RangeFuncLeaves
import Derived.Shelf.Abstract
import Derived.Shelf.RegionOpen
import Derived.OwnWalkIn
import Derived.TacticsInMore
import Derived.LoopNIn
import Derived.LoopIn
import Derived.Maps.AppendAt
import Derived.Test.YtemeeeiglifpaaaDoorBase













namespace Go.Proofs.YtemeeeiglifpaaaDoor
open Go.RowKit Go.Shelf

/-- Below n₀, and in the blocks of g, B is as A. -/
structure Kept (n₀ : Nat) (g : Nat → Prop) (A B : World) : Prop where
  low : Below n₀ A B
  at_ : ∀ i, g i → B.heap[i]? = A.heap[i]?
section
variable {n₀ : Nat} {g : Nat → Prop} {A B C : World}
theorem Kept.refl (n₀ : Nat) (g : Nat → Prop) (A : World) : Kept n₀ g A A := ⟨Below.refl _ _, fun _ _ => rfl⟩
theorem Kept.trans (h : Kept n₀ g A B) (k : Kept n₀ g B C) : Kept n₀ g A C := ⟨h.low.trans k.low, fun i hi => (k.at_ i hi).trans (h.at_ i hi)⟩
theorem Kept.grown {row : Option Nat} (hg : A.grownBy B row) (hn : n₀ ≤ A.heap.size) (hr : ∀ k, row = some k → n₀ ≤ k ∧ ¬ g k) (hlt : ∀ i, g i → i < A.heap.size) : Kept n₀ g A B :=
  ⟨(Below.refl _ _).grown hg hn fun k e => (hr k e).1, fun i hi => hg.block i (hlt i hi) fun e => (hr i e.symm).2 hi⟩
theorem Kept.putObj {w : World} (hn : n₀ ≤ w.heap.size) (hlt : ∀ i, g i → i < w.heap.size) (W : World) (l : Nat) (o o' : Obj) (hl : w.heap.size ≤ l) (h : W.heap[l]? = some o) (_h1 : o.isCells = false) (_h2 : o.isWalk = false) : Kept n₀ g W (W.putObj l o') := by
  have hsz := (Array.getElem?_eq_some_iff.1 h).1
  refine Kept.grown (grownBy_putObj' W l o') (by omega) (fun k e => ?_) (fun i hi => by have := hlt i hi; omega)
  cases e
  exact ⟨by omega, fun hg => by have := hlt l hg; omega⟩
theorem Kept.cell {i j : Nat} (k : Kept n₀ g A B) (hi : g i) : B.cell? ⟨i, j, none⟩ = A.cell? ⟨i, j, none⟩ := World.cell?_of_block (a := ⟨i, j, none⟩) (k.at_ i hi)
theorem boxed_row_ne {W : World} {b t e : Nat} {u : Value} (h : Boxed W b t u) (hte : t ≠ e) {base size k : Nat} {v : Value} {xs : List Value} (hr : W.ownsRow base e size v k xs) : v.ownBlock ≠ some b := (h.not_row hte hr).symm
end

/-! ### append inside a fence, whatever the source -/
theorem wpListIn_append_lies {F : Fence} {N : Nat} {P : Program} (w : World) {ops : Array Oper} {rest : List Oper} {o : Oper} {a : Act} {Q : Exit → Act → World → Prop}
    (hgd : o.guard = none) (s x : Operand) (t : TypeId)
    (hop : o.op = .call { callee := .builtin .append, args := #[s, x], argTypes := #[t, t] })
    (base : Nat) (e : TypeId) (z : Value) (bytes : Nat) (ht : P.underlying t = some (.slice e)) (hi : (P.info? e).map (fun i => (i.zero, i.size, i.bytes)) = some (some z, 1, bytes))
    (hzs : z.cells.size = 1) (v : Value) (n : Nat) (xs : List Value) (hs : a.eval s = v) (hown : w.ownsRow base e 1 v n xs)
    (B : Nat) (A : Option Addr) (m c : Nat) (news : List Value) (hx : a.eval x = .slice A m c) (hm : news.length = m) (hl : Lies w B A news) (h1 : ∀ u ∈ news, u.oneCell' = true)
    (hbytes : (n + m) * bytes ≤ 140737488355328) (h63 : n + m ≤ maxLen) (hbase : base ≤ w.heap.size)
    (h : ∀ A' c' w', w'.ownsRow base e 1 (.slice A' (n + m) c') (n + m) (xs ++ news) → w.grownBy w' v.ownBlock → (Value.slice A' (n + m) c' = .slice none 0 0 ↔ v = .slice none 0 0 ∧ m = 0) → wpListIn F N P ops Q rest (a.put o.dst (.slice A' (n + m) c')) w') : wpListIn F N P ops Q (o :: rest) a w := by
  refine wpListIn_plain hgd fun K hK' => ?_
  obtain ⟨v', w', hr, h2, h3, h4⟩ := run_append_lies (P := P) w base t o.type e z bytes ht hi hzs v n xs hown B A m c news hm hl h1 hbytes h63 hbase
  unfold Oper.wpIn
  refine ⟨by simp [Oper.about, hop, resolve, Target.leads, Sem.run_pure], ?_⟩
  rw [Oper.semAt_plain F _ _ (by rw [hop]; intro c hc'; cases hc')]
  simp only [execOp, hop, resolve, invoke, builtin, Sem.run_bind, Sem.run_pure, Result.andThen_ok, List.map_toArray, List.map_cons, List.map_nil, hs, hx, hr]
  rcases h2.2 with ⟨rfl, h5⟩ | ⟨g, cap, cur, rfl, _⟩
  · have h6 := h none 0 w' (by rw [h5]; rw [h5] at h2; exact h2) h3 (by rw [h5]; exact h4)
    rw [h5] at h6
    exact hK' _ _ h6
  · exact hK' _ _ (h _ _ w' h2 h3 h4)
end Go.Proofs.YtemeeeiglifpaaaDoor

