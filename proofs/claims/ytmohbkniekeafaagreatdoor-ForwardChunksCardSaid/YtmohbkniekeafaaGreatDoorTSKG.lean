/- Layer 14: slices.AppendSeq and Collect of the keys of an own set. -/
/- Layer 14: slices.insertionSortOrdered, pdqsortOrdered up to 12 elements and Sort, of uint32. -/
/- Layer 13: the reference's Split. It writes nothing that was there. -/
import Derived.Test.YtmohbkniekeafaaGreatDoorTSKE
import Derived.Test.YtmohbkniekeafaaGreatDoorTNW
import Derived.RangeFuncBox
import Derived.Sort.Row
import Derived.Sort.LotA
import Derived.CellFam
import Derived.Deep.Draws
import Derived.Deep.QuietTactic
import Derived.BigQuiet
import Derived.Test.YtmohbkniekeafaaGreatDoorTDT
import Derived.BigGuard



namespace Go.Proofs.YtmohbkniekeafaaGreatDoor
open Go.RowKit Go.Maps Go.Shelf

attribute [local go_sem] Oper.semAt_some
set_option linter.unusedSimpArgs false
/-- what has come lies in a row of the call's own, its slice in the box Bs -/
def ApI (w : World) (Bs : Nat) (ss : List UInt32) (W : World) : Prop := (∃ v, Boxed W Bs 23 v ∧ W.ownsRow Bs 22 1 v ss.length (ss.map uv)) ∧ Below Bs w W ∧ Bs + 1 ≤ W.heap.size
theorem ApI.own (w : World) (Bs B : Nat) (hB : Bs < B) : OwnFrom B (ApI w Bs) := by
  rintro s X Y row ⟨⟨v, h1, h2⟩, h3, h4⟩ hg hr
  have hne : ∀ (i : Nat) (cs : Array Value) (t : TypeId) (z : Nat × Nat), X.heap[i]? = some (.cells cs t z) → some i ≠ row := by
    intro i cs t z hi e
    obtain ⟨_, o, ho, hoc⟩ := hr i e.symm
    rw [hi] at ho
    cases ho
    cases hoc
  refine ⟨⟨v, h1.kept hg (hne _ _ _ _ h1), h2.kept hg ?_⟩, h3.grown hg (by omega) (fun k e => by have := (hr k e).1; omega), Nat.le_trans h4 hg.size⟩
  rcases h2.2 with ⟨rfl, _⟩ | ⟨g, cap, cur, rfl, _, hh, _⟩
  · exact .inl rfl
  · exact .inr (hne g _ _ _ hh)
end Go.Proofs.YtmohbkniekeafaaGreatDoor









namespace Go.Proofs.YtmohbkniekeafaaGreatDoor
open Go.RowKit Go.Sort

set_option linter.unusedSimpArgs false
section
variable {α : Type} [Inhabited α] (lt : α → α → Bool)
end
set_option maxRecDepth 100000 in
theorem l64_0 (w : World) : Calls Tryz.prog 199 #[.int .u64 0] w fun e w' => e = .returned (.int .i64 0) ∧ w' = w := by
  go_enter Tryz.func199, Tryz.ntmps199
  go_wp2_with fail
  go_ret
  exact ⟨by kernel_rfl, rfl⟩
set_option maxRecDepth 100000 in
theorem l64_1 (w : World) : Calls Tryz.prog 199 #[.int .u64 1] w fun e w' => e = .returned (.int .i64 1) ∧ w' = w := by
  go_enter Tryz.func199, Tryz.ntmps199
  go_wp2_with fail
  go_ret
  exact ⟨by kernel_rfl, rfl⟩
set_option maxRecDepth 100000 in
theorem l64_2 (w : World) : Calls Tryz.prog 199 #[.int .u64 2] w fun e w' => e = .returned (.int .i64 2) ∧ w' = w := by
  go_enter Tryz.func199, Tryz.ntmps199
  go_wp2_with fail
  go_ret
  exact ⟨by kernel_rfl, rfl⟩
set_option maxRecDepth 100000 in
theorem l64_3 (w : World) : Calls Tryz.prog 199 #[.int .u64 3] w fun e w' => e = .returned (.int .i64 2) ∧ w' = w := by
  go_enter Tryz.func199, Tryz.ntmps199
  go_wp2_with fail
  go_ret
  exact ⟨by kernel_rfl, rfl⟩
set_option maxRecDepth 100000 in
theorem l64_4 (w : World) : Calls Tryz.prog 199 #[.int .u64 4] w fun e w' => e = .returned (.int .i64 3) ∧ w' = w := by
  go_enter Tryz.func199, Tryz.ntmps199
  go_wp2_with fail
  go_ret
  exact ⟨by kernel_rfl, rfl⟩
set_option maxRecDepth 100000 in
theorem l64_5 (w : World) : Calls Tryz.prog 199 #[.int .u64 5] w fun e w' => e = .returned (.int .i64 3) ∧ w' = w := by
  go_enter Tryz.func199, Tryz.ntmps199
  go_wp2_with fail
  go_ret
  exact ⟨by kernel_rfl, rfl⟩
set_option maxRecDepth 100000 in
theorem l64_6 (w : World) : Calls Tryz.prog 199 #[.int .u64 6] w fun e w' => e = .returned (.int .i64 3) ∧ w' = w := by
  go_enter Tryz.func199, Tryz.ntmps199
  go_wp2_with fail
  go_ret
  exact ⟨by kernel_rfl, rfl⟩
set_option maxRecDepth 100000 in
theorem l64_7 (w : World) : Calls Tryz.prog 199 #[.int .u64 7] w fun e w' => e = .returned (.int .i64 3) ∧ w' = w := by
  go_enter Tryz.func199, Tryz.ntmps199
  go_wp2_with fail
  go_ret
  exact ⟨by kernel_rfl, rfl⟩
set_option maxRecDepth 100000 in
theorem l64_8 (w : World) : Calls Tryz.prog 199 #[.int .u64 8] w fun e w' => e = .returned (.int .i64 4) ∧ w' = w := by
  go_enter Tryz.func199, Tryz.ntmps199
  go_wp2_with fail
  go_ret
  exact ⟨by kernel_rfl, rfl⟩
set_option maxRecDepth 100000 in
theorem l64_9 (w : World) : Calls Tryz.prog 199 #[.int .u64 9] w fun e w' => e = .returned (.int .i64 4) ∧ w' = w := by
  go_enter Tryz.func199, Tryz.ntmps199
  go_wp2_with fail
  go_ret
  exact ⟨by kernel_rfl, rfl⟩
set_option maxRecDepth 100000 in
theorem l64_10 (w : World) : Calls Tryz.prog 199 #[.int .u64 10] w fun e w' => e = .returned (.int .i64 4) ∧ w' = w := by
  go_enter Tryz.func199, Tryz.ntmps199
  go_wp2_with fail
  go_ret
  exact ⟨by kernel_rfl, rfl⟩
set_option maxRecDepth 100000 in
theorem l64_11 (w : World) : Calls Tryz.prog 199 #[.int .u64 11] w fun e w' => e = .returned (.int .i64 4) ∧ w' = w := by
  go_enter Tryz.func199, Tryz.ntmps199
  go_wp2_with fail
  go_ret
  exact ⟨by kernel_rfl, rfl⟩
set_option maxRecDepth 100000 in
theorem l64_12 (w : World) : Calls Tryz.prog 199 #[.int .u64 12] w fun e w' => e = .returned (.int .i64 4) ∧ w' = w := by
  go_enter Tryz.func199, Tryz.ntmps199
  go_wp2_with fail
  go_ret
  exact ⟨by kernel_rfl, rfl⟩
theorem blen32 (n k : Int) (h : ∀ w, Calls Tryz.prog 199 #[.int .u64 n] w fun e w' => e = .returned (.int .i64 k) ∧ w' = w) (_hn : 0 ≤ n ∧ n < 100) (w : World) :
    Calls Tryz.prog 171 #[.int .u64 n] w fun e w' => e = .returned (.int .i64 k) ∧ w' = w := by
  go_enter Tryz.func171, Tryz.ntmps171
  go_wp2_with fail
  refine (h _).mono ?_
  rintro e w1 ⟨rfl, rfl⟩
  go_wp2_with fail
  go_ret
  exact ⟨rfl, rfl⟩
theorem blen12 : ∀ n : Nat, n ≤ 12 → ∃ k : Int, ∀ w, Calls Tryz.prog 171 #[.int .u64 (n : Int)] w fun e w' => e = .returned (.int .i64 k) ∧ w' = w
  | 0, _ => ⟨_, fun w => blen32 0 _ l64_0 (by decide) w⟩
  | 1, _ => ⟨_, fun w => blen32 1 _ l64_1 (by decide) w⟩
  | 2, _ => ⟨_, fun w => blen32 2 _ l64_2 (by decide) w⟩
  | 3, _ => ⟨_, fun w => blen32 3 _ l64_3 (by decide) w⟩
  | 4, _ => ⟨_, fun w => blen32 4 _ l64_4 (by decide) w⟩
  | 5, _ => ⟨_, fun w => blen32 5 _ l64_5 (by decide) w⟩
  | 6, _ => ⟨_, fun w => blen32 6 _ l64_6 (by decide) w⟩
  | 7, _ => ⟨_, fun w => blen32 7 _ l64_7 (by decide) w⟩
  | 8, _ => ⟨_, fun w => blen32 8 _ l64_8 (by decide) w⟩
  | 9, _ => ⟨_, fun w => blen32 9 _ l64_9 (by decide) w⟩
  | 10, _ => ⟨_, fun w => blen32 10 _ l64_10 (by decide) w⟩
  | 11, _ => ⟨_, fun w => blen32 11 _ l64_11 (by decide) w⟩
  | 12, _ => ⟨_, fun w => blen32 12 _ l64_12 (by decide) w⟩
  | n + 13, h => by omega
end Go.Proofs.YtmohbkniekeafaaGreatDoor





namespace Go.Proofs.YtmohbkniekeafaaGreatDoor
open Go.RowKit

set_option linter.unusedSimpArgs false
section
variable {P : Program} (w : World)
theorem run_append_wide13 (base : Nat) (t ty e : TypeId) (z : Value) (size bytes : Nat) (ht : P.underlying t = some (.slice e)) (hi : (P.info? e).map (fun i => (i.zero, i.size, i.bytes)) = some (some z, size, bytes))
    (hzs : z.cells.size = size) (hsz : 0 < size) (v : Value) (n : Nat) (xs : List Value) (hown : w.ownsRow base e size v n xs)
    (B : Nat) (A : Option Addr) (m c : Nat) (news : List Value) (hm : news.length = m * size) (hl : Lies w B A news) (h1 : ∀ u ∈ news, u.oneCell' = true)
    (hbytes : (n + m) * bytes ≤ 140737488355328) (h63 : n + m ≤ maxLen) (hbase : base ≤ w.heap.size) :
    ∃ v' w', (Builtin.append_ #[t, t] ty #[v, .slice A m c]).run P w = .ok v' w' ∧ w'.ownsRow base e size v' (n + m) (xs ++ news) ∧ w.grownBy w' v.ownBlock := by
  obtain ⟨i, hi0, hi1, hi2, hi3⟩ := info_parts hi
  by_cases hm0 : m = 0
  · subst hm0
    have hn : news = [] := List.eq_nil_of_length_eq_zero (by simpa using hm)
    subst hn
    rcases A with _ | ad
    · refine ⟨v, w, ?_, by simpa using hown, World.grownBy.refl w _⟩
      rcases hown.2 with ⟨rfl, rfl⟩ | ⟨g, cap, cur, rfl, _, _, hnc, _⟩
      · simp [Builtin.append_, run_underlying ht, sizeOf, typeInfo, hi0, Builtin.lenOf, Builtin.firstCells]
      · simp [Builtin.append_, run_underlying ht, sizeOf, typeInfo, hi0, Builtin.lenOf, Builtin.firstCells, hnc, storeCells]
    · obtain ⟨v', w', hr, h2, h3, _⟩ := run_append_own w base t ty e i z size bytes ht hi0 hi1 hi2 hi3 hzs hsz v n xs hown ad 0 c [] (by simp) (fun j u hu => by simp at hu) h1 h63 hbytes hbase
      exact ⟨v', w', hr, h2, h3⟩
  · have hne : news ≠ [] := fun e => by
      subst e
      have : 0 < m * size := Nat.mul_pos (by omega) hsz
      simp at hm
      omega
    obtain ⟨ad, rfl, _, hc⟩ := hl hne
    obtain ⟨v', w', hr, h2, h3, _⟩ := run_append_own w base t ty e i z size bytes ht hi0 hi1 hi2 hi3 hzs hsz v n xs hown ad m c news hm hc h1 h63 hbytes hbase
    exact ⟨v', w', hr, h2, h3⟩
theorem wpList_append_wide13 {ops : Array Oper} {rest : List Oper} {o : Oper} {a : Act} {Q : Exit → Act → World → Prop} (hgd : o.guard = none) (s x : Operand) (t : TypeId)
    (ho : o.op = .call { callee := .builtin .append, args := #[s, x], argTypes := #[t, t] })
    (base : Nat) (e : TypeId) (z : Value) (size bytes : Nat) (ht : P.underlying t = some (.slice e)) (hi : (P.info? e).map (fun i => (i.zero, i.size, i.bytes)) = some (some z, size, bytes))
    (hzs : z.cells.size = size) (hsz : 0 < size) (v : Value) (n : Nat) (xs : List Value) (hs : a.eval s = v) (hown : w.ownsRow base e size v n xs)
    (B : Nat) (A : Option Addr) (m c : Nat) (news : List Value) (hx : a.eval x = .slice A m c) (hm : news.length = m * size) (hl : Lies w B A news) (h1 : ∀ u ∈ news, u.oneCell' = true)
    (hbytes : (n + m) * bytes ≤ 140737488355328) (h63 : n + m ≤ maxLen) (hbase : base ≤ w.heap.size)
    (h : ∀ v' w', w'.ownsRow base e size v' (n + m) (xs ++ news) → w.grownBy w' v.ownBlock → wpList P ops Q rest (a.put o.dst v') w') : wpList P ops Q (o :: rest) a w :=
  wpList_plain hgd fun K hK => by
    obtain ⟨v', w', hr, h2, h3⟩ := run_append_wide13 (P := P) w base t o.type e z size bytes ht hi hzs hsz v n xs hown B A m c news hm hl h1 hbytes h63 hbase
    unfold Oper.wp execOp
    simp only [ho, resolve, invoke, builtin, Sem.run_bind, Sem.run_pure, Result.andThen_ok, List.map_toArray, List.map_cons, List.map_nil, hs, hx, hr]
    exact hK _ _ (h v' w' h2 h3)
end
end Go.Proofs.YtmohbkniekeafaaGreatDoor


