/- Layer 14: the closure of gapsAfter (fold). -/
/- Layer 14: Build, of at most 12 numbers. -/
/- Layer 14: a right sack and its description (mathematics; no program). -/
/- Layer 14: slices.Chunk of numbers for whatever loop; Of. It writes nothing that was there. -/
/- Layer 14: the reference's Of. It writes nothing that was there. -/
import Derived.Test.YtmohbkniekeafaaGreatDoorTSKG
import Derived.BigGuard
import Derived.Test.YtmohbkniekeafaaGreatDoorTSKP
import Derived.Test.YtmohbkniekeafaaGreatDoorTW
import Derived.Test.YtmohbkniekeafaaGreatDoorTDJ
import Derived.Test.YtmohbkniekeafaaGreatDoorTXA
import Derived.Test.YtmohbkniekeafaaGreatDoorTTC
import Derived.Test.YtmohbkniekeafaaGreatDoorTNW
import Derived.Test.YtmohbkniekeafaaGreatDoorTEL
import Derived.WalkMore
import Derived.Deep.RegionHeld3
import Derived.Test.YtmohbkniekeafaaGreatDoorTSKA
import Derived.Test.YtmohbkniekeafaaGreatDoorTIN
import Derived.Test.YtmohbkniekeafaaGreatDoorTWireF
import Derived.Test.YtmohbkniekeafaaGreatDoorTNF
import Derived.Laws.StructEq
import Derived.Deep.Cut
import Derived.Test.YtmohbkniekeafaaGreatDoorTDK
import Derived.Test.YtmohbkniekeafaaGreatDoorTDP
import Derived.Test.YtmohbkniekeafaaGreatDoorTCL
import Derived.Sort.CutIn
import Derived.Test.YtmohbkniekeafaaGreatDoorTDT


namespace Go.Proofs.YtmohbkniekeafaaGreatDoor
open Go.RowKit

set_option linter.unusedSimpArgs false
theorem row_ne2 {w : World} {base base' s s' n n' t e : Nat} {v v' : Value} {xs xs' : List Value} (hte : t ≠ e) (h : w.ownsRow base t s v n xs) (h' : w.ownsRow base' e s' v' n' xs') : v.ownBlock = none ∨ v.ownBlock ≠ v'.ownBlock := by
  rcases h.2 with ⟨rfl, _⟩ | ⟨g, cap, cur, rfl, _, hg, _⟩
  · exact .inl rfl
  · refine .inr fun e' => ?_
    rcases h'.2 with ⟨rfl, _⟩ | ⟨g', cap', cur', rfl, _, hg', _⟩
    · simp [Value.ownBlock] at e'
    · simp only [Value.ownBlock, Option.some.injEq] at e'
      subst e'
      rw [hg] at hg'
      exact hte (Obj.cells.inj (Option.some.inj hg')).2.1
/-- rows of numbers stay -/
def Rows32 (w w' : World) : Prop := ∀ (base n : Nat) (v : Value) (xs : List Value), w.ownsRow base 22 1 v n xs → w'.ownsRow base 22 1 v n xs
theorem Rows32.trans {a b c : World} (h : Rows32 a b) (k : Rows32 b c) : Rows32 a c := fun base n v xs hr => k base n v xs (h base n v xs hr)
theorem own_slice2 {w : World} {base s n : Nat} {t : TypeId} {v : Value} {xs : List Value} (h : w.ownsRow base t s v n xs) : ∃ A c, v = .slice A n c := by
  rcases h.2 with ⟨rfl, rfl⟩ | ⟨g, cap, cur, rfl, _⟩
  · exact ⟨none, 0, rfl⟩
  · exact ⟨_, _, rfl⟩
end Go.Proofs.YtmohbkniekeafaaGreatDoor



namespace Go.Proofs.YtmohbkniekeafaaGreatDoor
open Go.RowKit Go.Maps

set_option linter.unusedSimpArgs false
theorem own_capG {w : World} {base e s n c : Nat} {A : Option Addr} {xs : List Value} (h : w.ownsRow base e s (.slice A n c) n xs) : n ≤ c ∧ c ≤ maxLen := by
  rcases h.2 with ⟨e, _⟩ | ⟨g, cap, cur, e, _, _, h1, h2, _⟩
  · cases e
    exact ⟨Nat.le_refl _, Nat.zero_le _⟩
  · cases e
    exact ⟨h1, h2⟩
end Go.Proofs.YtmohbkniekeafaaGreatDoor






namespace Go.Proofs.YtmohbkniekeafaaGreatDoor
open Go.RowKit

theorem msk0 : ∀ n : Nat, n < 256 → mskB n 0 = false → n = 0 := by decide +kernel
theorem nums2_lt (b : List UInt8) : ∀ x ∈ nums 2 b, x.toNat < 65536 := by
  intro x hx
  unfold nums at hx
  obtain ⟨j, hj, rfl⟩ := List.mem_map.1 hx
  rw [List.mem_range] at hj
  rw [numAt_toNat]
  refine numOf2_lt _ ?_
  rw [List.length_take, List.length_drop]
  have : j * 2 + 2 ≤ b.length := by omega
  omega
end Go.Proofs.YtmohbkniekeafaaGreatDoor
















namespace Go.Proofs.YtmohbkniekeafaaGreatDoor
open Go.RowKit Go.Shelf

attribute [local go_sem] Oper.semAt_some
set_option linter.unusedSimpArgs false
/-- two blocks stay as they are -/
structure KpC (Bs Bn : Nat) (A B : World) : Prop where
  low : Below 0 A B
  s : B.heap[Bs]? = A.heap[Bs]?
  n : B.heap[Bn]? = A.heap[Bn]?
theorem KpC.trans {Bs Bn : Nat} {A B C : World} (h : KpC Bs Bn A B) (k : KpC Bs Bn B C) : KpC Bs Bn A C := ⟨h.low.trans k.low, k.s.trans h.s, k.n.trans h.n⟩
theorem KpC.put {Bs Bn : Nat} (W : World) (l : Nat) (o' : Obj) (h1 : Bs ≠ l) (h2 : Bn ≠ l) : KpC Bs Bn W (W.putObj l o') :=
  ⟨(Below.refl 0 W).grown (grownBy_putObj' W l o') (Nat.zero_le _) (fun _ _ => Nat.zero_le _), World.putObj_heap_other h1, World.putObj_heap_other h2⟩
theorem KpC.kpg {Bs Bn : Nat} {A B : World} (h : KpC Bs Bn A B) : KpG (fun _ i => i ≠ Bs ∧ i ≠ Bn) 0 A B :=
  ⟨h.low, fun i cs t z hn hi => by
    by_cases h1 : i = Bs
    · subst h1; exact h.s.trans hi
    · by_cases h2 : i = Bn
      · subst h2; exact h.n.trans hi
      · exact absurd ⟨h1, h2⟩ hn, fun _ _ h => h⟩
theorem num_len (k : Nat) (hk : widthB k = true) (A : Option Addr) (c : Nat) (b : List UInt8) (m q : Nat) (hm : b.length = m) (hq : m = q * k) (hs : m ≤ 35184372088832) (hc : m ≤ c) (w : World) (h : Lies w w.heap.size A (b.map bv)) :
    Calls Tryz.prog 74 #[.int .i64 (k : Int), .slice A m c] w fun e w' => ∃ A' c', e = .returned (.slice A' q c') ∧ w'.ownsRow w.heap.size 22 1 (.slice A' q c') q ((nums k b).map uv) ∧ Below w.heap.size w w' := by
  subst hm
  have hk0 : 0 < k := by
    rcases Nat.eq_zero_or_pos k with rfl | h
    · simp [widthB] at hk
    · exact h
  have h1 := numbersF_any k hk A c b w h (by rw [hq]; exact Nat.mul_mod_left _ _) hs hc
  have e : b.length / k = q := by rw [hq]; exact Nat.mul_div_cancel _ hk0
  rw [e] at h1
  exact h1
theorem own_obj {X Y : World} {row : Option Nat} {b e s n : Nat} {v : Value} {xs : List Value} (h : X.ownsRow b e s v n xs) (hg : X.grownBy Y row) (hr : ∀ r, row = some r → ∃ o : Obj, X.heap[r]? = some o ∧ o.isCells = false) : Y.ownsRow b e s v n xs := by
  refine h.kept hg ?_
  rcases h.2 with ⟨rfl, _⟩ | ⟨g, cap, cur, rfl, _, hh, _⟩
  · exact .inl rfl
  · refine .inr (fun e => ?_)
    obtain ⟨o, ho, hoc⟩ := hr g e.symm
    rw [hh] at ho
    cases ho
    cases hoc
theorem wp_append_wide14 {P : Program} {w : World} {o : Oper} {a : Act} {K : Act → World → Prop} {Q : Exit → Act → World → Prop} (s x : Operand) (t : TypeId)
    (ho : o.op = .call { callee := .builtin .append, args := #[s, x], argTypes := #[t, t] })
    (base : Nat) (e : TypeId) (z : Value) (size bytes : Nat) (ht : P.underlying t = some (.slice e)) (hi : (P.info? e).map (fun i => (i.zero, i.size, i.bytes)) = some (some z, size, bytes))
    (hzs : z.cells.size = size) (hsz : 0 < size) (v : Value) (n : Nat) (xs : List Value) (hs : a.eval s = v) (hown : w.ownsRow base e size v n xs)
    (B : Nat) (A : Option Addr) (m c : Nat) (news : List Value) (hx : a.eval x = .slice A m c) (hm : news.length = m * size) (hl : Lies w B A news) (h1 : ∀ u ∈ news, u.oneCell' = true)
    (hbytes : (n + m) * bytes ≤ 140737488355328) (h63 : n + m ≤ maxLen) (hbase : base ≤ w.heap.size)
    (h : ∀ v' w', w'.ownsRow base e size v' (n + m) (xs ++ news) → w.grownBy w' v.ownBlock → K (a.put o.dst v') w') : o.wp P a w K Q := by
  obtain ⟨v', w', hr, h2, h3⟩ := run_append_wide13 (P := P) w base t o.type e z size bytes ht hi hzs hsz v n xs hown B A m c news hm hl h1 hbytes h63 hbase
  unfold Oper.wp execOp
  simp only [ho, resolve, invoke, builtin, Sem.run_bind, Sem.run_pure, Result.andThen_ok, List.map_toArray, List.map_cons, List.map_nil, hs, hx, hr]
  exact h v' w' h2 h3
theorem whole_obj {X Y : World} {row : Option Nat} {g t : Nat} {cs : Array Value} (h : Whole X g t cs) (hg : X.grownBy Y row) (hr : ∀ r, row = some r → ∃ o : Obj, X.heap[r]? = some o ∧ o.isCells = false) : Whole Y g t cs :=
  h.grown hg (fun e => by
    obtain ⟨o, ho, hoc⟩ := hr g e.symm
    unfold Whole at h
    rw [h] at ho
    cases ho
    cases hoc)
theorem own_cells2 {w : World} {base n c : Nat} {A : Option Addr} {t : TypeId} {xs : List Value} (h : w.ownsRow base t 1 (.slice A n c) n xs) (h0 : 0 < n) : ∃ g, A = some ⟨g, 0, none⟩ ∧ g < w.heap.size ∧ base ≤ g ∧ ∀ j x, xs[j]? = some x → w.cell? ⟨g, j, none⟩ = some x := by
  rcases h.2 with ⟨_, q⟩ | ⟨g, cap, cur, q1, q2, q3, _⟩
  · omega
  · simp only [Value.slice.injEq] at q1
    obtain ⟨rfl, _, rfl⟩ := q1
    refine ⟨g, rfl, (Array.getElem?_eq_some_iff.1 q3).1, q2, fun j x hx => ?_⟩
    have := h.cells (g := g) rfl j x hx
    cases j with
    | zero => simpa [Addr.add] using this
    | succ j => simpa [Addr.add] using this
end Go.Proofs.YtmohbkniekeafaaGreatDoor







namespace Go.Proofs.YtmohbkniekeafaaGreatDoor
open Go.RowKit

set_option linter.unusedSimpArgs false
theorem rnum_len (k : Nat) (hk : widthB k = true) (A : Option Addr) (c : Nat) (b : List UInt8) (m q : Nat) (hm : b.length = m) (hq : m = q * k) (hs : m ≤ 35184372088832) (w : World) (h : Lies w w.heap.size A (b.map bv)) :
    Calls Tryz.prog 95 #[.int .i64 (k : Int), .slice A m c] w fun e w' => ∃ A' c', e = .returned (.slice A' q c') ∧ w'.ownsRow w.heap.size 22 1 (.slice A' q c') q ((nums k b).map uv) ∧ Below w.heap.size w w' := by
  subst hm
  have hk0 : 0 < k := by
    rcases Nat.eq_zero_or_pos k with rfl | h
    · simp [widthB] at hk
    · exact h
  have h1 := rnumbers_any k hk A c b w h (by rw [hq]; exact Nat.mul_mod_left _ _) hs
  have e : b.length / k = q := by rw [hq]; exact Nat.mul_div_cancel _ hk0
  rw [e] at h1
  exact h1
theorem own_belowR {w w' : World} {base e s n : Nat} {v : Value} {xs : List Value} (h : w.ownsRow base e s v n xs) (hb : Below w.heap.size w w') : w'.ownsRow base e s v n xs := by
  refine ⟨h.1, ?_⟩
  rcases h.2 with hn | ⟨g, cap, cur, rfl, hb', hgg, rest⟩
  · exact .inl hn
  · exact .inr ⟨g, cap, cur, rfl, hb', (hb.block g (Array.getElem?_eq_some_iff.1 hgg).1).trans hgg, rest⟩
theorem nums_at {b : List UInt8} {k j : Nat} (h : j < b.length / k) : (nums k b)[j]? = some (numAt k b j) := by
  unfold nums
  rw [List.getElem?_map, List.getElem?_range h]
  rfl
end Go.Proofs.YtmohbkniekeafaaGreatDoor


