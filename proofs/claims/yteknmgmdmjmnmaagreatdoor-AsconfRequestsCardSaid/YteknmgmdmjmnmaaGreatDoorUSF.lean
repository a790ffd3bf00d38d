/- Layer 14: the keys of an own set of offsets, as an iterator (maps.Keys): each once, in some order. -/
/- Layer 14: slices.AppendSeq and Collect of the keys of an own set. -/
import Derived.Test.YteknmgmdmjmnmaaGreatDoorUSackE
import Derived.Test.YteknmgmdmjmnmaaGreatDoorUEL
import Derived.Sort.MapsRangeIn
import Derived.RangeFuncGives
import Derived.WalkMore
import Derived.Deep.RegionHeld3
import Derived.Test.YteknmgmdmjmnmaaGreatDoorUNW
import Derived.RangeFuncBox






namespace Go.Proofs.YteknmgmdmjmnmaaGreatDoor
open Go.RowKit Go.Maps Go.Shelf

set_option linter.unusedSimpArgs false
theorem setD_has (acc : List UInt32) (x : UInt32) : has (setD acc) (k32 x) = decide (x ∈ acc) := by
  unfold setD
  rw [has_setOf _ _ _ (fun y hy => by obtain ⟨z, _, rfl⟩ := List.mem_map.1 hy; exact k32_lit z)]
  rw [List.any_map, Bool.eq_iff_iff, List.any_eq_true, decide_eq_true_eq]
  constructor
  · rintro ⟨y, hy, e⟩
    have : k32 y = k32 x := WideAt.sameKey_eq e
    rw [← k32_inj this]; exact hy
  · intro h
    exact ⟨x, h, WideAt.sameKey_self (k32_lit x)⟩
/-- what has come of the keys -/
def InvK (acc : List UInt32) (left : Lit → Bool) (ss : List UInt32) : Prop := ss.Nodup ∧ ∀ x, x ∈ ss ↔ (x ∈ acc ∧ left (k32 x) = false)
theorem InvK.step {acc ss : List UInt32} {left : Lit → Bool} (h : InvK acc left ss) {x : UInt32} {y : DataW Unit} (hlk : left (k32 x) = true) (hat : ∀ zd, (setD acc).atKey (k32 x) zd = y) :
    InvK acc (fun z => left z && !z.sameKey (k32 x)) (ss ++ [x]) := by
  have hhas : x ∈ acc := by have := has_true_of_atKey hat; rw [setD_has] at this; simpa using this
  have hnew : x ∉ ss := fun hx => by have := ((h.2 x).1 hx).2; rw [hlk] at this; cases this
  refine ⟨List.nodup_append.2 ⟨h.1, by simp, fun a ha b hb => by simp at hb; subst hb; exact fun e => hnew (e ▸ ha)⟩, fun y => ?_⟩
  by_cases hy : y = x
  · subst hy; simp [hhas, WideAt.sameKey_self (k32_lit y)]
  · have hs : (k32 y).sameKey (k32 x) = false := by
      cases hc : (k32 y).sameKey (k32 x) with
      | false => rfl
      | true => exact absurd (k32_inj (WideAt.sameKey_eq hc)) hy
    simp only [List.mem_append, List.mem_singleton, hy, or_false, hs, Bool.not_false, Bool.and_true]
    exact h.2 y
theorem nodup_len : ∀ {ss acc : List UInt32}, ss.Nodup → (∀ x ∈ ss, x ∈ acc) → ss.length ≤ acc.length
  | [], _, _, _ => Nat.zero_le _
  | x :: ss, acc, hn, h => by
    have hx := h x (List.mem_cons_self ..)
    have h2 := List.nodup_cons.1 hn
    have := nodup_len (acc := acc.erase x) h2.2 (fun y hy => (List.mem_erase_of_ne (fun (e : y = x) => h2.1 (by rw [← e]; exact hy))).2 (h y (List.mem_cons_of_mem _ hy)))
    have hl := List.length_erase_of_mem hx
    have hp : 0 < acc.length := List.length_pos_of_mem hx
    simp only [List.length_cons]
    omega
theorem InvK.lt {acc ss : List UInt32} {left : Lit → Bool} (h : InvK acc left ss) {x : UInt32} {y : DataW Unit} (hlk : left (k32 x) = true) (hat : ∀ zd, (setD acc).atKey (k32 x) zd = y) : ss.length < acc.length := by
  have h2 := h.step hlk hat
  have := nodup_len h2.1 (fun z hz => ((h2.2 z).1 hz).1)
  simp at this
  omega
end Go.Proofs.YteknmgmdmjmnmaaGreatDoor





namespace Go.Proofs.YteknmgmdmjmnmaaGreatDoor
open Go.RowKit Go.Maps Go.Shelf

attribute [local go_sem] Oper.semAt_some
set_option linter.unusedSimpArgs false
/-- what has come lies in a row of the call's own, its slice in the box Bs -/
def ApI (w : World) (Bs : Nat) (ss : List UInt32) (W : World) : Prop := (∃ v, Boxed W Bs 23 v ∧ W.ownsRow Bs 22 1 v ss.length (ss.map uv)) ∧ Below Bs w W ∧ Bs + 1 ≤ W.heap.size
theorem ApI.own (w : World) (Bs B : Nat) (hB : Bs < B) : OwnFrom B (ApI w Bs) := by
  rintro s X Y row ⟨⟨v, h1, h2⟩, h3, h4⟩ hg hr
  have hne : ∀ (i : Nat) (cs : Array Value) (t : TypeId) (z : Nat × Nat), X.heap[i]? = some (.cells cs t z) → some i ≠ row := by
    intro i cs t z hi e
    obtain ⟨_, o, ho, hoc⟩ := hr i e.symm
    rw [hi] at ho
    cases ho
    cases hoc
  refine ⟨⟨v, h1.kept hg (hne _ _ _ _ h1), h2.kept hg ?_⟩, h3.grown hg (by omega) (fun k e => by have := (hr k e).1; omega), Nat.le_trans h4 hg.size⟩
  rcases h2.2 with ⟨rfl, _⟩ | ⟨g, cap, cur, rfl, _, hh, _⟩
  · exact .inl rfl
  · exact .inr (hne g _ _ _ hh)
end Go.Proofs.YteknmgmdmjmnmaaGreatDoor


