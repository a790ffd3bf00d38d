/- Layer 6, the reference: Split, for whatever bytes, with its offsets. It writes nothing that was there. -/
import Derived.Test.YteknmgmdmjmnmaaGreatDoorUTC
import Derived.Test.YteknmgmdmjmnmaaGreatDoorUTA
import Derived.Test.YteknmgmdmjmnmaaGreatDoorURefNS
import Derived.Deep.RegionLaw
import Derived.Deep.AppendLies






namespace Go.Proofs.YteknmgmdmjmnmaaGreatDoor
open Go.RowKit

theorem whole_row_ne {W : World} {g : Nat} {t e : TypeId} {cs : Array Value} (h : Whole W g t cs) (hte : t ≠ e) {base size n : Nat} {v : Value} {xs : List Value} (hr : W.ownsRow base e size v n xs) : v.ownBlock ≠ some g := by
  rcases hr.2 with ⟨rfl, _⟩ | ⟨q, cap, cur, rfl, _, hq, _⟩
  · simp [Value.ownBlock]
  · intro he
    simp only [Value.ownBlock, Option.some.injEq] at he
    subst he
    unfold Whole at h
    rw [h] at hq
    simp only [Option.some.injEq, Obj.cells.injEq] at hq
    exact hte hq.2.1
/-- the cells of the frames that have come: their values lie in the bytes, below B -/
def Each (w : World) (B : Nat) (pre : List (Nat × Fr)) (us : List Value) : Prop := ∀ (i : Nat) (p : Nat × Fr), pre[i]? = some p → ∃ v, us[i * 2]? = some (hv p.2.t) ∧ us[i * 2 + 1]? = some v ∧ IsB w B v p.2.v ∧ ∃ ad n c, v = .slice (some ad) n c
theorem Each.snoc {w : World} {B : Nat} {pre : List (Nat × Fr)} {us : List Value} (h : Each w B pre us) (hl : us.length = pre.length * 2) (p : Nat × Fr) {v : Value} (hv' : IsB w B v p.2.v ∧ ∃ ad n c, v = .slice (some ad) n c) : Each w B (pre ++ [p]) (us ++ [hv p.2.t, v]) := by
  intro i q hq
  rcases Nat.lt_or_ge i pre.length with hi | hi
  · rw [List.getElem?_append_left hi] at hq
    obtain ⟨u, h1, h2, h3⟩ := h i q hq
    exact ⟨u, by rw [List.getElem?_append_left (by omega)]; exact h1, by rw [List.getElem?_append_left (by omega)]; exact h2, h3⟩
  · rw [List.getElem?_append_right hi] at hq
    have h0 : i - pre.length = 0 := by
      have := (List.getElem?_eq_some_iff.1 hq).1
      simp at this
      omega
    rw [h0] at hq
    simp only [List.getElem?_cons_zero, Option.some.injEq] at hq
    subst hq
    have e : i = pre.length := by omega
    subst e
    exact ⟨v, by rw [List.getElem?_append_right (by omega), hl, Nat.sub_self]; rfl, by rw [List.getElem?_append_right (by omega), hl, show pre.length * 2 + 1 - pre.length * 2 = 1 by omega]; rfl, hv'⟩
theorem IsB.bel {w W : World} {B : Nat} {v : Value} {l : List UInt8} (h : IsB w B v l) (hb : Below B w W) : IsB W B v l := by
  obtain ⟨A', c', h2, h3, h4⟩ := h
  exact ⟨A', c', h2, h3.below hb, h4⟩
theorem Each.bel {w W : World} {B : Nat} {pre : List (Nat × Fr)} {us : List Value} (h : Each w B pre us) (hb : Below B w W) : Each W B pre us := fun i p hp => by
  obtain ⟨v, h1, h2, h3⟩ := h i p hp
  exact ⟨v, h1, h2, h3.1.bel hb, h3.2⟩
theorem grownBy_setCell1 (W : World) (b o : Nat) (v : Value) : W.grownBy (W.setCell ⟨b, o, none⟩ v) (some b) :=
  ⟨rfl, rfl, rfl, (KeepsWalks.setCell W _ v).size, fun k _ hk => Below.heap_setCell _ _ _ k (fun e => hk (by rw [e]))⟩
end Go.Proofs.YteknmgmdmjmnmaaGreatDoor


