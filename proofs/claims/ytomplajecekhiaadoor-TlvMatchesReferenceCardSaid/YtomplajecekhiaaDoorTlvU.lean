/- Layer 6, the reference: Split, for whatever bytes. It writes nothing that was there. -/
import Derived.Test.YtomplajecekhiaaDoorTlvR
import Derived.Test.YtomplajecekhiaaDoorRNumber
import Derived.Deep.RegionLaw
import Derived.Deep.AppendLies
namespace Go.Proofs.YtomplajecekhiaaDoor
open Go.RowKit

theorem gap_four {k n : Nat} (h : k % 4 = 0) : gap (k + n) = gap n := by unfold gap; omega
theorem nx_iff {b : List UInt8} {e : Nat} : Go.Proofs.YtomplajecekhiaaDoor.nx b e = if up e < b.length ∧ zeroB ((b.drop e).take (gap e)) = true then some (up e) else .none := by
  unfold Go.Proofs.YtomplajecekhiaaDoor.nx Good
  by_cases h : up e < b.length ∧ zeroB ((b.drop e).take (gap e)) = true
  · rw [if_pos h, if_pos]
    exact ⟨⟨by omega, by rw [Int.toNat_natCast]; omega, by rw [Int.toNat_natCast]; exact h.2⟩, by omega⟩
  · rw [if_neg h, if_neg]
    rintro ⟨⟨_, h1, h2⟩, h3⟩
    rw [Int.toNat_natCast] at h1 h2
    exact h ⟨by omega, h2⟩
theorem whole_row_ne {W : World} {g : Nat} {t e : TypeId} {cs : Array Value} (h : Whole W g t cs) (hte : t ≠ e) {base size n : Nat} {v : Value} {xs : List Value} (hr : W.ownsRow base e size v n xs) : v.ownBlock ≠ some g := by
  rcases hr.2 with ⟨rfl, _⟩ | ⟨q, cap, cur, rfl, _, hq, _⟩
  · simp [Value.ownBlock]
  · intro he
    simp only [Value.ownBlock, Option.some.injEq] at he
    subst he
    unfold Whole at h
    rw [h] at hq
    simp only [Option.some.injEq, Obj.cells.injEq] at hq
    exact hte hq.2.1
/-- how the reference's Split ends -/
def RGives (w : World) (o : Out) (e : Ending) (w' : World) : Prop := Below w.heap.size w w' ∧
  match o with
  | .ok fs => ∃ A1 c1 A2 n2 c2 us, e = .returned (.agg #[.slice A1 fs.length c1, .slice A2 n2 c2, .int .i64 0, .int .i64 0]) ∧ Frames w' w'.heap.size A1 us fs
  | .bad code k => ∃ A1 n1 c1 A2 n2 c2, e = .returned (.agg #[.slice A1 n1 c1, .slice A2 n2 c2, .int .i64 (code : Int), .int .i64 (k : Int)])
/-- the cells of the frames that have come: their values lie in the bytes -/
def Each (w : World) (pre : List (Nat × Fr)) (us : List Value) : Prop := ∀ (i : Nat) (p : Nat × Fr), pre[i]? = some p → ∃ v, us[i * 2]? = some (hv p.2.t) ∧ us[i * 2 + 1]? = some v ∧ IsB w w.heap.size v p.2.v
theorem Each.snoc {w : World} {pre : List (Nat × Fr)} {us : List Value} (h : Each w pre us) (hl : us.length = pre.length * 2) (p : Nat × Fr) {v : Value} (hv' : IsB w w.heap.size v p.2.v) : Each w (pre ++ [p]) (us ++ [hv p.2.t, v]) := by
  intro i q hq
  rcases Nat.lt_or_ge i pre.length with hi | hi
  · rw [List.getElem?_append_left hi] at hq
    obtain ⟨u, h1, h2, h3⟩ := h i q hq
    exact ⟨u, by rw [List.getElem?_append_left (by omega)]; exact h1, by rw [List.getElem?_append_left (by omega)]; exact h2, h3⟩
  · rw [List.getElem?_append_right hi] at hq
    have h0 : i - pre.length = 0 := by
      have := (List.getElem?_eq_some_iff.1 hq).1
      simp at this
      omega
    rw [h0] at hq
    simp only [List.getElem?_cons_zero, Option.some.injEq] at hq
    subst hq
    have e : i = pre.length := by omega
    subst e
    exact ⟨v, by rw [List.getElem?_append_right (by omega), hl, Nat.sub_self]; rfl, by rw [List.getElem?_append_right (by omega), hl, show pre.length * 2 + 1 - pre.length * 2 = 1 by omega]; rfl, hv'⟩
theorem Each.frames {w W : World} {pre : List (Nat × Fr)} {us : List Value} (h : Each w pre us) (hb : Below w.heap.size w W) {base c : Nat} {A : Option Addr} {e : TypeId} (hown : W.ownsRow base e 2 (.slice A pre.length c) pre.length us) :
    Frames W W.heap.size A us (pre.map Prod.snd) := by
  refine ⟨lies_own2 hown, by rw [hown.1, List.length_map], fun i f hf => ?_⟩
  rw [List.getElem?_map] at hf
  obtain ⟨p, h1, rfl⟩ := Option.map_eq_some_iff.1 hf
  obtain ⟨v, h2, h3, h4⟩ := h i p h1
  exact ⟨v, h2, h3, (h4.below hb).more hb.size⟩
end Go.Proofs.YtomplajecekhiaaDoor
