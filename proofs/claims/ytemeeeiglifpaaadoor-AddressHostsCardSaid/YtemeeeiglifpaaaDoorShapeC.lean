/- Layer 7, package shape: the table of a class, the place of a type in it, Of. They write nothing that was there. -/
import Derived.Test.YtemeeeiglifpaaaDoorShapeA
import Derived.Laws.ResultCell
import Derived.Laws.CopyOwn



namespace Go.Proofs.YtemeeeiglifpaaaDoor
open Go.RowKit

/-- the forms of a class -/
def tab (c : Int) : List Form := if c = 1 then pT else if c = 2 then cT else []
theorem tab_len (c : Int) : (tab c).length ≤ 27 := by
  unfold tab
  split
  · exact Nat.le_refl _
  · split
    · decide
    · exact Nat.zero_le _

/-! ### the place of a type -/
/-- the first form of a type, or none -/
def look (L : List Form) (t : UInt16) : Option Form := L.find? fun f => decide (f.ty = t)
def No (L : List Form) (k : Nat) (t : UInt16) : Prop := ∀ (j : Nat) (f : Form), j < k → L[j]? = some f → f.ty ≠ t
theorem No.zero (L : List Form) (t : UInt16) : No L 0 t := fun j _ h => absurd h (by omega)
theorem No.next {L : List Form} {k : Nat} {t : UInt16} {f : Form} (h : No L k t) (hf : L[k]? = some f) (hn : ¬ f.ty = t) : No L (k + 1) t := fun j g hj hg => by
  by_cases hk : j = k
  · subst hk; rw [hf] at hg; cases hg; exact hn
  · exact h j g (by omega) hg
theorem look_none {L : List Form} {t : UInt16} (h : No L L.length t) : look L t = none := by
  unfold look
  rw [List.find?_eq_none]
  intro f hf
  obtain ⟨j, hj, rfl⟩ := List.getElem_of_mem hf
  simpa using h j _ hj (List.getElem?_eq_getElem hj)
theorem look_some {L : List Form} {t : UInt16} {k : Nat} {f : Form} (h : No L k t) (hf : L[k]? = some f) (ht : f.ty = t) : look L t = some f := by
  unfold look
  rw [List.find?_eq_some_iff_getElem]
  obtain ⟨hk, rfl⟩ := List.getElem?_eq_some_iff.1 hf
  refine ⟨by simpa using ht, k, hk, rfl, fun j hj => ?_⟩
  simpa using h j _ hj (List.getElem?_eq_getElem (by omega))

/-- what the place of a type says -/
def AtPlace (L : List Form) (t : UInt16) (i : Int) : Prop := (∃ (k : Nat) (f : Form), i = k ∧ L[k]? = some f ∧ look L t = some f) ∨ (i = -1 ∧ look L t = none)

/-! ### Of -/
theorem Whole.setRow {w : World} {g : Nat} {t : TypeId} {cs : Array Value} (h : Whole w g t cs) (cs' : Array Value) : Whole (w.setRow g cs') g t cs' := setRow_heap w g cs cs' t (0, 0) h
theorem results_row_tmp {P : Program} {fn : Func} {p u : Tmp} {ty : TypeId} (h : fn.results = #[.cell p ty, .tmp u]) (tmps : Array Value) (w : World) (g : Nat) (t : TypeId) (cs : Array Value) (d : TypeDesc)
    (hp : tmps.getD p undef = .pointer (some ⟨g, 0, none⟩)) (hg : Whole w g t cs)
    (hu : P.underlying ty = some d) (hd : (match d with | .struct _ | .array _ _ => true | _ => false) = true) (hi : (P.info? ty).map (·.size) = some cs.size) :
    (results fn tmps).run P w = .ok (.tuple #[.agg cs, tmps.getD u undef]) w := by
  have hp' : tmps[p]?.getD undef = .pointer (some ⟨g, 0, none⟩) := by simpa using hp
  simp only [results, h]
  simp [Result.andThen, hp', asAddr, run_loadVar_row w g t ty cs (0, 0) d hg hu hd hi]
abbrev zform : Array Value := #[.int .i64 0, .int .u16 0, .string ByteArray.empty, .int .i64 0, .int .i64 0, .int .i64 0, .int .i64 0]
/-- what Of and ByName return -/
def ofV : Option Form → Value
  | some f => .tuple #[f.val, .bool true]
  | none => .tuple #[.agg zform, .bool false]

end Go.Proofs.YtemeeeiglifpaaaDoor

