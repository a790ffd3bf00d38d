/- Layer 7, package shape: the table of a class, the place of a type in it, Of. They write nothing that was there. -/
import Derived.Test.YtcbheefmggajcaaShapeA
import Derived.Laws.ResultCell
import Derived.Laws.CopyOwn



namespace Go.Proofs.Ytcbheefmggajcaa
open Go.RowKit

/-! ### the place of a type -/
def No (L : List Form) (k : Nat) (t : UInt16) : Prop := ∀ (j : Nat) (f : Form), j < k → L[j]? = some f → f.ty ≠ t
theorem No.zero (L : List Form) (t : UInt16) : No L 0 t := fun j _ h => absurd h (by omega)
theorem No.next {L : List Form} {k : Nat} {t : UInt16} {f : Form} (h : No L k t) (hf : L[k]? = some f) (hn : ¬ f.ty = t) : No L (k + 1) t := fun j g hj hg => by
  by_cases hk : j = k
  · subst hk; rw [hf] at hg; cases hg; exact hn
  · exact h j g (by omega) hg
/-! ### Of -/
theorem Whole.setRow {w : World} {g : Nat} {t : TypeId} {cs : Array Value} (h : Whole w g t cs) (cs' : Array Value) : Whole (w.setRow g cs') g t cs' := setRow_heap w g cs cs' t (0, 0) h
theorem results_row_tmp {P : Program} {fn : Func} {p u : Tmp} {ty : TypeId} (h : fn.results = #[.cell p ty, .tmp u]) (tmps : Array Value) (w : World) (g : Nat) (t : TypeId) (cs : Array Value) (d : TypeDesc)
    (hp : tmps.getD p undef = .pointer (some ⟨g, 0, none⟩)) (hg : Whole w g t cs)
    (hu : P.underlying ty = some d) (hd : (match d with | .struct _ | .array _ _ => true | _ => false) = true) (hi : (P.info? ty).map (·.size) = some cs.size) :
    (results fn tmps).run P w = .ok (.tuple #[.agg cs, tmps.getD u undef]) w := by
  have hp' : tmps[p]?.getD undef = .pointer (some ⟨g, 0, none⟩) := by simpa using hp
  simp only [results, h]
  simp [Result.andThen, hp', asAddr, run_loadVar_row w g t ty cs (0, 0) d hg hu hd hi]
end Go.Proofs.Ytcbheefmggajcaa

