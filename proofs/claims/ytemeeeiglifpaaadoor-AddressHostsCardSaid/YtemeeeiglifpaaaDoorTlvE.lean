/- Layer 6, package tlv: Split, for whatever bytes. -/
import Derived.Test.YtemeeeiglifpaaaDoorTlvD
import Derived.Test.YtemeeeiglifpaaaDoorRange
import Derived.Test.YtemeeeiglifpaaaDoorAppOne



namespace Go.Proofs.YtemeeeiglifpaaaDoor
open Go.RowKit Go.Shelf

attribute [local go_sem] Oper.semAt_some

section
variable {w W W' A B : World} {Bl n₀ : Nat} {ys : List Yf}
theorem boxed_lt {i : Nat} {t : TypeId} {v : Value} (h : Boxed W i t v) : i < W.heap.size := (Array.getElem?_eq_some_iff.1 h).1
theorem boxed_uniq {i : Nat} {t : TypeId} {u v : Value} (h : Boxed W i t u) (k : Boxed W i t v) : u = v := by
  unfold Boxed at h k
  rw [h] at k
  simpa using k
end


/-! ### what Split hands back -/
/-- the bytes of an element, in a row of their own, that a store of another type leaves as they are -/
def RowO (W : World) (A : Option Addr) (c : Nat) (l : List UInt8) : Prop := ∃ base, W.ownsRow base 5 1 (.slice A l.length c) l.length (l.map bv)
theorem RowO.set {W : World} {A : Option Addr} {c : Nat} {l : List UInt8} (h : RowO W A c l) {i : Nat} {t : TypeId} {v : Value} (hb : Boxed W i t v) (ht : t ≠ 5) (u : Value) : RowO (W.setCell ⟨i, 0, none⟩ u) A c l := by
  obtain ⟨base, h⟩ := h
  exact ⟨base, h.kept (grownBy_setCell' W i _) (.inr (hb.not_row ht h).symm)⟩
theorem RowO.put {W : World} {A : Option Addr} {c : Nat} {l : List UInt8} (h : RowO W A c l) {D : Nat} {o : Obj} (o' : Obj) (hD : W.heap[D]? = some o) (ho : o.isCells = false) : RowO (W.putObj D o') A c l := by
  obtain ⟨base, h⟩ := h
  exact ⟨base, ownsRow_putObj h _ hD ho⟩
/-! ### results that lie in two cells -/
end Go.Proofs.YtemeeeiglifpaaaDoor

