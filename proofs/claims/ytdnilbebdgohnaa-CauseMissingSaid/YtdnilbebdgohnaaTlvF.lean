/- Layer 6, package tlv: Join, for whatever frames. It writes nothing that was there. -/
import Derived.Test.YtdnilbebdgohnaaTlvB

namespace Go.Proofs.Ytdnilbebdgohnaa
open Go.RowKit

/-! ### the bytes of a list -/
def jn (fs : List Fr) : List UInt8 := fs.foldl (fun out f => padB out ++ frB f) []
def piece (n i : Nat) (f : Fr) : List UInt8 := if i + 1 < n then padB (frB f) else frB f
def Fit (f : Fr) : Prop := f.v.length ≤ 65531
instance (f : Fr) : Decidable (Fit f) := by unfold Fit; infer_instance
/-- what lies in the row of the parts behind k rounds -/
structure Row67 (W : World) (g n k : Nat) (fs : List Fr) (vs : List Value) : Prop where
  whole : Whole W g 25 (vs ++ List.replicate (n - k) (Value.slice none 0 0)).toArray
  len : vs.length = k
  each : ∀ (i : Nat) (f : Fr), i < k → fs[i]? = some f → ∃ v, vs[i]? = some v ∧ IsB W W.heap.size v (piece n i f)
theorem IsB.on {W W' : World} {v : Value} {l : List UInt8} (h : IsB W W.heap.size v l) (hb : Below W.heap.size W W') : IsB W' W'.heap.size v l := (h.below hb).more hb.size

/-- a store into a cell that holds no byte leaves what reads as bytes -/
theorem IsB.far {W : World} {B : Nat} {v : Value} {l : List UInt8} (h : IsB W B v l) {p : Addr} {A0 : Option Addr} {n0 c0 : Nat} (hp : W.cell? p = some (.slice A0 n0 c0)) (u : Value) : IsB (W.setCell p u) B v l := by
  obtain ⟨A, c, h1, h2, h3, h4⟩ := h
  refine ⟨A, c, h1, fun hne => ?_, h3, h4⟩
  obtain ⟨ad, h5, h6, h7⟩ := h2 hne
  refine ⟨ad, h5, h6, fun j x hx => ?_⟩
  have h8 := h7 j x hx
  rw [World.cell?_setCell_other W p _ u (fun e => ?_)]
  · exact h8
  · rw [← e, hp] at h8
    rw [List.getElem?_map] at hx
    obtain ⟨y, _, rfl⟩ := Option.map_eq_some_iff.1 hx
    cases h8
theorem Row67.cell {W : World} {g n k : Nat} {fs : List Fr} {vs : List Value} (h : Row67 W g n k fs vs) (hk : k < n) : W.cell? ⟨g, k, none⟩ = some (.slice none 0 0) := by
  rw [h.whole.cell]
  have := h.len
  simp only [List.getElem?_toArray]
  rw [List.getElem?_append_right (by omega), List.getElem?_replicate, if_pos (by omega)]
end Go.Proofs.Ytdnilbebdgohnaa

