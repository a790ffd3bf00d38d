/- Layer 6, package tlv: Join, for whatever frames. It writes nothing that was there. -/
import Derived.Test.YtemeeeiglifpaaaDoorTlvB

namespace Go.Proofs.YtemeeeiglifpaaaDoor
open Go.RowKit

/-! ### the bytes of a list -/
def jn (fs : List Fr) : List UInt8 := fs.foldl (fun out f => padB out ++ frB f) []
theorem jn_snoc (fs : List Fr) (f : Fr) : jn (fs ++ [f]) = padB (jn fs) ++ frB f := by simp [jn]
theorem jn_take {fs : List Fr} {k : Nat} {f : Fr} (h : fs[k]? = some f) : jn (fs.take (k + 1)) = padB (jn (fs.take k)) ++ frB f := by rw [take_some h, jn_snoc]
def piece (n i : Nat) (f : Fr) : List UInt8 := if i + 1 < n then padB (frB f) else frB f
def Fit (f : Fr) : Prop := f.v.length ≤ 65531
instance (f : Fr) : Decidable (Fit f) := by unfold Fit; infer_instance
/-- what lies in the row of the parts behind k rounds -/
structure Row67 (W : World) (g n k : Nat) (fs : List Fr) (vs : List Value) : Prop where
  whole : Whole W g 24 (vs ++ List.replicate (n - k) (Value.slice none 0 0)).toArray
  len : vs.length = k
  each : ∀ (i : Nat) (f : Fr), i < k → fs[i]? = some f → ∃ v, vs[i]? = some v ∧ IsB W W.heap.size v (piece n i f)
theorem IsB.on {W W' : World} {v : Value} {l : List UInt8} (h : IsB W W.heap.size v l) (hb : Below W.heap.size W W') : IsB W' W'.heap.size v l := (h.below hb).more hb.size

/-- a store into a cell that holds no byte leaves what reads as bytes -/
theorem IsB.far {W : World} {B : Nat} {v : Value} {l : List UInt8} (h : IsB W B v l) {p : Addr} {A0 : Option Addr} {n0 c0 : Nat} (hp : W.cell? p = some (.slice A0 n0 c0)) (u : Value) : IsB (W.setCell p u) B v l := by
  obtain ⟨A, c, h1, h2, h3, h4⟩ := h
  refine ⟨A, c, h1, fun hne => ?_, h3, h4⟩
  obtain ⟨ad, h5, h6, h7⟩ := h2 hne
  refine ⟨ad, h5, h6, fun j x hx => ?_⟩
  have h8 := h7 j x hx
  rw [World.cell?_setCell_other W p _ u (fun e => ?_)]
  · exact h8
  · rw [← e, hp] at h8
    rw [List.getElem?_map] at hx
    obtain ⟨y, _, rfl⟩ := Option.map_eq_some_iff.1 hx
    cases h8
theorem Row67.cell {W : World} {g n k : Nat} {fs : List Fr} {vs : List Value} (h : Row67 W g n k fs vs) (hk : k < n) : W.cell? ⟨g, k, none⟩ = some (.slice none 0 0) := by
  rw [h.whole.cell]
  have := h.len
  simp only [List.getElem?_toArray]
  rw [List.getElem?_append_right (by omega), List.getElem?_replicate, if_pos (by omega)]
theorem Row67.step {W W3 : World} {g n k : Nat} {fs : List Fr} {vs : List Value} (h : Row67 W g n k fs vs) (hb : Below W.heap.size W W3) {v : Value} {f : Fr} (hf : fs[k]? = some f) (hk : k < n) (hv : IsB W3 W3.heap.size v (piece n k f)) :
    Row67 (W3.setCell ⟨g, k, none⟩ v) g n (k + 1) fs (vs ++ [v]) := by
  have hl := h.len
  have h3 : Row67 W3 g n k fs vs := ⟨h.whole.below hb h.whole.lt, hl, fun i f hi hf => by obtain ⟨u, h1, h2⟩ := h.each i f hi hf; exact ⟨u, h1, h2.on hb⟩⟩
  have hc := h3.cell hk
  have hsz : (W3.setCell ⟨g, k, none⟩ v).heap.size = W3.heap.size := by simp [World.setCell]
  refine ⟨?_, by simp [hl], fun i f' hi hf' => ?_⟩
  · have h4 := h3.whole.set_ k v
    rw [List.setIfInBounds_toArray, List.set_append_right _ _ (by omega), hl, Nat.sub_self] at h4
    obtain ⟨m, hm⟩ : ∃ m, n - k = m + 1 := ⟨n - k - 1, by omega⟩
    rw [hm, List.replicate_succ, List.set_cons_zero] at h4
    rw [show n - (k + 1) = m by omega, List.append_assoc]
    exact h4
  · rcases Nat.lt_or_ge i k with hlt | hge
    · obtain ⟨u, h1, h2⟩ := h3.each i f' hlt hf'
      exact ⟨u, by rw [List.getElem?_append_left (by omega)]; exact h1, by rw [hsz]; exact h2.far hc v⟩
    · obtain rfl : i = k := by omega
      rw [hf] at hf'
      cases hf'
      exact ⟨v, by rw [List.getElem?_append_right (by omega), hl, Nat.sub_self]; rfl, by rw [hsz]; exact hv.far hc v⟩
end Go.Proofs.YtemeeeiglifpaaaDoor

