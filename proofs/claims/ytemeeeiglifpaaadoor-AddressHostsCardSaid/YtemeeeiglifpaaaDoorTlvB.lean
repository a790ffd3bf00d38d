/- Layer 6, package tlv: Put of what doesn't fit, Same; lists of frames in memory; Size. -/
import Derived.Test.YtemeeeiglifpaaaDoorTlvA
import Derived.Test.YtemeeeiglifpaaaDoorEqual


namespace Go.Proofs.YtemeeeiglifpaaaDoor
open Go.RowKit

/-! ### lists of frames in memory -/
structure Frames (w : World) (B : Nat) (A : Option Addr) (vs : List Value) (fs : List Fr) : Prop where
  lies : Lies w B A vs
  len : vs.length = fs.length * 2
  each : ∀ (i : Nat) (f : Fr), fs[i]? = some f → ∃ v, vs[i * 2]? = some (hv f.t) ∧ vs[i * 2 + 1]? = some v ∧ IsB w B v f.v
section
variable {w w' : World} {B B' : Nat} {A : Option Addr} {vs : List Value} {fs : List Fr}
theorem Frames.at_ (h : Frames w B A vs fs) {k : Nat} (hk : k < fs.length) :
    ∃ ad A' c' f, A = some ad ∧ ad.block < B ∧ Hid (fs[k]? = some f) ∧ w.cell? (ad.add (k * 2)) = some (hv f.t) ∧ w.cell? ⟨(ad.add (k * 2)).block, (ad.add (k * 2)).off + 1, none⟩ = some (.slice A' f.v.length c') ∧ Lies w B A' (f.v.map bv) ∧ f.v.length ≤ c' ∧ c' ≤ maxLen := by
  obtain ⟨v, hv0, hv1, A', c', rfl, h2, h3, h4⟩ := h.each k _ (List.getElem?_eq_getElem hk)
  have hl := h.len
  obtain ⟨ad, ha, hb, hc⟩ := h.lies (fun e => by rw [e] at hl; simp at hl; omega)
  exact ⟨ad, A', c', fs[k], ha, hb, List.getElem?_eq_getElem hk, hc _ _ hv0, by have h5 := hc _ _ hv1; rw [← add_add'] at h5; exact h5, h2, h3, h4⟩
theorem Frames.below (h : Frames w B A vs fs) (hb : Below B w w') : Frames w' B A vs fs :=
  ⟨h.lies.below hb, h.len, fun i f hf => by obtain ⟨v, h1, h2, h3⟩ := h.each i f hf; exact ⟨v, h1, h2, h3.below hb⟩⟩
theorem IsB.more {v : Value} {l : List UInt8} (h : IsB w B v l) (hB : B ≤ B') : IsB w B' v l := by
  obtain ⟨A', c', h2, h3, h4⟩ := h
  exact ⟨A', c', h2, h3.more hB, h4⟩
theorem Frames.more (h : Frames w B A vs fs) (hB : B ≤ B') : Frames w B' A vs fs :=
  ⟨h.lies.more hB, h.len, fun i f hf => by obtain ⟨v, h1, h2, h3⟩ := h.each i f hf; exact ⟨v, h1, h2, h3.more hB⟩⟩
end

theorem Whole.lies {w : World} {g B : Nat} {t : TypeId} {xs : List Value} (h : Whole w g t xs.toArray) (hB : g < B) : Lies w B (some ⟨g, 0, none⟩) xs := fun _ =>
  ⟨_, rfl, hB, fun j u hu => by rw [add_row, h.cell]; simpa using hu⟩

/-! ### Size -/
end Go.Proofs.YtemeeeiglifpaaaDoor

