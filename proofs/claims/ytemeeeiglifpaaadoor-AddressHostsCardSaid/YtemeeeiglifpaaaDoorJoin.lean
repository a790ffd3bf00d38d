/- Slices of slices of bytes, over whatever program. -/
import Derived.Test.YtemeeeiglifpaaaDoorSame

namespace Go.Proofs.YtemeeeiglifpaaaDoor
open Go.RowKit

def IsB (w : World) (B : Nat) (v : Value) (l : List UInt8) : Prop := ∃ A c, v = .slice A l.length c ∧ Lies w B A (l.map bv) ∧ l.length ≤ c ∧ c ≤ maxLen
theorem IsB.below {w w' : World} {B : Nat} {v : Value} {l : List UInt8} (h : IsB w B v l) (hb : Below B w w') : IsB w' B v l := by
  obtain ⟨A, c, h1, h2, h3, h4⟩ := h
  exact ⟨A, c, h1, h2.below hb, h3, h4⟩
structure Parts (w : World) (B : Nat) (A : Option Addr) (vs : List Value) (ps : List (List UInt8)) : Prop where
  lies : Lies w B A vs
  len : vs.length = ps.length
  each : ∀ (i : Nat) (p : List UInt8), ps[i]? = some p → ∃ v, vs[i]? = some v ∧ IsB w B v p
theorem Parts.at_ {w : World} {B : Nat} {A : Option Addr} {vs : List Value} {ps : List (List UInt8)} (h : Parts w B A vs ps) {k : Nat} (hk : k < ps.length) :
    ∃ ad A' c' p, A = some ad ∧ ad.block < B ∧ Hid (ps[k]? = some p) ∧ w.cell? (ad.add k) = some (.slice A' p.length c') ∧ Lies w B A' (p.map bv) ∧ p.length ≤ c' ∧ c' ≤ maxLen := by
  obtain ⟨v, hv, A', c', h1, h2, h3, h4⟩ := h.each k _ (List.getElem?_eq_getElem hk)
  have hk' : k < vs.length := by rw [h.len]; exact hk
  obtain ⟨ad, ha, hb, hc⟩ := h.lies.at_ hk'
  have hv' : vs[k] = v := by
    rw [List.getElem?_eq_getElem hk'] at hv
    exact Option.some.inj hv
  exact ⟨ad, A', c', ps[k], ha, hb, List.getElem?_eq_getElem hk, by rw [hc, hv', h1], h2, h3, h4⟩
theorem Parts.below {w w' : World} {B : Nat} {A : Option Addr} {vs : List Value} {ps : List (List UInt8)} (h : Parts w B A vs ps) (hb : Below B w w') : Parts w' B A vs ps :=
  ⟨h.lies.below hb, h.len, fun i p hp => by obtain ⟨v, h1, h2⟩ := h.each i p hp; exact ⟨v, h1, h2.below hb⟩⟩

theorem Parts.more {w : World} {B B' : Nat} {A : Option Addr} {vs : List Value} {ps : List (List UInt8)} (h : Parts w B A vs ps) (hB : B ≤ B') : Parts w B' A vs ps :=
  ⟨h.lies.more hB, h.len, fun i p hp => by obtain ⟨v, h1, A', c', h2, h3, h4, h5⟩ := h.each i p hp; exact ⟨v, h1, A', c', h2, h3.more hB, h4, h5⟩⟩

end Go.Proofs.YtemeeeiglifpaaaDoor

