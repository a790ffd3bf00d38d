/- What an argument of slices of bytes reads as. -/
import Derived.Test.YtgjedidpimncaaaJoin
import Derived.Test.YtgjedidpimncaaaOpen
namespace Go.Proofs.Ytgjedidpimncaaa
open Go.RowKit Go.ChangeShapes Go.WideShapes Go.ChangeAt

theorem bytes_u8 : Try.prog.bytesOf 5 = 1 := by kernel_rfl

theorem open_parts {H : Type} {enc : TypeId × Value → H} {w : World} {fuel : Nat} {x : DataW H × List MemPlace} {A : Option Addr} {len cap : Nat}
    (h : DataW.trod enc Try.prog w 0 (fun _ => true) true fuel 22 [.slice A len cap] = some x) (hs : Small Try.prog 22 x.1) :
    ∃ (vs : List Value) (ps : List (List UInt8)), len = ps.length ∧ Parts w w.heap.size A vs ps ∧ len ≤ cap ∧ cap ≤ maxLen ∧ ∀ (i : Nat) (p : List UInt8), ps[i]? = some p → p.length ≤ 140737488351232 := by
  obtain ⟨cs, n, h1, h2, h3, h4, _, h5⟩ := open_cells (k := 1) Try.underlying22 (by kernel_rfl) (by omega) h hs
  have h6 : ∀ i, i < len → ∃ p : List UInt8, ∃ v, cs[i]? = some v ∧ IsB w w.heap.size v p ∧ p.length ≤ 140737488351232 := by
    intro i hi
    obtain ⟨y, hy, hsy⟩ := h5 i hi
    have hi' : i < cs.length := by omega
    have e : (cs.drop (i * 1)).take 1 = [cs[i]] := by
      rw [Nat.mul_one, List.drop_eq_getElem_cons hi']
      rfl
    rw [e] at hy
    obtain ⟨A', l', c', hv⟩ := slice_of_trod Try.underlying24 hy
    rw [hv] at hy
    obtain ⟨p, rfl, g2, g3, g4⟩ := open_bytes Try.underlying24 Try.underlying5 (by kernel_rfl) hy
    obtain ⟨_, _, _, _, _, _, g5, _⟩ := open_cells (k := 1) Try.underlying24 (by kernel_rfl) (by omega) hy hsy
    rw [bytes_u8] at g5
    unfold reachBytes at g5
    exact ⟨p, cs[i], List.getElem?_eq_getElem hi', ⟨A', c', hv, g2, g3, g4⟩, by omega⟩
  obtain ⟨ps, p1, p2⟩ := build_list len h6
  refine ⟨cs, ps, p1.symm, ⟨h2, by omega, fun i p hp => ?_⟩, h3, h4, fun i p hp => ?_⟩
  · obtain ⟨v, hv, hb, _⟩ := p2 i p hp
    exact ⟨v, hv, hb⟩
  · obtain ⟨v, hv, hb, hl⟩ := p2 i p hp
    exact hl
end Go.Proofs.Ytgjedidpimncaaa
