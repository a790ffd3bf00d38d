/- Slices of slices of bytes, and what the reference joins them to, over whatever program that holds it. -/
import Derived.Test.YtgjedidpimncaaaSame
namespace Go.Proofs.Ytgjedidpimncaaa
open Go.RowKit

def IsB (w : World) (B : Nat) (v : Value) (l : List UInt8) : Prop := ∃ A c, v = .slice A l.length c ∧ Lies w B A (l.map bv) ∧ l.length ≤ c ∧ c ≤ maxLen
theorem IsB.below {w w' : World} {B : Nat} {v : Value} {l : List UInt8} (h : IsB w B v l) (hb : Below B w w') : IsB w' B v l := by
  obtain ⟨A, c, h1, h2, h3, h4⟩ := h
  exact ⟨A, c, h1, h2.below hb, h3, h4⟩
def tot (ps : List (List UInt8)) : Nat := ps.flatten.length
theorem tot_take {ps : List (List UInt8)} {k : Nat} {p : List UInt8} (h : ps[k]? = some p) : tot (ps.take (k + 1)) = tot (ps.take k) + p.length := by
  rw [take_some h]
  simp only [tot, List.flatten_append, List.length_append, List.flatten_cons, List.flatten_nil, List.append_nil]
theorem tot_le (ps : List (List UInt8)) (k : Nat) : tot (ps.take k) ≤ tot ps := by
  have h : ps = ps.take k ++ ps.drop k := (List.take_append_drop k ps).symm
  have h2 : tot ps = tot (ps.take k) + tot (ps.drop k) := by
    conv => lhs; rw [h]
    simp only [tot, List.flatten_append, List.length_append]
  omega
structure Parts (w : World) (B : Nat) (A : Option Addr) (vs : List Value) (ps : List (List UInt8)) : Prop where
  lies : Lies w B A vs
  len : vs.length = ps.length
  each : ∀ (i : Nat) (p : List UInt8), ps[i]? = some p → ∃ v, vs[i]? = some v ∧ IsB w B v p
theorem Parts.at_ {w : World} {B : Nat} {A : Option Addr} {vs : List Value} {ps : List (List UInt8)} (h : Parts w B A vs ps) {k : Nat} (hk : k < ps.length) :
    ∃ ad A' c' p, A = some ad ∧ ad.block < B ∧ Hid (ps[k]? = some p) ∧ w.cell? (ad.add k) = some (.slice A' p.length c') ∧ Lies w B A' (p.map bv) ∧ p.length ≤ c' ∧ c' ≤ maxLen := by
  obtain ⟨v, hv, A', c', h1, h2, h3, h4⟩ := h.each k _ (List.getElem?_eq_getElem hk)
  have hk' : k < vs.length := by rw [h.len]; exact hk
  obtain ⟨ad, ha, hb, hc⟩ := h.lies.at_ hk'
  have hv' : vs[k] = v := by
    rw [List.getElem?_eq_getElem hk'] at hv
    exact Option.some.inj hv
  exact ⟨ad, A', c', ps[k], ha, hb, List.getElem?_eq_getElem hk, by rw [hc, hv', h1], h2, h3, h4⟩
theorem Parts.below {w w' : World} {B : Nat} {A : Option Addr} {vs : List Value} {ps : List (List UInt8)} (h : Parts w B A vs ps) (hb : Below B w w') : Parts w' B A vs ps :=
  ⟨h.lies.below hb, h.len, fun i p hp => by obtain ⟨v, h1, h2⟩ := h.each i p hp; exact ⟨v, h1, h2.below hb⟩⟩

theorem Parts.more {w : World} {B B' : Nat} {A : Option Addr} {vs : List Value} {ps : List (List UInt8)} (h : Parts w B A vs ps) (hB : B ≤ B') : Parts w B' A vs ps :=
  ⟨h.lies.more hB, h.len, fun i p hp => by obtain ⟨v, h1, A', c', h2, h3, h4, h5⟩ := h.each i p hp; exact ⟨v, h1, A', c', h2, h3.more hB, h4, h5⟩⟩

/-! ### Join of the reference -/
theorem rjoin_any (A : Option Addr) (c : Nat) (vs : List Value) (ps : List (List UInt8)) (w : World) (h : Parts w w.heap.size A vs ps) (hn : ps.length ≤ maxLen) (ht : tot ps ≤ 140737488355328) :
    Calls Try.prog 8 #[.slice A ps.length c] w fun e w' => ∃ A' c', e = .returned (.slice A' (tot ps) c') ∧
      w'.ownsRow w.heap.size 5 1 (.slice A' (tot ps) c') (tot ps) (ps.flatten.map bv) ∧ Below w.heap.size w w' := by
  unfold maxLen at hn
  go_enter Try.func8, Try.ntmps8
  go_wp2
  go_loopw [3, 4] (fun v i wr => ∃ (k : Nat) (A' : Option Addr) (c' : Nat), k ≤ ps.length ∧ i = .int .i64 k ∧ v = .slice A' (tot (ps.take k)) c' ∧
      wr.ownsRow w.heap.size 5 1 (.slice A' (tot (ps.take k)) c') (tot (ps.take k)) ((ps.take k).flatten.map bv) ∧ Below w.heap.size w wr)
    (fun _ i _ => ps.length - (intOf i).toNat)
  case atStart => exact ⟨0, _, _, Nat.zero_le _, rfl, rfl, World.ownsRow_nil _ _ _ _, Below.refl _ _⟩
  case round =>
    obtain ⟨k2, A2, c2, hk2, rfl, rfl, hown2, hbel⟩ := hrel
    have t1 := tot_le ps k2
    have t2 := tot_le ps (k2 + 1)
    by_cases hlt2 : k2 < ps.length
    · obtain ⟨ad, A', c', p, rfl, _, hp, hc0, hlp, hl1, hl2⟩ := (h.below hbel).at_ hlt2
      have H2 := Lib.hid (tot_take hp.out)
      have hb1 : tot (ps.take k2) + p.length ≤ 140737488355328 := by have := H2.out; omega
      go_wp2_with (at_builtin; refine wpList_append_lies _ rfl (.tmp 11) (.tmp 15) 24 rfl w.heap.size 5 _ 1 Try.underlying24 u8info rfl _ _ _ rfl hown2 _ A' p.length c' _ rfl (by simp) hlp (one_bytes p) (by omega) (by unfold maxLen; omega) hbel.size ?_; intro A3 c3 w3 hown3 hgrow3 _)
      have hbel3 := below_own hbel hown2 hgrow3 (Nat.le_refl _) hbel.size
      have hown4 : w3.ownsRow w.heap.size 5 1 (.slice A3 (tot (ps.take (k2 + 1))) c3) (tot (ps.take (k2 + 1))) ((ps.take (k2 + 1)).flatten.map bv) := by
        rw [H2.out, take_some hp.out]
        simpa using hown3
      have H4 := Lib.hid hown4
      clear hown4 hown3 hown2 hgrow3
      go_wp2
      go_roundw
      case rel => exact ⟨k2 + 1, A3, c3, by omega, by go_num, by rw [H2.out], H4.out, hbel3⟩
      case measure => simp [intOf]; omega
    · have e1 : ps.take k2 = ps := List.take_of_length_le (by omega)
      rw [e1] at hown2
      have H5 := Lib.hid hown2
      have H6 := Lib.hid e1
      clear hown2 e1
      go_wp2
      go_ret
      exact ⟨A2, c2, ret_slice (by rw [H6.out]), H5.out, hbel⟩
end Go.Proofs.Ytgjedidpimncaaa
