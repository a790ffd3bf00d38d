/- Layer 4, package poly: what is handed back is a reduced list. -/
import Derived.Test.YtgjedidpimncaaaPolyD
namespace Go.Proofs.Ytgjedidpimncaaa
open Go.RowKit

/-- what is handed back is a reduced list of the polynomial f -/
structure Holds (w : World) (f : Nat → Bool) (A : Option Addr) (n c : Nat) (L : List UInt8) : Prop where
  len : L.length = n
  cap : n ≤ c
  can : Can f L
  lies : Lies w w.heap.size A (L.map bv)
theorem Holds.below {w w' : World} {f : Nat → Bool} {A : Option Addr} {n c : Nat} {L : List UInt8} (h : Holds w f A n c L) (hb : Below w.heap.size w w') : Holds w' f A n c L :=
  ⟨h.len, h.cap, h.can, (h.lies.below hb).more hb.size⟩
theorem Can.le {f : Nat → Bool} {L : List UInt8} (h : Can f L) {N : Nat} (hN : ∀ i, N ≤ i → f i = false) : L.length ≤ N := by
  rcases Nat.lt_or_ge N L.length with h1 | h1
  · have := h.last (L.length - 1) (by omega)
    rw [hN _ (by omega)] at this
    cases this
  · exact h1

theorem reduce_row (g m : Nat) (F : Nat → Bool) (w : World) (hrow : Row w g (bits8 F m)) (hm : m ≤ 100000) :
    Calls Try.prog 41 #[.slice (some ⟨g, 0, none⟩) m m] w fun e w' => ∃ A n c L, e = .returned (.slice A n c) ∧
      Holds w' (fun i => decide (i < m) && F i) A n c L ∧ Below w.heap.size w w' := by
  have h := reduce_any (some ⟨g, 0, none⟩) m (bits8 F m) w (hrow.lies hrow.lt) (by rw [bits8_len]; exact hm)
  rw [bits8_len] at h
  refine h.mono ?_
  rintro e w' ⟨rfl, h1, h2⟩
  exact ⟨_, _, _, red (bits8 F m), rfl, ⟨red_len _, Nat.le_refl _, (red_can _).congr fun i => co_bits8 F m i, h1.lies h1.lt⟩, h2⟩
end Go.Proofs.Ytgjedidpimncaaa
