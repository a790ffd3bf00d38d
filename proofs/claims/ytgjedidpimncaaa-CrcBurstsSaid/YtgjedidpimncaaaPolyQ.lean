/- Layer 4: calls on results. -/
import Derived.Test.YtgjedidpimncaaaPolyP
namespace Go.Proofs.Ytgjedidpimncaaa
open Go.RowKit

theorem Holds.congr {w : World} {f g : Nat → Bool} {A : Option Addr} {n c : Nat} {L : List UInt8} (h : Holds w f A n c L) (e : ∀ i, f i = g i) : Holds w g A n c L :=
  ⟨h.len, h.cap, h.can.congr e, h.lies⟩
theorem Holds.drewN {w : World} {f : Nat → Bool} {A : Option Addr} {n c : Nat} {L : List UInt8} (h : Holds w f A n c L) (q : Nat) : Holds (w.drewN q) f A n c L :=
  ⟨h.len, h.cap, h.can, h.lies⟩
theorem below_drew {w w' : World} {B q : Nat} (h : w' = w.drewN q) (hB : B ≤ w.heap.size) : Below B w w' := by
  rw [h]; exact below_drewN ((Below.refl _ w).mono hB) _
theorem can_of_red {l : List UInt8} (h : red l = l) : Can (co l) l := by
  have := red_can l
  rwa [h] at this
/-- .. one of them written out -/
theorem lit_holds (w : World) (M : List UInt8) (h : red M = M) : Holds (wal w 5 (M.map bv)) (co M) (some ⟨w.heap.size, 0, none⟩) M.length M.length M :=
  ⟨rfl, Nat.le_refl _, can_of_red h, (Lies.newN w _ _).more (by simp [wal])⟩
theorem Holds.lit {w : World} {f : Nat → Bool} {A : Option Addr} {n c : Nat} {L : List UInt8} (h : Holds w f A n c L) (t : TypeId) (us : List Value) : Holds (wal w t us) f A n c L := h.below (below_wal _ _ _)
theorem Holds.co_eq {w : World} {f : Nat → Bool} {A : Option Addr} {n c : Nat} {L : List UInt8} (h : Holds w f A n c L) : co L = f := funext h.can.co
theorem add_lit {A Ap : Option Addr} {c cp : Nat} {a p : List UInt8} {w : World} (ha : Lies w w.heap.size A (a.map bv)) (hp : Lies w w.heap.size Ap (p.map bv)) (hla : a.length ≤ 10000) (hlp : p.length ≤ 10000) (hpc : p.length ≤ cp) :
    Calls Try.prog 32 #[.slice A a.length c, .slice (some ⟨w.heap.size, 0, none⟩) 1 1] (w.alloc (.cells #[.slice Ap p.length cp] 50)) fun e w' => ∃ A n c L, e = .returned (.slice A n c) ∧
      Holds w' (fun i => co a i ^^ co p i) A n c L ∧ Below w.heap.size w w' := by
  have hb : Below w.heap.size w (w.alloc (.cells #[.slice Ap p.length cp] 50)) := (Below.refl _ w).alloc (Nat.le_refl _) _
  have hc : (w.alloc (.cells #[.slice Ap p.length cp] 50)).cell? ⟨w.heap.size, 0, none⟩ = some (.slice Ap p.length cp) := Whole.cell (Whole.new w _ _) 0
  have hs : (w.alloc (.cells #[.slice Ap p.length cp] 50)).heap.size = w.heap.size + 1 := size_alloc _ _
  generalize w.alloc (.cells #[.slice Ap p.length cp] 50) = w1 at *
  refine (add_any A Ap c cp 1 ⟨w.heap.size, 0, none⟩ a p w1 ((ha.below hb).more hb.size) ((hp.below hb).more hb.size) (by rw [hs]; exact Nat.lt_succ_self _) hc hla hlp hpc).mono ?_
  rintro e w' ⟨A', n', c', L, rfl, h1, h2⟩
  exact ⟨A', n', c', L, rfl, h1, hb.trans (h2.mono hb.size)⟩
theorem add_holds {f g : Nat → Bool} {A A' : Option Addr} {n c n' c' : Nat} {L M : List UInt8} {w : World} (h1 : Holds w f A n c L) (h2 : Holds w g A' n' c' M) (hn : n ≤ 10000) (hn' : n' ≤ 10000) :
    Calls Try.prog 32 #[.slice A n c, .slice (some ⟨w.heap.size, 0, none⟩) 1 1] (w.alloc (.cells #[.slice A' n' c'] 50)) fun e w' => ∃ A n c L, e = .returned (.slice A n c) ∧
      Holds w' (fun i => f i ^^ g i) A n c L ∧ Below w.heap.size w w' := by
  have h := add_lit (c := c) (cp := c') h1.lies h2.lies (by rw [h1.len]; exact hn) (by rw [h2.len]; exact hn') (by rw [h2.len]; exact h2.cap)
  rw [h1.len, h2.len, h1.co_eq, h2.co_eq] at h
  exact h
theorem mod_holds {f : Nat → Bool} {A A' : Option Addr} {n c c' d : Nat} {L g : List UInt8} {w : World} (h1 : Holds w f A n c L) (hg : Lies w w.heap.size A' (g.map bv)) (hn : n ≤ 10000) (hlg : g.length ≤ 10000) (hd : rl g = d + 1) :
    Calls Try.prog 43 #[.slice A n c, .slice A' g.length c'] w fun e w' => ∃ R A n c L, e = .returned (.tuple #[.slice A n c, .bool true]) ∧
      Rem f (co g) d R ∧ Holds w' R A n c L ∧ Below w.heap.size w w' := by
  have h := mod_any A A' c c' d L g w h1.lies hg (by rw [h1.len]; exact hn) hlg hd
  rw [h1.len, h1.co_eq] at h
  exact h
theorem word_holds {f : Nat → Bool} {A : Option Addr} {n c : Nat} {L : List UInt8} {w : World} (h : Holds w f A n c L) (hn : n ≤ 32) :
    Calls Try.prog 45 #[.slice A n c] w fun e w' => e = .returned (.tuple #[.int .u32 (wd f 32 : Nat), .bool true]) ∧ w = w' := by
  have h0 := word_any A c w.heap.size L w h.lies (by rw [h.len]; omega) (by rw [h.can.rl, h.len]; exact hn)
  rw [h.len, h.co_eq] at h0
  exact h0
theorem degree_holds {f : Nat → Bool} {A : Option Addr} {n c : Nat} {L : List UInt8} {w : World} (h : Holds w f A n c L) (hn : n ≤ 10000) :
    Calls Try.prog 40 #[.slice A n c] w fun e w' => e = .returned (.int .i64 ((n : Int) - 1)) ∧ w = w' := by
  have h0 := degree_any A c w.heap.size L w h.lies (by rw [h.len]; omega)
  rw [h.can.rl, h.len] at h0
  exact h0
theorem gen_len : genL.length = 33 := bits8_len _ _
theorem Row.holds {w : World} {g : Nat} {l : List UInt8} {f : Nat → Bool} (h : Row w g l) (hc : Can f l) {n : Nat} (hn : l.length = n) : Holds w f (some ⟨g, 0, none⟩) n n l :=
  ⟨hn, Nat.le_refl _, hc, h.lies h.lt⟩
theorem Holds.small {w : World} {f : Nat → Bool} {A : Option Addr} {n c : Nat} {L : List UInt8} (h : Holds w f A n c L) {N : Nat} (hN : ∀ i, N ≤ i → f i = false) : n ≤ N := by
  rw [← h.len]; exact h.can.le hN
theorem rword_holds {f : Nat → Bool} {A : Option Addr} {n c : Nat} {L : List UInt8} {w : World} (h : Holds w f A n c L) :
    Calls Try.prog 26 #[.slice A n c] w fun e w' => e = .returned (.int .u32 (wd f 32 : Nat)) ∧ w = w' := by
  have h0 := rword_any A c w.heap.size L w h.lies
  rw [h.len, h.co_eq] at h0
  exact h0
theorem shift_holds {f : Nat → Bool} {A : Option Addr} {n c : Nat} {L : List UInt8} {w : World} (h : Holds w f A n c L) (k : Nat) (hn : n ≤ 10000) (hk : k ≤ 10000) :
    Calls Try.prog 28 #[.slice A n c, .int .i64 (k : Int)] w fun e w' => ∃ A n' c' L, e = .returned (.slice A n' c') ∧ Holds w' (shl f k) A n' c' L ∧ Below w.heap.size w w' := by
  have h0 := shift_all A c L k w h.lies (by rw [h.len]; exact hn) hk
  rw [h.len, h.co_eq] at h0
  exact h0
end Go.Proofs.Ytgjedidpimncaaa
